import Derived.Test.YtolifmpkillglaaGreatDoorIk
set_option linter.unusedVariables false
set_option maxRecDepth 100000
namespace Go.Proofs.YtolifmpkillglaaGreatDoor
open Go.RowKit
/-! All instructions that bytes are: the walk. -/
theorem RI.val_eq (s0 s1 s2 s3 s4 s5 s6 s7 : Int) (tA : Option Addr) (tn tc : Nat) (mA : Option Addr) (mn mc : Nat) : RI.val ⟨⟨s0, s1, s2, s3, s4, s5, s6, s7⟩, tA, tn, tc, mA, mn, mc⟩ = .agg #[.int .i64 s0, .int .u8 s1, .int .i64 s2, .int .u8 s3, .int .u16 s4, .int .i64 s5, .int .i64 s6, .slice tA tn tc, .slice mA mn mc, .int .u16 s7] := rfl
theorem InsN.lessS {w : World} {S S' : Nat → Prop} {r : RI} {x : Ins} (h : InsN w S r x) (hs : ∀ k, S' k → S k) : InsN w S' r x := ⟨h.sc, h.tab.less hs, h.mat.less hs⟩
def Fine (n : Nat) (D : List Ins) : Prop := ∀ j, j < D.length → (∃ a : Nat, (D.getD j Ins.zero).sc.at_ = a ∧ a < n) ∧ (0 ≤ (D.getD j Ins.zero).sc.op ∧ (D.getD j Ins.zero).sc.op < 256) ∧ (D.getD j Ins.zero).tab.length ≤ 65536
theorem Fine.nil (n : Nat) : Fine n [] := fun j h => absurd h (by simp)
theorem Fine.more {n : Nat} {D : List Ins} (h : Fine n D) {x : Ins} (h1 : ∃ a : Nat, x.sc.at_ = a ∧ a < n) (h2 : 0 ≤ x.sc.op ∧ x.sc.op < 256) (h3 : x.tab.length ≤ 65536) : Fine n (D ++ [x]) := by
  intro j hj
  rw [List.length_append] at hj
  by_cases hlt : j < D.length
  · have e : (D ++ [x]).getD j Ins.zero = D.getD j Ins.zero := by
      rw [List.getD_eq_getElem?_getD, List.getD_eq_getElem?_getD, List.getElem?_append_left hlt]
    rw [e]
    exact h j hlt
  · have e : (D ++ [x]).getD j Ins.zero = x := by
      obtain rfl : j = D.length := by simp at hj; omega
      simp [List.getD_eq_getElem?_getD]
    rw [e]
    exact ⟨h1, h2, h3⟩
def AllRSaid (l : List Int) : Prop := ∀ (w : World) (B : Nat) (A : Option Addr) (n c : Nat), Tab w → Rd w B A n l → n ≤ c → n ≤ 2000 → B ≤ w.heap.size →
  Calls Tryz.prog 20 #[.slice A n c] w fun e w' => ∃ v A' c' rs, e = .returned (.tuple #[.slice A' (readL l).2.length c', v]) ∧ EV v (readL l).1 ∧ IN w' w.heap.size A' (readL l).2.length c' rs (readL l).2 ∧ Below w.heap.size w w'
set_option maxHeartbeats 4000000 in
theorem all_reads (l : List Int) : AllRSaid l := by
  intro w B A n c T hr hn hc hB
  have hl := hr.len
  have hrg := hr.rg
  have H0 := Lib.hid (readL_0 l)
  have HE := Lib.hid (readL_e l)
  have HW := Lib.hid (readL_w l)
  generalize readL l = R at H0 HE HW ⊢
  by_cases hz : n = 0
  · have he := H0.out (by omega)
    subst he
    clear T hr
    subst hz
    go_enter Tryz.func20, Tryz.ntmps20
    go_wp2_with fail
    go_returns
    exact ⟨_, none, 0, rfl, EV.mis _ _, ⟨[], IN.nil _ _⟩, Below.refl _ _⟩
  · have hn0 : ¬ (n : Int) = 0 := by omega
    have hn1 : ((n : Int) == 0) = false := by simpa using hn0
    have HT := Lib.hid T
    have HR := Lib.hid hr
    have HI := Lib.hid (readI_any l)
    have HOKE := Lib.hid (insE_ok l)
    have HEE := Lib.hid (insE_e l)
    have HS := Lib.hid (goOn_step l)
    have HG := Lib.hid (goOn_err l)
    have HN := Lib.hid (goOn_end l)
    have HL := Lib.hid (goOn_nil l n 0)
    rw [hl] at HE HW
    clear T hr
    go_enter Tryz.func20, Tryz.ntmps20
    go_wp2_with fail
    go_loopw [4, 5] (fun s p wr => ∃ (i f : Nat) (D : List Ins) (A' : Option Addr) (c' : Nat) (rs : List RI), s = .slice A' D.length c' ∧ p = .int .i64 i ∧ i ≤ n ∧ D.length ≤ i ∧ n ≤ i + f ∧ IN wr w.heap.size A' D.length c' rs D ∧ Fine n D ∧ goOn D (readF l f i) = goOn [] (readF l n 0) ∧ Below w.heap.size w wr) (fun _ p _ => n - (intOf p).toNat)
    case atStart => exact ⟨0, n, [], none, 0, [], rfl, rfl, Nat.zero_le _, Nat.le_refl _, by omega, IN.nil _ _, Fine.nil _, rfl, Below.refl _ _⟩
    case round =>
      obtain ⟨i, f, D, A', c', rs, rfl, rfl, hi, hDi, hf, IN0, hF, hgo, Bw⟩ := hrel
      have i0 : (0 : Int) ≤ (i : Int) := by omega
      have hzw := Bw.size
      by_cases hlt : (i : Int) < (n : Int)
      · obtain ⟨f, rfl⟩ : ∃ g, f = g + 1 := ⟨f - 1, by omega⟩
        have HC := Lib.hid (HI.out i wr B A n c (HT.out.below' Bw) (HR.out.below Bw hB) hn hc (by omega) (by omega))
        have hok := HOKE.out i hrg (by omega)
        have hee := HEE.out i
        have hst := HS.out D f i (by omega)
        have her := HG.out D f i (by omega)
        generalize insE l i = E at HC hok hee hst her
        obtain ⟨er, x, nx⟩ := E
        simp only at HC hok hee hst her
        have HIN := Lib.hid IN0
        have HB := Lib.hid Bw
        have HF := Lib.hid hF
        have HGO := Lib.hid hgo
        have HOK := Lib.hid hok
        have HST := Lib.hid hst
        have HER := Lib.hid her
        have HEE1 := Lib.hid hee
        have hAb : ∀ b o sp, A' = some ⟨b, o, sp⟩ → b < wr.heap.size := fun b o sp h => (IN0.rv.out b o sp h).2
        clear IN0 Bw hF hgo hok hst her hee
        go_wp2_with fail
        refine HC.out.mono ?_
        rintro e w2 ⟨v, r, rfl, ev, N2, b2⟩
        have hz2 := b2.size
        have hEV := Lib.hid ev
        have HN2 := Lib.hid N2
        obtain ⟨⟨s0, s1, s2, s3, s4, s5, s6, s7⟩, tA, tn, tc, mA, mn, mc⟩ := r
        rw [RI.val_eq]
        have HIN := Lib.hid (HIN.out.below b2)
        have HB := Lib.hid (HB.out.trans (b2.mono (by omega)))
        clear N2 b2 ev HC
        have HN2 : Hid (InsN w2 (Off A' w.heap.size) ⟨⟨s0, s1, s2, s3, s4, s5, s6, s7⟩, tA, tn, tc, mA, mn, mc⟩ x) := Lib.hid (HN2.out.lessS (fun q hq => by
          rcases hq with h | ⟨⟨b, o, sp⟩, ha, rfl⟩
          · exact Nat.lt_of_lt_of_le h hzw
          · exact hAb b o sp ha))
        have HIN := Lib.hid (HIN.out.below (below_new w2 (.cells #[.int .i64 s0, .int .u8 s1, .int .i64 s2, .int .u8 s3, .int .u16 s4, .int .i64 s5, .int .i64 s6, .slice tA tn tc, .slice mA mn mc, .int .u16 s7] 28)))
        have HN2 := Lib.hid (HN2.out.below (below_new w2 (.cells #[.int .i64 s0, .int .u8 s1, .int .i64 s2, .int .u8 s3, .int .u16 s4, .int .i64 s5, .int .i64 s6, .slice tA tn tc, .slice mA mn mc, .int .u16 s7] 28)))
        have HBX := Lib.hid (Blk.new w2 #[.int .i64 s0, .int .u8 s1, .int .i64 s2, .int .u8 s3, .int .u16 s4, .int .i64 s5, .int .i64 s6, .slice tA tn tc, .slice mA mn mc, .int .u16 s7] 28)
        have HB := Lib.hid (HB.out.alloc (by omega) (.cells #[.int .i64 s0, .int .u8 s1, .int .i64 s2, .int .u8 s3, .int .u16 s4, .int .i64 s5, .int .i64 s6, .slice tA tn tc, .slice mA mn mc, .int .u16 s7] 28))
        have HZ : Hid ((w2.alloc (.cells #[.int .i64 s0, .int .u8 s1, .int .i64 s2, .int .u8 s3, .int .u16 s4, .int .i64 s5, .int .i64 s6, .slice tA tn tc, .slice mA mn mc, .int .u16 s7] 28)).heap.size = w2.heap.size + 1) := Lib.hid (by simp)
        go_upto_region 7 with (fail)
        generalize w2.alloc (.cells #[.int .i64 s0, .int .u8 s1, .int .i64 s2, .int .u8 s3, .int .u16 s4, .int .i64 s5, .int .i64 s6, .slice tA tn tc, .slice mA mn mc, .int .u16 s7] 28) = w3 at HIN HN2 HBX HB HZ ⊢
        rcases HEE1.out with h0 | h45
        · subst h0
          have hv : v = .nilIface := by
            rcases hEV.out with ⟨_, h⟩ | ⟨h, _⟩ | ⟨h, _⟩
            · exact h
            · exact absurd h (by decide)
            · exact absurd h (by decide)
          subst hv
          obtain ⟨ok1, ok2, ok3, ok4, ok5, ok6⟩ := HOK.out (by first | rfl | trivial)
          have hgo2 := HST.out (by first | rfl | trivial)
          have HGO2 := Lib.hid (hgo2.symm.trans HGO.out)
          have hop := rng_getD hrg i
          rw [← ok2] at hop
          have HF2 := Lib.hid (HF.out.more (x := x) ⟨i, ok1, by omega⟩ hop ok3)
          have hsc : (⟨s0, s1, s2, s3, s4, s5, s6, s7⟩ : Sc).ok := by
            have h3 := HN2.out.sc
            simp only at h3
            rw [h3]
            exact ok6
          have HRV := Lib.hid (rv_ri w3 ⟨⟨s0, s1, s2, s3, s4, s5, s6, s7⟩, tA, tn, tc, mA, mn, mc⟩ hsc)
          have HOWN := Lib.hid ((HIN.out.own HN2.out).alloc (.cells #[.int .i64 s0, .int .u8 s1, .int .i64 s2, .int .u8 s3, .int .u16 s4, .int .i64 s5, .int .i64 s6, .slice tA tn tc, .slice mA mn mc, .int .u16 s7] 28))
          have HLV : Hid (∀ k, KeepS w.heap.size (rs ++ [⟨⟨s0, s1, s2, s3, s4, s5, s6, s7⟩, tA, tn, tc, mA, mn, mc⟩]) k → k < (w3.alloc (.cells #[.int .i64 s0, .int .u8 s1, .int .i64 s2, .int .u8 s3, .int .u16 s4, .int .i64 s5, .int .i64 s6, .slice tA tn tc, .slice mA mn mc, .int .u16 s7] 28)).heap.size) := Lib.hid (fun k hk => by
            have h3 := HIN.out.live (by have := HB.out.size; omega) HN2.out k hk
            simp
            omega)
          have HIN := Lib.hid (HIN.out.below (below_new w3 (.cells #[.int .i64 s0, .int .u8 s1, .int .i64 s2, .int .u8 s3, .int .u16 s4, .int .i64 s5, .int .i64 s6, .slice tA tn tc, .slice mA mn mc, .int .u16 s7] 28)))
          have HN2 := Lib.hid (HN2.out.below (below_new w3 (.cells #[.int .i64 s0, .int .u8 s1, .int .i64 s2, .int .u8 s3, .int .u16 s4, .int .i64 s5, .int .i64 s6, .slice tA tn tc, .slice mA mn mc, .int .u16 s7] 28)))
          have HB := Lib.hid (HB.out.alloc (by have := HB.out.size; omega) (.cells #[.int .i64 s0, .int .u8 s1, .int .i64 s2, .int .u8 s3, .int .u16 s4, .int .i64 s5, .int .i64 s6, .slice tA tn tc, .slice mA mn mc, .int .u16 s7] 28))
          have hdl : (D.length + 1) * 104 ≤ 140737488355328 := by omega
          clear hop hgo2 hsc ok1 ok2 ok3 ok6
          go_wp2_with (first
            | ((with_reducible refine wpList_ldI rfl (.tmp 6) rfl HBX.out ?_ ?_ ?_); exact rfl; exact rfl)
            | (at_builtin; go_loud (refine wpList_appV riFit rfl _ _ rfl (KeepS w.heap.size (rs ++ [⟨⟨s0, s1, s2, s3, s4, s5, s6, s7⟩, tA, tn, tc, mA, mn, mc⟩])) A' D.length c' rs rfl HOWN.out (w3.heap.size + 1) (some ⟨w3.heap.size, 0, none⟩) 1 1 [⟨⟨s0, s1, s2, s3, s4, s5, s6, s7⟩, tA, tn, tc, mA, mn, mc⟩] rfl HRV.out (D.length + 1) rfl (rs ++ [⟨⟨s0, s1, s2, s3, s4, s5, s6, s7⟩, tA, tn, tc, mA, mn, mc⟩]) rfl hdl HLV.out ?_); intro A4 c4 w5 ho5 hk5))
          have HM := Lib.hid (HIN.out.more HN2.out ho5 hk5)
          have HB := Lib.hid (HB.out.trans (hk5.below (fun k hk => .inl hk)))
          have hlen : (D ++ [x]).length = D.length + 1 := by simp
          rw [← hlen] at HM ⊢
          clear ho5 hk5
          go_roundw
          case rel => exact ⟨nx, f, D ++ [x], A4, c4, rs ++ [⟨⟨s0, s1, s2, s3, s4, s5, s6, s7⟩, tA, tn, tc, mA, mn, mc⟩], rfl, rfl, by omega, by omega, by omega, HM.out, HF2.out, HGO2.out, HB.out⟩
          case measure => simp [intOf]; omega
        · have hne : er ≠ 0 := by rcases h45 with rfl | rfl <;> decide
          obtain ⟨hl1, _⟩ := HL.out er [] (HGO.out.symm.trans (HER.out hne))
          have hR := HE.out hz (by rw [hl1]; exact hne)
          rw [hl1] at hR
          subst hR
          rcases hEV.out with ⟨h, _⟩ | ⟨h, f9, why9, rfl⟩ | ⟨h, rfl⟩
          · exact absurd h hne
          · subst h
            unfold misV
            clear hne h45 hl1
            go_wp2_with fail
            go_returns
            exact ⟨_, none, 0, rfl, EV.mis _ _, ⟨[], IN.nil _ _⟩, HB.out⟩
          · subst h
            clear hne h45 hl1
            go_wp2_with fail
            go_returns
            exact ⟨_, none, 0, rfl, EV.short, ⟨[], IN.nil _ _⟩, HB.out⟩
      · obtain rfl : i = n := by omega
        obtain ⟨hl1, hl2⟩ := HL.out 0 D (hgo.symm.trans (HN.out D f i (by omega)))
        have hR := HW.out hz hl1
        rw [hl2 rfl] at hR
        have HWY := Lib.hid (ways_any D i (by omega) (fun j hj => (hF j hj).1) (fun j hj => (hF j hj).2.1) wr wr.heap.size A' D.length c' rs (HT.out.below' Bw) IN0.iv (Nat.le_refl _) (by omega) (fun j hj => by
          have h3 := (IN0.each j hj).tab.len
          have h4 := (hF j hj).2.2
          omega))
        have HIN := Lib.hid IN0
        have HB := Lib.hid Bw
        clear IN0 Bw hgo hF hl1 hl2
        by_cases hw : waysL D i = true
        · rw [hw] at HWY
          rw [if_pos hw] at hR
          subst hR
          go_wp2_with fail
          refine HWY.out.mono ?_
          rintro e w2 ⟨v, rfl, ev, b2⟩
          have hv : v = .nilIface := by
            rcases ev with ⟨_, h⟩ | ⟨h, _⟩ | ⟨h, _⟩
            · exact h
            · exact absurd h (by decide)
            · exact absurd h (by decide)
          subst hv
          have HIN := Lib.hid (HIN.out.below b2)
          have HB := Lib.hid (HB.out.trans (b2.mono (by omega)))
          clear b2 ev hw
          go_wp2_with fail
          go_returns
          exact ⟨_, A', c', rfl, EV.ok, ⟨rs, HIN.out⟩, HB.out⟩
        · rw [Bool.not_eq_true] at hw
          rw [hw] at HWY
          rw [if_neg (by rw [hw]; decide)] at hR
          subst hR
          go_wp2_with fail
          refine HWY.out.mono ?_
          rintro e w2 ⟨v, rfl, ev, b2⟩
          obtain ⟨f9, why9, rfl⟩ : ∃ f9 why9, v = misV f9 why9 := by
            rcases ev with ⟨h, _⟩ | ⟨_, h⟩ | ⟨h, _⟩
            · exact absurd h (by decide)
            · exact h
            · exact absurd h (by decide)
          unfold misV
          have HB := Lib.hid (HB.out.trans (b2.mono (by omega)))
          clear b2 ev hw
          go_wp2_with fail
          go_returns
          exact ⟨_, none, 0, rfl, EV.mis _ _, ⟨[], IN.nil _ _⟩, HB.out⟩
end Go.Proofs.YtolifmpkillglaaGreatDoor
