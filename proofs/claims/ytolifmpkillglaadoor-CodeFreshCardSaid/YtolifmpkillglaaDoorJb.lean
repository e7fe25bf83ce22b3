import Derived.Test.YtolifmpkillglaaDoorJa
import Derived.Test.YtolifmpkillglaaDoorHd
import Derived.Test.YtolifmpkillglaaDoorHb
set_option linter.unusedVariables false
set_option maxRecDepth 100000
namespace Go.Proofs.YtolifmpkillglaaDoor
open Go.RowKit
/-! The rows of a switch, put. -/
def rowsL (f : Int) (T M : List Int) : Nat → List Int
  | 0 => []
  | k + 1 => rowsL f T M k ++ ((if k < M.length then wd2 (M.getD k 0) else []) ++ wd2 (jmpW f (T.getD k 0)))
theorem rowsL_len (f : Int) (T M : List Int) : ∀ k, (rowsL f T M k).length ≤ 4 * k
  | 0 => Nat.le_refl _
  | k + 1 => by
    have := rowsL_len f T M k
    unfold rowsL
    rw [List.length_append, List.length_append]
    split <;> simp [wd2] <;> omega
set_option maxHeartbeats 2000000 in
theorem appR_any (S : Nat → Prop) (A : Option Addr) (n c B : Nat) (l : List Int) (r : RI) (x : Ins) (w : World) (O : OS w S A n c l) (hS : ∀ k, S k → k < w.heap.size) (h : InsR w B r x) (hB : ∀ k, k < B → S k) (hBw : B ≤ w.heap.size) (ht : r.tn ≤ 70000) (hn : n ≤ 10000) :
    Calls Tryd.prog 50 #[.slice A n c, r.val] w fun e w' => ∃ A' N c', e = .returned (.slice A' N c') ∧ OS w' S A' N c' (l ++ rowsL x.sc.at_ x.tab x.mat x.tab.length) ∧ Kp S w w' := by
  obtain ⟨hsc, ht1, hm1, hle, hle2⟩ := h
  obtain ⟨⟨s0, s1, s2, s3, s4, s5, s6, s7⟩, tA, tn, tc, mA, mn, mc⟩ := r
  obtain ⟨sc, tab, mat⟩ := x
  simp only at hsc
  subst hsc
  unfold RI.val
  simp only at ht1 hm1 hle hle2 ht ⊢
  have hlt := ht1.len
  have hlm := hm1.len
  have hmr := hm1.rg
  have HY := Lib.hid (Blk.new w #[.int .i64 s0, .int .u8 s1, .int .i64 s2, .int .u8 s3, .int .u16 s4, .int .i64 s5, .int .i64 s6, .slice tA tn tc, .slice mA mn mc, .int .u16 s7] 40)
  have HO := Lib.hid (O.also (.cells #[.int .i64 s0, .int .u8 s1, .int .i64 s2, .int .u8 s3, .int .u16 s4, .int .i64 s5, .int .i64 s6, .slice tA tn tc, .slice mA mn mc, .int .u16 s7] 40))
  have HS := Lib.hid (also_lt hS (.cells #[.int .i64 s0, .int .u8 s1, .int .i64 s2, .int .u8 s3, .int .u16 s4, .int .i64 s5, .int .i64 s6, .slice tA tn tc, .slice mA mn mc, .int .u16 s7] 40))
  have HT := Lib.hid (ht1.alloc hBw (.cells #[.int .i64 s0, .int .u8 s1, .int .i64 s2, .int .u8 s3, .int .u16 s4, .int .i64 s5, .int .i64 s6, .slice tA tn tc, .slice mA mn mc, .int .u16 s7] 40))
  have HM := Lib.hid (hm1.alloc hBw (.cells #[.int .i64 s0, .int .u8 s1, .int .i64 s2, .int .u8 s3, .int .u16 s4, .int .i64 s5, .int .i64 s6, .slice tA tn tc, .slice mA mn mc, .int .u16 s7] 40))
  have HK := Lib.hid ((Kp.refl S w).alloc hS (.cells #[.int .i64 s0, .int .u8 s1, .int .i64 s2, .int .u8 s3, .int .u16 s4, .int .i64 s5, .int .i64 s6, .slice tA tn tc, .slice mA mn mc, .int .u16 s7] 40))
  have hA : ∀ k, Also S w.heap.size k ↔ S k ∨ k = w.heap.size := fun k => Iff.rfl
  have HBS := Lib.hid hB
  have HRL : Hid (∀ k, rowsL s0 tab mat (k + 1) = rowsL s0 tab mat k ++ ((if k < mat.length then wd2 (mat.getD k 0) else []) ++ wd2 (jmpW s0 (tab.getD k 0)))) := Lib.hid (fun k => rfl)
  have HRN := Lib.hid (rowsL_len s0 tab mat)
  have R0 : rowsL s0 tab mat 0 = [] := rfl
  clear O ht1 hm1
  rw [hlt]
  generalize hrr : rowsL s0 tab mat = RR at HRL HRN R0 ⊢
  clear hrr
  go_enter Tryd.func50, Tryd.ntmps50
  go_upto_region 1 with (fail)
  generalize w.alloc (.cells #[.int .i64 s0, .int .u8 s1, .int .i64 s2, .int .u8 s3, .int .u16 s4, .int .i64 s5, .int .i64 s6, .slice tA tn tc, .slice mA mn mc, .int .u16 s7] 40) = w1 at HY HO HS HT HM HK ⊢
  have y7 : w1.cell? ⟨w.heap.size, 7, none⟩ = some (.slice tA tn tc) := HY.out.cell 7
  go_wp2_with fail
  go_loopw [0, 10] (fun s i wr => ∃ (k : Nat) (A' : Option Addr) (N c' : Nat), s = .slice A' N c' ∧ k ≤ tn ∧ i = .int .i64 k ∧ OS wr (Also S w.heap.size) A' N c' (l ++ RR k) ∧ Kp (Also S w.heap.size) w1 wr) (fun _ i _ => tn - (intOf i).toNat)
  case atStart => exact ⟨0, A, n, c, rfl, Nat.zero_le _, rfl, by rw [R0, List.append_nil]; exact HO.out, Kp.refl _ _⟩
  case round =>
    obtain ⟨k, A', N, c', rfl, hk, rfl, O, K⟩ := hrel
    have i0 : (0 : Int) ≤ (k : Int) := by omega
    have hNb : N ≤ 290000 := by
      have h3 : N = n + (RR k).length := by rw [← O.len, List.length_append, HO.out.len]
      have h4 := HRN.out k
      omega
    have hsw := K.size
    by_cases hlt2 : (k : Int) < (tn : Int)
    · have Tw := HT.out.kp K (fun q hq => .inl (HBS.out q hq))
      have Mw := HM.out.kp K (fun q hq => .inl (HBS.out q hq))
      have Yw := HY.out.kp K (.inr rfl)
      obtain ⟨b, o, hA1, _, g0⟩ := Tw.in1 k (by omega)
      have y8 : wr.cell? ⟨w.heap.size, 8, none⟩ = some (.slice mA mn mc) := Yw.cell 8
      have y0 : wr.cell? ⟨w.heap.size, 0, none⟩ = some (.int .i64 s0) := Yw.cell 0
      have hstep := HRL.out k
      have HSr := Lib.hid (K.lt HS.out)
      have HOr := Lib.hid O
      have HKr := Lib.hid K
      have HYr := Lib.hid Yw
      subst hA1
      clear O K Tw Yw
      obtain ⟨p, hp⟩ : ∃ p, tab.getD k 0 = p := ⟨_, rfl⟩
      rw [hp] at g0 hstep
      clear hp
      by_cases hm2 : (k : Int) < (mn : Int)
      · obtain ⟨b2, o2, hA2, _, g1⟩ := Mw.wo1 k (by omega)
        have hmk : 0 ≤ mat.getD k 0 ∧ mat.getD k 0 < 65536 := allok_getD hmr k
        rw [if_pos (by omega)] at hstep
        obtain ⟨mm, hmm⟩ : ∃ p, mat.getD k 0 = p := ⟨_, rfl⟩
        rw [hmm] at hstep g1 hmk
        have HST := Lib.hid hstep
        subst hA2
        clear Mw hmm hstep
        have HW1 := Lib.hid (appW_any (Also S w.heap.size) A' N c' (l ++ RR k) mm wr HOr.out HSr.out hmk.1 hmk.2 (by omega))
        go_wp2_with fail
        refine HW1.out.mono ?_
        rintro e w2 ⟨A2, c2, rfl, o2', k2⟩
        have y0 : w2.cell? ⟨w.heap.size, 0, none⟩ = some (.int .i64 s0) := (HYr.out.kp k2 (.inr rfl)).cell 0
        have HJ := Lib.hid (appJ_any (Also S w.heap.size) A2 (N + 2) c2 _ s0 p w2 o2' (k2.lt HSr.out) (by omega))
        have HK2 := Lib.hid (HKr.out.trans k2)
        clear o2' k2 g0 g1 y8
        go_wp2_with fail
        refine HJ.out.mono ?_
        rintro e w3 ⟨A3, c3, rfl, o3, k3⟩
        have HO3 := Lib.hid o3
        have HK3 := Lib.hid (HK2.out.trans k3)
        clear o3 k3
        go_wp2_with fail
        go_roundw
        case rel => exact ⟨k + 1, A3, _, c3, rfl, by omega, by go_num, by rw [HST.out, ← List.append_assoc, ← List.append_assoc]; exact HO3.out, HK3.out⟩
        case measure => simp [intOf]; omega
      · rw [if_neg (by omega), List.nil_append] at hstep
        have HST := Lib.hid hstep
        have HJ := Lib.hid (appJ_any (Also S w.heap.size) A' N c' _ s0 p wr HOr.out HSr.out (by omega))
        clear Mw hstep
        go_wp2_with fail
        refine HJ.out.mono ?_
        rintro e w3 ⟨A3, c3, rfl, o3, k3⟩
        have HO3 := Lib.hid o3
        have HK3 := Lib.hid (HKr.out.trans k3)
        clear o3 k3
        go_wp2_with fail
        go_roundw
        case rel => exact ⟨k + 1, A3, _, c3, rfl, by omega, by go_num, by rw [HST.out, ← List.append_assoc]; exact HO3.out, HK3.out⟩
        case measure => simp [intOf]; omega
    · obtain rfl : k = tn := by omega
      have HO2 := Lib.hid (O.less (S' := S) (fun q hq => .inl hq))
      have HK2 := Lib.hid (HK.out.trans (K.mono (S' := S) (fun q hq => .inl hq)))
      clear O K
      go_wp2_with fail
      go_returns
      exact ⟨A', N, c', rfl, HO2.out, HK2.out⟩
end Go.Proofs.YtolifmpkillglaaDoor
