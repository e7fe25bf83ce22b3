import Derived.Test.YtolifmpkillglaaDoorIn
set_option linter.unusedVariables false
set_option maxRecDepth 100000
namespace Go.Proofs.YtolifmpkillglaaDoor
open Go.RowKit
/-! At of the code. -/
theorem at1_any (r : RI) (p : Int) (g : Nat) (w : World) (hp : w.cell? ⟨g, 0, none⟩ = some (.int .i64 p)) : Calls Tryd.prog 27 #[r.val, .pointer (some ⟨g, 0, none⟩)] w fun e w' => e = .returned (.bool (r.sc.at_ == p)) ∧ Below w.heap.size w w' := by
  obtain ⟨⟨s0, s1, s2, s3, s4, s5, s6, s7⟩, tA, tn, tc, mA, mn, mc⟩ := r
  unfold RI.val
  simp only
  have hg := World.block_lt_of_cell? w _ hp
  have hp2 : (w.alloc (.cells #[.int .i64 s0, .int .u8 s1, .int .i64 s2, .int .u8 s3, .int .u16 s4, .int .i64 s5, .int .i64 s6, .slice tA tn tc, .slice mA mn mc, .int .u16 s7] 40)).cell? ⟨g, 0, none⟩ = some (.int .i64 p) := (World.cell?_alloc_lt w _ _ hg).trans hp
  have HB := Lib.hid (below_new w (.cells #[.int .i64 s0, .int .u8 s1, .int .i64 s2, .int .u8 s3, .int .u16 s4, .int .i64 s5, .int .i64 s6, .slice tA tn tc, .slice mA mn mc, .int .u16 s7] 40))
  go_enter Tryd.func27, Tryd.ntmps27
  go_wp2_with fail
  go_returns
  exact ⟨rfl, HB.out⟩
set_option maxHeartbeats 1000000 in
theorem idx_any (l : List Ins) (p : Int) (w : World) (A : Option Addr) (n c B g : Nat) (rs : List RI) (hv : IV w B A n rs l) (hB : B ≤ w.heap.size) (hn : n ≤ 281474976710656) (hp : w.cell? ⟨g, 0, none⟩ = some (.int .i64 p)) :
    Calls Tryd.prog 26 #[.slice A n c, .func (.func 27) #[] #[.pointer (some ⟨g, 0, none⟩)]] w fun e w' => e = .returned (.int .i64 (atL l 0 p)) ∧ Below w.heap.size w w' := by
  have HV := Lib.hid hv
  have HD := Lib.hid (ins_drop l)
  have HL := Lib.hid hv.len
  generalize hans : atL l 0 p = ans
  have HA := Lib.hid hans
  clear hans hv
  go_enter Tryd.func26, Tryd.ntmps26
  go_wp2_with fail
  go_loopw [8] (fun i wr => ∃ k : Nat, k ≤ n ∧ i = .int .i64 k ∧ atL (l.drop k) k p = ans ∧ Below w.heap.size w wr) (fun i _ => n - (intOf i).toNat)
  case atStart => exact ⟨0, Nat.zero_le _, rfl, HA.out, Below.refl _ _⟩
  case round =>
    obtain ⟨k, hk, rfl, hd, hb⟩ := hrel
    have i0 : (0 : Int) ≤ (k : Int) := by omega
    by_cases hlt : (k : Int) < (n : Int)
    · have V := HV.out.below hb hB
      obtain ⟨b, o, hA, hbB, c0, c1, c2, c3, c4, c5, c6, c7, c8, c9⟩ := V.ten k (by omega)
      have hsc := (V.each k (by omega)).sc
      rw [HD.out k (by rw [HL.out]; omega)] at hd
      unfold atL at hd
      have hpw := (hb.cell (p := ⟨g, 0, none⟩) (World.block_lt_of_cell? w _ hp)).trans hp
      have HC := Lib.hid (fun r => at1_any r p g wr hpw)
      rw [← hsc] at hd
      generalize rs.getD k RI.zero = r at c0 c1 c2 c3 c4 c5 c6 c7 c8 c9 hd
      obtain ⟨⟨s0, s1, s2, s3, s4, s5, s6, s7⟩, tA, tn, tc, mA, mn, mc⟩ := r
      simp only at c0 c1 c2 c3 c4 c5 c6 c7 c8 c9 hd
      have HC := Lib.hid (HC.out ⟨⟨s0, s1, s2, s3, s4, s5, s6, s7⟩, tA, tn, tc, mA, mn, mc⟩)
      rw [RI.val_eq] at HC
      have HB := Lib.hid hb
      subst hA
      clear V hsc hpw hb
      by_cases hx : s0 = p
      · rw [if_pos hx] at hd
        have HR := Lib.hid hd
        have b1 : (s0 == p) = true := by simpa using hx
        rw [b1] at HC
        clear hd hx b1
        go_wp2_with fail
        refine HC.out.mono ?_
        rintro e w2 ⟨rfl, b2⟩
        have HB := Lib.hid (HB.out.trans (b2.mono HB.out.size))
        clear b2 c0 c1 c2 c3 c4 c5 c6 c7 c8 c9
        go_wp2_with fail
        go_returns
        exact ⟨by rw [← HR.out]; rfl, HB.out⟩
      · rw [if_neg hx] at hd
        have HR := Lib.hid hd
        have b1 : (s0 == p) = false := by simpa using hx
        rw [b1] at HC
        clear hd hx b1
        go_wp2_with fail
        refine HC.out.mono ?_
        rintro e w2 ⟨rfl, b2⟩
        have HB := Lib.hid (HB.out.trans (b2.mono HB.out.size))
        clear b2 c0 c1 c2 c3 c4 c5 c6 c7 c8 c9
        go_wp2_with fail
        go_roundw
        case rel => exact ⟨k + 1, by omega, by go_num, HR.out, HB.out⟩
        case measure => simp [intOf]; omega
    · obtain rfl : k = n := by omega
      rw [List.drop_of_length_le (by rw [HL.out]; exact Nat.le_refl _)] at hd
      have HR := Lib.hid (show (-1 : Int) = ans from hd)
      have HB := Lib.hid hb
      clear hd hb
      go_wp2_with fail
      go_returns
      exact ⟨by rw [← HR.out]; rfl, HB.out⟩
theorem at_of (l : List Ins) (p : Int) (w : World) (A : Option Addr) (n c B : Nat) (rs : List RI) (hv : IV w B A n rs l) (hB : B ≤ w.heap.size) (hn : n ≤ 281474976710656) :
    Calls Tryd.prog 11 #[.slice A n c, .int .i64 p] w fun e w' => e = .returned (.int .i64 (atL l 0 p)) ∧ Below w.heap.size w w' := by
  have hmf : ∀ (fn : Fn) (first cap : Array Value) (w : World), (Instr.makeFunc fn first cap).run Tryd.prog w = .ok (.func fn first cap) w := fun _ _ _ _ => rfl
  have HI := Lib.hid (idx_any l p (w.alloc (.cells #[.int .i64 p] 3)) A n c B w.heap.size rs (hv.below (below_new w _) hB) (by simp; omega) hn ((Blk.new w #[.int .i64 p] _).cell 0))
  have HB := Lib.hid (below_new w (.cells #[.int .i64 p] 3))
  clear hv
  generalize atL l 0 p = ans at HI ⊢
  go_enter Tryd.func11, Tryd.ntmps11
  go_wp2_with fail
  refine HI.out.mono ?_
  rintro e w2 ⟨rfl, b2⟩
  have HB := Lib.hid (HB.out.trans (b2.mono HB.out.size))
  clear b2
  go_wp2_with fail
  go_returns
  exact ⟨rfl, HB.out⟩
/-! works. -/
theorem rd_litc (w : World) (l : List Int) (hr : rng l) : Rd (w.alloc (.cells (BL l) 5)) (w.heap.size + 1) (some ⟨w.heap.size, 0, none⟩) l.length l :=
  ⟨rfl, hr, fun h => ⟨w.heap.size, 0, rfl, by omega, fun i hi => by
    rw [Nat.zero_add]
    have h2 : Blk (w.alloc (.cells (BL l) 5)) w.heap.size (BL l) 5 := Blk.new w _ _
    rw [h2.cell i]
    simp [BL, List.getD_eq_getElem?_getD, List.getElem?_eq_getElem hi]⟩⟩
theorem w1_ok : (readC [3, 122]).1 = 0 ∧ (readC [3, 122]).2.length = 2 ∧ ((readC [3, 122]).2.getD 0 Ins.zero).sc.op = 3 ∧ ((readC [3, 122]).2.getD 1 Ins.zero).sc.at_ = 1 := by decide +kernel
theorem w2_ok : (readC [9]).1 = 5 ∧ (readC [9]).2.length = 0 := by decide +kernel
theorem w3_ok : (readC [16]).1 = 4 ∧ (readC [16]).2.length = 0 := by decide +kernel
theorem w4_ok : (readC [112, 0, 0]).1 = 0 ∧ (readC [112, 0, 0]).2.length = 1 ∧ ((readC [112, 0, 0]).2.getD 0 Ins.zero).sc.jump = 0 := by decide +kernel
theorem w5_ok : (readC []).1 = 5 ∧ (readC []).2.length = 0 := by decide +kernel
end Go.Proofs.YtolifmpkillglaaDoor
