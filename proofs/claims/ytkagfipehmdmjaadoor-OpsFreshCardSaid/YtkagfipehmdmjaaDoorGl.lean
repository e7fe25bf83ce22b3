import Derived.Test.YtkagfipehmdmjaaDoorGk
set_option linter.unusedVariables false
namespace Go.Proofs.YtkagfipehmdmjaaDoor
open Go.RowKit
/-! The laws' walks: Of, Named, Back. -/
theorem keep7 {w w' : World} {g : Nat} {t : TypeId} {v0 v1 v2 v3 v4 v5 v6 : Value} (h : Blk w g #[v0, v1, v2, v3, v4, v5, v6] t) (hb : Below w.heap.size w w') : Blk w' g #[v0, v1, v2, v3, v4, v5, v6] t := h.below hb
set_option maxHeartbeats 1000000 in
theorem walk_of (n : Nat) (hn : n < 256) (w : World) (T : Tab w) : Calls Tryd.prog 3 #[.int .u8 n] w fun e w' => e = .returned (.bool true) ∧ Below w.heap.size w w' := by
  have h1 := of_any (n : Int) (by omega) (by omega)
  have h2 := refof_any n hn
  rw [← of_eq n hn] at h2
  generalize ofC (n : Int) = a at h1 h2
  obtain ⟨⟨x0, x1, x2, x3, x4, x5, x6⟩, er⟩ := a
  unfold OfSaid at h1 h2
  simp only [Inf.val] at h1 h2
  have h3 := acc_any (n : Int)
  have h4 := refacc_any (n : Int) (by omega) (by omega)
  unfold AccSaid at h3 h4
  generalize accB (n : Int) = b at h3 h4
  have H1 := Lib.hid h1
  have H2 := Lib.hid h2
  have H3 := Lib.hid h3
  have H4 := Lib.hid h4
  have H5 := Lib.hid lives_any
  have HT := Lib.hid T
  clear h1 h2 h3 h4 T
  go_enter Tryd.func3, Tryd.ntmps3
  go_wp2_with fail
  refine (H1.out _ HT.out).mono ?_
  rintro e w1 ⟨rfl, hb1⟩
  have HB1 := Lib.hid hb1
  clear hb1
  go_wp2_with fail
  refine (H2.out _ ((HT.out.below' HB1.out).alloc _)).mono ?_
  rintro e w2 ⟨rfl, hb2⟩
  obtain ⟨X2, z2, B2⟩ := Blk.box hb2
  have HX2 := Lib.hid X2
  have HB2 := Lib.hid (HB1.out.trans (B2.mono HB1.out.size))
  obtain ⟨y0, y1, y2, y3, y4, y5, y6⟩ := X2.cells7
  clear X2 B2 hb2
  go_wp2_with fail
  refine (H3.out _).mono ?_
  rintro e w3 ⟨rfl, hb3⟩
  have HB3 := Lib.hid ((HB2.out.alloc HB2.out.size _).trans (hb3.mono (Nat.le_trans HB2.out.size (by simp))))
  clear hb3 y0 y1 y2 y3 y4 y5 y6
  go_wp2_with fail
  refine (H4.out _).mono ?_
  rintro e w4 ⟨rfl, hb4⟩
  have HB4 := Lib.hid (HB3.out.trans (hb4.mono HB3.out.size))
  clear hb4
  go_wp2_with fail
  refine (H5.out _ (HT.out.below' HB4.out)).mono ?_
  rintro e w5 ⟨rfl, hb5⟩
  have HB5 := Lib.hid (HB4.out.trans (hb5.mono HB4.out.size))
  clear hb5
  go_wp2_with fail
  go_returns
  exact ⟨rfl, HB5.out⟩
theorem walk_named (s : List UInt8) (w : World) (T : Tab w) : Calls Tryd.prog 4 #[.string ⟨s.toArray⟩] w fun e w' => e = .returned (.bool true) ∧ Below w.heap.size w w' := by
  have h1 := named_any s
  have h2 := refnamed_any s
  rw [named_eq s] at h2
  generalize namedL rowsC s = a at h1 h2
  obtain ⟨x, er⟩ := a
  unfold NamedSaid at h1 h2
  have H1 := Lib.hid h1
  have H2 := Lib.hid h2
  have H5 := Lib.hid lives_any
  have HT := Lib.hid T
  clear h1 h2 T
  go_enter Tryd.func4, Tryd.ntmps4
  go_wp2_with fail
  refine (H1.out _ HT.out).mono ?_
  rintro e w1 ⟨rfl, hb1⟩
  have HB1 := Lib.hid hb1
  clear hb1
  go_wp2_with fail
  refine (H2.out _ (HT.out.below' HB1.out)).mono ?_
  rintro e w2 ⟨rfl, hb2⟩
  have HB2 := Lib.hid (HB1.out.trans (hb2.mono HB1.out.size))
  clear hb2
  go_wp2_with fail
  refine (H5.out _ (HT.out.below' HB2.out)).mono ?_
  rintro e w3 ⟨rfl, hb3⟩
  have HB3 := Lib.hid (HB2.out.trans (hb3.mono HB2.out.size))
  clear hb3
  go_wp2_with fail
  go_returns
  exact ⟨rfl, HB3.out⟩
theorem back_bad : ∀ n : Nat, n < 256 → (ofC (n : Int)).2 = 0 ∨ ofC (n : Int) = (Inf.zero, 6) := by decide +kernel
theorem back_ok : ∀ n : Nat, n < 256 → (ofC (n : Int)).2 = 0 → namedL rowsC (ofC (n : Int)).1.name = ((n : Int), 0) ∧ (ofC (n : Int)).1.op = n ∧ (ofC (n : Int)).1.jumps = jmpI (ofC (n : Int)).1.imm ∧ 0 ≤ (ofC (n : Int)).1.take ∧ (ofC (n : Int)).1.take ≤ 3 ∧ 0 ≤ (ofC (n : Int)).1.leave ∧ (ofC (n : Int)).1.leave ≤ 4 := by decide +kernel
set_option maxHeartbeats 1000000 in
theorem walk_back (n : Nat) (hn : n < 256) (w : World) (T : Tab w) : Calls Tryd.prog 6 #[.int .u8 n] w fun e w' => e = .returned (.bool true) ∧ Below w.heap.size w w' := by
  have h1 := of_any (n : Int) (by omega) (by omega)
  have H5 := Lib.hid lives_any
  have HT := Lib.hid T
  clear T
  by_cases h0 : (ofC (n : Int)).2 = 0
  · obtain ⟨k1, k2, k3, k4, k5, k6, k7⟩ := back_ok n hn h0
    have h2 := named_any (ofC (n : Int)).1.name
    rw [k1] at h2
    generalize ofC (n : Int) = a at h1 h2 h0 k2 k3 k4 k5 k6 k7
    obtain ⟨⟨x0, x1, x2, x3, x4, x5, x6⟩, er⟩ := a
    simp only at h1 h2 h0 k2 k3 k4 k5 k6 k7
    subst h0
    subst k2
    unfold OfSaid at h1
    unfold NamedSaid at h2
    simp only [Inf.val] at h1 h2
    clear k1
    have c1 : decide (0 ≤ x3) = true := by rw [decide_eq_true_eq]; exact k4
    have c2 : decide (x3 ≤ 3) = true := by rw [decide_eq_true_eq]; exact k5
    have c3 : decide (0 ≤ x4) = true := by rw [decide_eq_true_eq]; exact k6
    have c4 : decide (x4 ≤ 4) = true := by rw [decide_eq_true_eq]; exact k7
    have H1 := Lib.hid h1
    have H2 := Lib.hid h2
    clear h1 h2 k4 k5 k6 k7
    unfold jmpI at k3
    cases h5 : (x2 == 5) <;> cases h6 : (x2 == 6) <;> cases h7 : (x2 == 7)
    all_goals
      rw [h5, h6, h7] at k3
      simp at k3
      subst k3
      go_enter Tryd.func6, Tryd.ntmps6
      go_wp2_with fail
      refine (H1.out _ HT.out).mono ?_
      rintro e w1 ⟨rfl, hb1⟩
      have HB1 := Lib.hid hb1
      clear hb1
      go_wp2_with fail
      refine (H2.out _ ((HT.out.below' HB1.out).alloc _)).mono ?_
      rintro e w2 ⟨rfl, hb2⟩
      obtain ⟨X2, z2, B2⟩ := Blk.box hb2
      have HB2 := Lib.hid (HB1.out.trans (B2.mono HB1.out.size))
      obtain ⟨y0, y1, y2, y3, y4, y5, y6⟩ := X2.cells7
      clear X2 B2 hb2
      go_wp2_with fail
      refine (H5.out _ (HT.out.below' HB2.out)).mono ?_
      rintro e w3 ⟨rfl, hb3⟩
      have HB3 := Lib.hid (HB2.out.trans (hb3.mono HB2.out.size))
      clear hb3
      go_wp2_with fail
      go_returns
      exact ⟨rfl, HB3.out⟩
  · rcases back_bad n hn with h | h
    · exact absurd h h0
    · rw [h] at h1
      unfold OfSaid at h1
      simp only [Inf.val, Inf.zero] at h1
      have H1 := Lib.hid h1
      clear h1 h h0
      go_enter Tryd.func6, Tryd.ntmps6
      go_wp2_with fail
      refine (H1.out _ HT.out).mono ?_
      rintro e w1 ⟨rfl, hb1⟩
      have HB1 := Lib.hid hb1
      clear hb1
      go_wp2_with fail
      refine (H5.out _ ((HT.out.below' HB1.out).alloc _)).mono ?_
      rintro e w2 ⟨rfl, hb2⟩
      have HB2 := Lib.hid ((HB1.out.alloc HB1.out.size _).trans (hb2.mono (Nat.le_trans HB1.out.size (by simp))))
      clear hb2
      go_wp2_with fail
      go_returns
      exact ⟨rfl, HB2.out⟩
end Go.Proofs.YtkagfipehmdmjaaDoor
