import Derived.Test.YtkagfipehmdmjaaDoorGj
set_option linter.unusedVariables false
namespace Go.Proofs.YtkagfipehmdmjaaDoor
open Go.RowKit
/-! The code's row is the document's; lives. -/
theorem of_eq : ∀ n : Nat, n < 256 → ofC (n : Int) = ofD n := by decide +kernel
theorem of_65 : ofC 65 = (⟨65, [115, 97, 100, 100], 0, 2, 1, false, false⟩, 0) := by decide +kernel
theorem of_9 : ofC 9 = (Inf.zero, 6) := by decide +kernel
theorem named_ifnull : namedL rowsC [105, 102, 110, 117, 108, 108] = (102, 0) := by decide +kernel
theorem lives_any (w : World) (T : Tab w) : Calls Tryd.prog 12 #[] w fun e w' => e = .returned (.bool true) ∧ Below w.heap.size w w' := by
  have h1 := of_any 65 (by decide) (by decide)
  have h2 := of_any 9 (by decide) (by decide)
  have h3 := named_any [105, 102, 110, 117, 108, 108]
  have h4 := all_any
  rw [of_65] at h1
  rw [of_9] at h2
  rw [named_ifnull] at h3
  unfold OfSaid at h1 h2
  unfold NamedSaid at h3
  unfold AllSaid at h4
  simp only [Inf.val, Inf.zero] at h1 h2
  rw [numsC_len] at h4
  have H1 := Lib.hid h1
  have H2 := Lib.hid h2
  have H3 := Lib.hid h3
  have H4 := Lib.hid h4
  have HT := Lib.hid T
  clear h1 h2 h3 h4 T
  go_enter Tryd.func12, Tryd.ntmps12
  go_wp2_with fail
  refine (H1.out _ HT.out).mono ?_
  rintro e w1 ⟨rfl, hb1⟩
  have HB1 := Lib.hid hb1
  clear hb1
  go_wp2_with fail
  refine (H3.out _ ((HT.out.below' HB1.out).alloc _)).mono ?_
  rintro e w2 ⟨rfl, hb2⟩
  obtain ⟨X2, z2, B2⟩ := Blk.box hb2
  have HX2 := Lib.hid X2
  have HB2 := Lib.hid (HB1.out.trans (B2.mono HB1.out.size))
  clear X2 B2 hb2
  go_wp2_with fail
  refine (H2.out _ (HT.out.below' HB2.out)).mono ?_
  rintro e w3 ⟨rfl, hb3⟩
  have HX3 := Lib.hid (HX2.out.below hb3)
  have HB3 := Lib.hid (HB2.out.trans (hb3.mono HB2.out.size))
  have z3 := HX3.out.lt
  obtain ⟨y0, y1, y2, y3, y4, y5, y6⟩ := HX3.out.cells7
  clear hb3
  go_wp2_with fail
  refine (H4.out _ ((HT.out.below' HB3.out).alloc _)).mono ?_
  rintro e w4 ⟨A, c, rfl, ho, hb4⟩
  have HB4 := Lib.hid ((HB3.out.alloc HB3.out.size _).trans (hb4.mono (Nat.le_trans HB3.out.size (by simp))))
  clear hb4 ho
  go_wp2_with fail
  go_returns
  exact ⟨rfl, HB4.out⟩
end Go.Proofs.YtkagfipehmdmjaaDoor
