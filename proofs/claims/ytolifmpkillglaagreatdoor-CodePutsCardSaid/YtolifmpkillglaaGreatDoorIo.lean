import Derived.Test.YtolifmpkillglaaGreatDoorIn
set_option linter.unusedVariables false
set_option maxRecDepth 100000
namespace Go.Proofs.YtolifmpkillglaaGreatDoor
open Go.RowKit
/-! At of the code. -/
/-! works. -/
theorem rd_litc (w : World) (l : List Int) (hr : rng l) : Rd (w.alloc (.cells (BL l) 5)) (w.heap.size + 1) (some ⟨w.heap.size, 0, none⟩) l.length l :=
  ⟨rfl, hr, fun h => ⟨w.heap.size, 0, rfl, by omega, fun i hi => by
    rw [Nat.zero_add]
    have h2 : Blk (w.alloc (.cells (BL l) 5)) w.heap.size (BL l) 5 := Blk.new w _ _
    rw [h2.cell i]
    simp [BL, List.getD_eq_getElem?_getD, List.getElem?_eq_getElem hi]⟩⟩
theorem w1_ok : (readC [3, 122]).1 = 0 ∧ (readC [3, 122]).2.length = 2 ∧ ((readC [3, 122]).2.getD 0 Ins.zero).sc.op = 3 ∧ ((readC [3, 122]).2.getD 1 Ins.zero).sc.at_ = 1 := by decide +kernel
theorem w2_ok : (readC [9]).1 = 5 ∧ (readC [9]).2.length = 0 := by decide +kernel
theorem w3_ok : (readC [16]).1 = 4 ∧ (readC [16]).2.length = 0 := by decide +kernel
theorem w4_ok : (readC [112, 0, 0]).1 = 0 ∧ (readC [112, 0, 0]).2.length = 1 ∧ ((readC [112, 0, 0]).2.getD 0 Ins.zero).sc.jump = 0 := by decide +kernel
theorem w5_ok : (readC []).1 = 5 ∧ (readC []).2.length = 0 := by decide +kernel
end Go.Proofs.YtolifmpkillglaaGreatDoor
