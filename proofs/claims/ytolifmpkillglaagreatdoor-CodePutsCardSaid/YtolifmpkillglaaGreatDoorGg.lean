import Derived.Test.YtolifmpkillglaaGreatDoorGf
import Derived.Deep.Light
set_option linter.unusedVariables false
set_option maxRecDepth 100000
namespace Go.Proofs.YtolifmpkillglaaGreatDoor
open Go.RowKit
/-! The document's tables: what stands behind, how many words. -/
def immD (o : Int) : Int :=
  if o = 16 then 1 else if o = 17 then 2 else if o = 21 ∨ o = 22 ∨ o = 40 ∨ o = 41 ∨ o = 114 then 3 else if o = 89 then 4 else if 96 ≤ o ∧ o ≤ 113 then 5 else if o = 115 then 6 else if o = 117 then 7
  else if 123 ≤ o ∧ o ≤ 141 ∨ o = 143 ∨ o = 145 then 8 else if o = 142 then 9 else if o = 144 then 10 else if o = 148 ∨ o = 149 then 11 else 0
set_option maxHeartbeats 4000000 in
theorem imm_any (o : Int) (w : World) : Calls Tryz.prog 46 #[.int .i64 o] w fun e w' => e = .returned (.int .u8 (immD o)) ∧ w' = w := by
  go_enter Tryz.func46, Tryz.ntmps46
  go_wp2
  all_goals
    go_returns
  all_goals
    refine ⟨congrArg (fun z : Int => Ending.returned (.int .u8 z)) ?_, rfl⟩
  all_goals
    go_light
    (try simp only [beq_iff_eq, beq_eq_false_iff_ne, ne_eq] at *)
    unfold immD
    (repeat (first | rw [if_neg (by omega)] | rw [if_pos (by omega)]))
def wordsD (o : Int) : Int × Int :=
  if 1 ≤ o ∧ o ≤ 31 then (0, 1) else if 36 ≤ o ∧ o ≤ 38 then (2, 1) else if 40 ≤ o ∧ o ≤ 50 then (1, 0) else if 55 ≤ o ∧ o ≤ 57 then (3, 0) else if o = 59 then (1, 0) else if o = 60 then (2, 0) else if o = 61 then (1, 2) else if o = 62 then (2, 4)
  else if o = 75 ∨ o = 91 then (1, 1) else if 65 ≤ o ∧ o ≤ 87 then (2, 1) else if 96 ≤ o ∧ o ≤ 103 then (1, 0) else if 104 ≤ o ∧ o ≤ 111 then (2, 0) else if o = 113 then (0, 1)
  else if o = 115 ∨ o = 117 ∨ o = 119 ∨ o = 120 ∨ 127 ≤ o ∧ o ≤ 129 ∨ o = 147 then (1, 0) else if 123 ≤ o ∧ o ≤ 125 ∨ o = 143 then (0, 1) else if 131 ≤ o ∧ o ≤ 133 ∨ 144 ≤ o ∧ o ≤ 146 ∨ o = 148 ∨ o = 149 then (1, 1) else if 135 ≤ o ∧ o ≤ 137 then (2, 0) else (0, 0)
theorem pair_end {a b : Int} {p : Int × Int} (h : (a, b) = p) : Ending.returned (.tuple #[.int .i64 a, .int .i64 b]) = Ending.returned (.tuple #[.int .i64 p.1, .int .i64 p.2]) := by rw [← h]
set_option maxHeartbeats 4000000 in
theorem wordsG_any (o : Int) (w : World) : Calls Tryz.prog 47 #[.int .i64 o] w fun e w' => e = .returned (.tuple #[.int .i64 (wordsD o).1, .int .i64 (wordsD o).2]) ∧ w' = w := by
  go_enter Tryz.func47, Tryz.ntmps47
  go_wp2
  all_goals
    go_returns
  all_goals
    refine ⟨pair_end ?_, rfl⟩
  all_goals
    go_light
    (try simp only [beq_iff_eq, beq_eq_false_iff_ne, ne_eq] at *)
    unfold wordsD
    (repeat (first | rw [if_neg (by omega)] | rw [if_pos (by omega)]))
end Go.Proofs.YtolifmpkillglaaGreatDoor
