import Derived.Test.YtolifmpkillglaaDoorDf
set_option linter.unusedVariables false
set_option maxRecDepth 100000
namespace Go.Proofs.YtolifmpkillglaaDoor
open Go.RowKit
/-! The document's rows; rows that are read. -/
theorem num_2 (l : List Int) (i s : Nat) (hr : rng l) (hs : s = 1 ∨ s = 2) : ∃ m : Nat, num ((l.drop i).take s) = m ∧ m ≤ 65535 := by
  have h := num_bd ((l.drop i).take s) (rng_take (rng_drop hr i) s)
  have hl : ((l.drop i).take s).length = 0 ∨ ((l.drop i).take s).length = 1 ∨ ((l.drop i).take s).length = 2 := by rw [List.length_take]; omega
  refine ⟨(num ((l.drop i).take s)).toNat, by omega, ?_⟩
  rcases hl with e | e | e <;> rw [e] at h <;> omega
theorem ret_row {A : Option Addr} {n c : Nat} {a b : Int} {x : Value} (h : a = b) : Ending.returned (.tuple #[.slice A n c, .int .i64 a, x]) = .returned (.tuple #[.slice A n c, .int .i64 b, x]) := by rw [h]
end Go.Proofs.YtolifmpkillglaaDoor
