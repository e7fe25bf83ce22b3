import Derived.Test.YtkdnnoioejfpgaaDl
set_option linter.unusedVariables false
set_option maxRecDepth 100000
namespace Go.Proofs.Ytkdnnoioejfpgaa
open Go.RowKit
/-! What stands in the midst. -/
theorem mid (a p b : List Int) (k : Nat) (hk : p.length = k) : ((a ++ p ++ b).drop a.length).take k = p := by
  rw [List.append_assoc, List.drop_left, ← hk, List.take_left]
theorem mid2 (a d p b : List Int) (j k : Nat) (hj : j = a.length + d.length) (hk : p.length = k) : ((a ++ (d ++ p) ++ b).drop j).take k = p := by
  subst hj
  rw [show a ++ (d ++ p) ++ b = (a ++ d) ++ (p ++ b) by simp, ← List.length_append, List.drop_left, ← hk, List.take_left]
theorem mid1 (a d p b : List Int) (k : Nat) (hk : d.length = k) : ((a ++ (d ++ p) ++ b).drop a.length).take k = d := by
  rw [show a ++ (d ++ p) ++ b = a ++ (d ++ (p ++ b)) by simp, List.drop_left, ← hk, List.take_left]
end Go.Proofs.Ytkdnnoioejfpgaa
