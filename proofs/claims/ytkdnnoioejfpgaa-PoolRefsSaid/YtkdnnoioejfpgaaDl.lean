import Derived.Test.YtkdnnoioejfpgaaDk
set_option linter.unusedVariables false
set_option maxRecDepth 100000
namespace Go.Proofs.Ytkdnnoioejfpgaa
open Go.RowKit
theorem dig_num (l : List Int) (hr : rng l) : dig (num l) l.length = l := by
  have H : ∀ m : List Int, rng m.reverse → dig (num m.reverse) m.length = m.reverse := by
    intro m
    induction m with
    | nil => intro _; rfl
    | cons x m ih =>
      intro hr
      rw [List.reverse_cons] at hr ⊢
      have h1 := ih (fun y hy => hr y (List.mem_append.2 (.inl hy)))
      have h2 := hr x (List.mem_append.2 (.inr (by simp)))
      rw [num_snoc, List.length_cons]
      show dig ((256 * num m.reverse + x) / 256) m.length ++ [(256 * num m.reverse + x) % 256] = _
      rw [show (256 * num m.reverse + x) / 256 = num m.reverse by omega, show (256 * num m.reverse + x) % 256 = x by omega, h1]
  have := H l.reverse (by rwa [List.reverse_reverse])
  rwa [List.reverse_reverse, List.length_reverse] at this
theorem num_dig (s : Nat) : ∀ N : Int, 0 ≤ N → N < 256 ^ s → num (dig N s) = N := by
  induction s with
  | zero => intro N h0 h1; simp [dig, num_nil]; omega
  | succ s ih =>
    intro N h0 h1
    show num (dig (N / 256) s ++ [N % 256]) = N
    rw [Int.pow_succ] at h1
    rw [num_snoc, ih (N / 256) (by omega) (by omega)]
    omega
theorem num_ok (l : List Int) (k : Nat) (hl : l.length = k) (hr : rng l) (hk : k = 1 ∨ k = 2 ∨ k = 4) : 0 ≤ num l ∧ num l ≤ 4294967295 ∧ okN (num l) k := by
  have h := num_bd l hr
  rw [hl] at h
  unfold okN
  rcases hk with rfl | rfl | rfl <;> omega
end Go.Proofs.Ytkdnnoioejfpgaa
