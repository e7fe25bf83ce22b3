import Derived.Test.YtkdnnoioejfpgaaFa
import Derived.Test.YtkdnnoioejfpgaaDd
set_option linter.unusedVariables false
set_option maxRecDepth 100000
namespace Go.Proofs.Ytkdnnoioejfpgaa
open Go.RowKit
/-! Entries. -/
structure En where
  k : Int
  c : Int
  t : Int
  o : Bool
  n : Int
  i : Int
  x : Int
def En.val (z : En) : Value := .agg #[.int .u8 z.k, .int .u16 z.c, .int .u8 z.t, .bool z.o, .int .u16 z.n, .int .u8 z.i, .int .u8 z.x]
def enB (z : En) : Prop := (0 ≤ z.k ∧ z.k < 256) ∧ (0 ≤ z.c ∧ z.c < 65536) ∧ (0 ≤ z.t ∧ z.t < 256) ∧ (0 ≤ z.n ∧ z.n < 65536) ∧ (0 ≤ z.i ∧ z.i < 256) ∧ (0 ≤ z.x ∧ z.x < 256)
def en0 : En := ⟨0, 0, 0, false, 0, 0, 0⟩
def enR : Rec En where
  enc z := [.int .u8 z.k, .int .u16 z.c, .int .u8 z.t, .bool z.o, .int .u16 z.n, .int .u8 z.i, .int .u8 z.x]
  m := 7
  ok := enB
  d := en0
  len _ := rfl
  one _ u hu := by simp at hu; rcases hu with rfl | rfl | rfl | rfl | rfl | rfl | rfl <;> rfl
  pos := by decide
  okd := by unfold enB en0; decide
theorem enFit : Fit Try.prog enR 22 45 10 :=
  fit_of (z := .agg #[.int .u8 0, .int .u16 0, .int .u8 0, .bool false, .int .u16 0, .int .u8 0, .int .u8 0]) Try.underlying22 (m := 7) (by kernel_rfl) rfl rfl (by decide)
theorem tells_any (k : Int) (w : World) (h0 : 0 ≤ k) : Calls Try.prog 32 #[.int .u8 k] w fun e w' => e = .returned (.bool (decide (k = 5) || decide (k = 6))) ∧ w = w' := by
  by_cases h5 : k = 5
  · subst h5
    go_enter Try.func32, Try.ntmps32
    go_wp2
    go_returns
    exact ⟨rfl, rfl⟩
  · by_cases h6 : k = 6
    · subst h6
      go_enter Try.func32, Try.ntmps32
      go_wp2
      go_returns
      exact ⟨rfl, rfl⟩
    · have b5 : (k == 5) = false := by simpa using h5
      have b6 : (k == 6) = false := by simpa using h6
      rw [decide_eq_false h5, decide_eq_false h6]
      go_enter Try.func32, Try.ntmps32
      go_wp2
      go_returns
      exact ⟨rfl, rfl⟩
def mayE (z : En) : Bool :=
  if z.k = 1 then decide (z.t = 0 ∧ z.o = false ∧ z.n = 0 ∧ z.i = 0 ∧ z.x = 0)
  else if z.k = 2 ∨ z.k = 3 ∨ z.k = 4 then decide (z.o = false ∧ z.n = 0 ∧ z.i = 0 ∧ z.x = 0)
  else if z.k = 5 ∨ z.k = 6 then (if z.o = true then decide (z.c = 0 ∧ z.t = 0 ∧ z.i = 0 ∧ z.x = 0) else decide (z.i < 128 ∧ z.c = 0 ∧ z.n = 0))
  else false
theorem kinds7 (k : Int) : k = 1 ∨ k = 2 ∨ k = 3 ∨ k = 4 ∨ k = 5 ∨ k = 6 ∨ (¬ k = 1 ∧ ¬ k = 2 ∧ ¬ k = 3 ∧ ¬ k = 4 ∧ ¬ k = 5 ∧ ¬ k = 6) := by omega
theorem mayE_no (z : En) (h : ¬ z.k = 1 ∧ ¬ z.k = 2 ∧ ¬ z.k = 3 ∧ ¬ z.k = 4 ∧ ¬ z.k = 5 ∧ ¬ z.k = 6) : mayE z = false := by
  obtain ⟨h1, h2, h3, h4, h5, h6⟩ := h
  unfold mayE
  simp [h1, h2, h3, h4, h5, h6]
set_option maxHeartbeats 2000000 in
theorem may_any (z : En) (w : World) (hz : enB z) : Calls Try.prog 23 #[z.val] w fun e w' => e = .returned (.bool (mayE z)) ∧ Below w.heap.size w w' := by
  obtain ⟨k, c, t, o, n, i, x⟩ := z
  have hi := hz.2.2.2.2.1
  clear hz
  unfold En.val
  simp only at hi ⊢
  rcases kinds7 k with rfl | rfl | rfl | rfl | rfl | rfl | hk
  case inr.inr.inr.inr.inr.inr =>
    rw [mayE_no ⟨k, c, t, o, n, i, x⟩ hk]
    obtain ⟨h1, h2, h3, h4, h5, h6⟩ := hk
    have b1 : (k == 1) = false := by simpa using h1
    have b2 : (k == 2) = false := by simpa using h2
    have b3 : (k == 3) = false := by simpa using h3
    have b4 : (k == 4) = false := by simpa using h4
    have b5 : (k == 5) = false := by simpa using h5
    have b6 : (k == 6) = false := by simpa using h6
    go_enter Try.func23, Try.ntmps23
    go_wp2
    go_returns
    exact ⟨rfl, (Below.refl _ _).alloc (Nat.le_refl _) _⟩
  case inr.inr.inr.inr.inl | inr.inr.inr.inr.inr.inl =>
    cases o
    case false =>
      by_cases h128 : i < 128
      all_goals
        go_enter Try.func23, Try.ntmps23
        go_wp2
        all_goals
          go_returns
          exact ⟨by first | (simp_all [mayE]; done) | (simp_all [mayE]; omega), (Below.refl _ _).alloc (Nat.le_refl _) _⟩
    case true =>
      go_enter Try.func23, Try.ntmps23
      go_wp2
      all_goals
        go_returns
        exact ⟨by simp_all [mayE], (Below.refl _ _).alloc (Nat.le_refl _) _⟩
  all_goals
    cases o
    all_goals
      go_enter Try.func23, Try.ntmps23
      go_wp2
      all_goals
        go_returns
        exact ⟨by simp_all [mayE], (Below.refl _ _).alloc (Nat.le_refl _) _⟩
set_option maxHeartbeats 2000000 in
theorem refmay_any (z : En) (w : World) (hz : enB z) : Calls Try.prog 26 #[z.val] w fun e w' => e = .returned (.bool (mayE z)) ∧ Below w.heap.size w w' := by
  obtain ⟨k, c, t, o, n, i, x⟩ := z
  have hi := hz.2.2.2.2.1
  clear hz
  unfold En.val
  simp only at hi ⊢
  rcases kinds7 k with rfl | rfl | rfl | rfl | rfl | rfl | hk
  case inr.inr.inr.inr.inr.inr =>
    rw [mayE_no ⟨k, c, t, o, n, i, x⟩ hk]
    obtain ⟨h1, h2, h3, h4, h5, h6⟩ := hk
    have b1 : (k == 1) = false := by simpa using h1
    have b2 : (k == 2) = false := by simpa using h2
    have b3 : (k == 3) = false := by simpa using h3
    have b4 : (k == 4) = false := by simpa using h4
    have b5 : (k == 5) = false := by simpa using h5
    have b6 : (k == 6) = false := by simpa using h6
    go_enter Try.func26, Try.ntmps26
    go_wp2
    go_returns
    exact ⟨rfl, (Below.refl _ _).alloc (Nat.le_refl _) _⟩
  case inr.inr.inr.inr.inl | inr.inr.inr.inr.inr.inl =>
    cases o
    case false =>
      by_cases h128 : i < 128
      all_goals
        go_enter Try.func26, Try.ntmps26
        go_wp2
        all_goals
          go_returns
          exact ⟨by first | (simp_all [mayE]; done) | (simp_all [mayE]; omega), (Below.refl _ _).alloc (Nat.le_refl _) _⟩
    case true =>
      go_enter Try.func26, Try.ntmps26
      go_wp2
      all_goals
        go_returns
        exact ⟨by simp_all [mayE], (Below.refl _ _).alloc (Nat.le_refl _) _⟩
  all_goals
    cases o
    all_goals
      go_enter Try.func26, Try.ntmps26
      go_wp2
      all_goals
        go_returns
        exact ⟨by simp_all [mayE], (Below.refl _ _).alloc (Nat.le_refl _) _⟩
end Go.Proofs.Ytkdnnoioejfpgaa
