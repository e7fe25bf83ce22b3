import Derived.Test.YtihdfogcnghfaaaFa
import Derived.Test.YtihdfogcnghfaaaDd
set_option linter.unusedVariables false
namespace Go.Proofs.Ytihdfogcnghfaaa
open Go.RowKit
/-! Types: what is one. -/
abbrev Ty := Int × Int
def tyR : Rec Ty where
  enc p := [.int .u8 p.1, .int .u16 p.2]
  m := 2
  ok p := (0 ≤ p.1 ∧ p.1 < 256) ∧ (0 ≤ p.2 ∧ p.2 < 65536)
  d := (0, 0)
  len _ := rfl
  one _ u hu := by simp at hu; rcases hu with rfl | rfl <;> rfl
  pos := by decide
  okd := ⟨⟨by decide, by decide⟩, ⟨by decide, by decide⟩⟩
theorem tyFit : Fit Try.prog tyR 26 25 4 :=
  fit_of (z := .agg #[.int .u8 0, .int .u16 0]) Try.underlying26 (m := 2) (by kernel_rfl) rfl rfl (by decide)
def clsd (k : Int) : Bool := decide (k = 4) || decide (k = 8)
def mayT (k c : Int) : Bool := decide (1 ≤ k ∧ k ≤ 8) && (clsd k || decide (c = 0))
theorem kinds (k : Int) (h0 : 0 ≤ k) : k = 0 ∨ k = 1 ∨ k = 2 ∨ k = 3 ∨ k = 4 ∨ k = 5 ∨ k = 6 ∨ k = 7 ∨ k = 8 ∨ 8 < k := by omega
theorem hasc_any (k : Int) (w : World) (h0 : 0 ≤ k) : Calls Try.prog 37 #[.int .u8 k] w fun e w' => e = .returned (.bool (clsd k)) ∧ w = w' := by
  unfold clsd
  by_cases h4 : k = 4
  · subst h4
    go_enter Try.func37, Try.ntmps37
    go_wp2
    go_returns
    exact ⟨rfl, rfl⟩
  · by_cases h8 : k = 8
    · subst h8
      go_enter Try.func37, Try.ntmps37
      go_wp2
      go_returns
      exact ⟨rfl, rfl⟩
    · have b4 : (k == 4) = false := by simpa using h4
      have b8 : (k == 8) = false := by simpa using h8
      rw [decide_eq_false h4, decide_eq_false h8]
      go_enter Try.func37, Try.ntmps37
      go_wp2
      go_returns
      exact ⟨rfl, rfl⟩
theorem refclsd_any (k : Int) (w : World) (h0 : 0 ≤ k) : Calls Try.prog 33 #[.int .u8 k] w fun e w' => e = .returned (.bool (clsd k)) ∧ w = w' := by
  unfold clsd
  by_cases h4 : k = 4
  · subst h4
    go_enter Try.func33, Try.ntmps33
    go_wp2
    go_returns
    exact ⟨rfl, rfl⟩
  · by_cases h8 : k = 8
    · subst h8
      go_enter Try.func33, Try.ntmps33
      go_wp2
      go_returns
      exact ⟨rfl, rfl⟩
    · have b4 : (k == 4) = false := by simpa using h4
      have b8 : (k == 8) = false := by simpa using h8
      rw [decide_eq_false h4, decide_eq_false h8]
      go_enter Try.func33, Try.ntmps33
      go_wp2
      go_returns
      exact ⟨rfl, rfl⟩
theorem mayT_big (k c : Int) (h : 8 < k) : mayT k c = clsd k := by
  unfold mayT clsd
  rw [decide_eq_false (by omega), decide_eq_false (show ¬ k = 4 by omega), decide_eq_false (show ¬ k = 8 by omega)]
  rfl
theorem mayT_no (k c : Int) (hc : ¬ c = 0) (h : k = 0 ∨ k = 1 ∨ k = 2 ∨ k = 3 ∨ k = 5 ∨ k = 6 ∨ k = 7) : mayT k c = false := by
  unfold mayT clsd
  rw [decide_eq_false hc, decide_eq_false (show ¬ k = 4 by omega), decide_eq_false (show ¬ k = 8 by omega)]
  simp
theorem mayT_c (k c : Int) (h : k = 4 ∨ k = 8) : mayT k c = true := by
  rcases h with rfl | rfl <;> rfl
theorem may_any (k c : Int) (w : World) (h0 : 0 ≤ k) (c0 : 0 ≤ c) : Calls Try.prog 12 #[.agg #[.int .u8 k, .int .u16 c]] w fun e w' => e = .returned (.bool (mayT k c)) ∧ Below w.heap.size w w' := by
  have HC := Lib.hid (fun w => hasc_any k w h0)
  by_cases hc : c = 0
  · subst hc
    rcases kinds k h0 with rfl | rfl | rfl | rfl | rfl | rfl | rfl | rfl | rfl | h8
    all_goals
      try rw [mayT_big k 0 h8]
      go_enter Try.func12, Try.ntmps12
      go_wp2_with ((refine (HC.out _).mono ?_); rintro e w' ⟨rfl, rfl⟩)
      go_returns
      exact ⟨rfl, (Below.refl _ _).alloc (Nat.le_refl _) _⟩
  · have hcb : (c == 0) = false := by simpa using hc
    rcases kinds k h0 with rfl | rfl | rfl | rfl | rfl | rfl | rfl | rfl | rfl | h8
    all_goals
      try rw [mayT_big k c h8]
      try rw [mayT_no _ c hc (by decide)]
      try rw [mayT_c _ c (by decide)]
      go_enter Try.func12, Try.ntmps12
      go_wp2_with ((refine (HC.out _).mono ?_); rintro e w' ⟨rfl, rfl⟩)
      go_returns
      exact ⟨rfl, (Below.refl _ _).alloc (Nat.le_refl _) _⟩
theorem refmay_any (k c : Int) (w : World) (h0 : 0 ≤ k) (c0 : 0 ≤ c) : Calls Try.prog 13 #[.agg #[.int .u8 k, .int .u16 c]] w fun e w' => e = .returned (.bool (mayT k c)) ∧ Below w.heap.size w w' := by
  have HC := Lib.hid (fun w => refclsd_any k w h0)
  unfold mayT
  by_cases h1 : 1 ≤ k
  · by_cases h8 : k ≤ 8
    · rw [decide_eq_true ⟨h1, h8⟩]
      cases hk : clsd k
      · rw [hk] at HC
        clear hk
        by_cases hc : c = 0
        · subst hc
          go_enter Try.func13, Try.ntmps13
          go_wp2_with ((refine (HC.out _).mono ?_); rintro e w' ⟨rfl, rfl⟩)
          go_returns
          exact ⟨rfl, (Below.refl _ _).alloc (Nat.le_refl _) _⟩
        · have hcb : (c == 0) = false := by simpa using hc
          rw [decide_eq_false hc]
          go_enter Try.func13, Try.ntmps13
          go_wp2_with ((refine (HC.out _).mono ?_); rintro e w' ⟨rfl, rfl⟩)
          go_returns
          exact ⟨rfl, (Below.refl _ _).alloc (Nat.le_refl _) _⟩
      · rw [hk] at HC
        clear hk
        go_enter Try.func13, Try.ntmps13
        go_wp2_with ((refine (HC.out _).mono ?_); rintro e w' ⟨rfl, rfl⟩)
        go_returns
        exact ⟨rfl, (Below.refl _ _).alloc (Nat.le_refl _) _⟩
    · rw [decide_eq_false (by omega)]
      go_enter Try.func13, Try.ntmps13
      go_wp2_with fail
      go_returns
      exact ⟨rfl, (Below.refl _ _).alloc (Nat.le_refl _) _⟩
  · rw [decide_eq_false (by omega)]
    go_enter Try.func13, Try.ntmps13
    go_wp2_with fail
    go_returns
    exact ⟨rfl, (Below.refl _ _).alloc (Nat.le_refl _) _⟩
def mayR (k c : Int) : Bool := (decide (k = 0) && decide (c = 0)) || mayT k c
theorem mayret_any (k c : Int) (w : World) (h0 : 0 ≤ k) (c0 : 0 ≤ c) : Calls Try.prog 43 #[.agg #[.int .u8 k, .int .u16 c]] w fun e w' => e = .returned (.bool (mayR k c)) ∧ Below w.heap.size w w' := by
  have HC := Lib.hid (fun w => may_any k c w h0 c0)
  unfold mayR
  by_cases hk : k = 0
  · subst hk
    by_cases hc : c = 0
    · subst hc
      go_enter Try.func43, Try.ntmps43
      go_wp2_with fail
      go_returns
      exact ⟨rfl, (Below.refl _ _).alloc (Nat.le_refl _) _⟩
    · have hcb : (c == 0) = false := by simpa using hc
      rw [decide_eq_false hc]
      go_enter Try.func43, Try.ntmps43
      go_wp2_with ((refine (HC.out _).mono ?_); rintro e w' ⟨rfl, hb⟩)
      go_returns
      exact ⟨rfl, ((Below.refl _ _).alloc (Nat.le_refl _) _).trans (hb.mono (by simp))⟩
  · have hkb : (k == 0) = false := by simpa using hk
    rw [decide_eq_false hk]
    go_enter Try.func43, Try.ntmps43
    go_wp2_with ((refine (HC.out _).mono ?_); rintro e w' ⟨rfl, hb⟩)
    go_returns
    exact ⟨rfl, ((Below.refl _ _).alloc (Nat.le_refl _) _).trans (hb.mono (by simp))⟩
/-! What a type is. -/
def refB (k : Int) : Bool := decide (4 ≤ k ∧ k ≤ 8)
def arrB (k : Int) : Bool := decide (5 ≤ k ∧ k ≤ 8)
def sizeT (k : Int) : Int := if k = 5 ∨ k = 6 then 1 else if k = 7 ∨ k = 8 then 2 else 0
theorem isarr_any (k c : Int) (w : World) (h0 : 0 ≤ k) : Calls Try.prog 17 #[.agg #[.int .u8 k, .int .u16 c]] w fun e w' => e = .returned (.bool (arrB k)) ∧ Below w.heap.size w w' := by
  unfold arrB
  rcases kinds k h0 with rfl | rfl | rfl | rfl | rfl | rfl | rfl | rfl | rfl | h8
  all_goals
    try rw [decide_eq_false (show ¬ (5 ≤ k ∧ k ≤ 8) by omega)]
    go_enter Try.func17, Try.ntmps17
    go_wp2_with fail
    go_returns
    exact ⟨rfl, (Below.refl _ _).alloc (Nat.le_refl _) _⟩
theorem refisarr_any (k c : Int) (w : World) (h0 : 0 ≤ k) : Calls Try.prog 18 #[.agg #[.int .u8 k, .int .u16 c]] w fun e w' => e = .returned (.bool (arrB k)) ∧ Below w.heap.size w w' := by
  unfold arrB
  rcases kinds k h0 with rfl | rfl | rfl | rfl | rfl | rfl | rfl | rfl | rfl | h8
  all_goals
    try rw [decide_eq_false (show ¬ (5 ≤ k ∧ k ≤ 8) by omega)]
    try have d8 : decide (k ≤ 8) = false := decide_eq_false (by omega)
    go_enter Try.func18, Try.ntmps18
    go_wp2_with fail
    go_returns
    exact ⟨rfl, (Below.refl _ _).alloc (Nat.le_refl _) _⟩
theorem isref_any (k c : Int) (w : World) (h0 : 0 ≤ k) : Calls Try.prog 15 #[.agg #[.int .u8 k, .int .u16 c]] w fun e w' => e = .returned (.bool (refB k)) ∧ Below w.heap.size w w' := by
  have HC := Lib.hid (fun w => isarr_any k c w h0)
  unfold refB
  rcases kinds k h0 with rfl | rfl | rfl | rfl | rfl | rfl | rfl | rfl | rfl | h8
  case inr.inr.inr.inr.inl =>
    go_enter Try.func15, Try.ntmps15
    go_wp2_with fail
    go_returns
    exact ⟨rfl, (Below.refl _ _).alloc (Nat.le_refl _) _⟩
  case inr.inr.inr.inr.inr.inr.inr.inr.inr =>
    rw [decide_eq_false (show ¬ (4 ≤ k ∧ k ≤ 8) by omega)]
    rw [show arrB k = false from decide_eq_false (by omega)] at HC
    have d4 : (k == 4) = false := beq_eq_false_iff_ne.2 (by omega)
    go_enter Try.func15, Try.ntmps15
    go_wp2_with ((refine (HC.out _).mono ?_); rintro e w' ⟨rfl, hb⟩)
    go_returns
    exact ⟨rfl, ((Below.refl _ _).alloc (Nat.le_refl _) _).trans (hb.mono (by simp))⟩
  all_goals
    go_enter Try.func15, Try.ntmps15
    go_wp2_with ((refine (HC.out _).mono ?_); rintro e w' ⟨rfl, hb⟩)
    go_returns
    exact ⟨rfl, ((Below.refl _ _).alloc (Nat.le_refl _) _).trans (hb.mono (by simp))⟩
theorem refisref_any (k c : Int) (w : World) (h0 : 0 ≤ k) : Calls Try.prog 16 #[.agg #[.int .u8 k, .int .u16 c]] w fun e w' => e = .returned (.bool (refB k)) ∧ Below w.heap.size w w' := by
  unfold refB
  rcases kinds k h0 with rfl | rfl | rfl | rfl | rfl | rfl | rfl | rfl | rfl | h8
  all_goals
    try rw [decide_eq_false (show ¬ (4 ≤ k ∧ k ≤ 8) by omega)]
    try have d8 : decide (k ≤ 8) = false := decide_eq_false (by omega)
    go_enter Try.func16, Try.ntmps16
    go_wp2_with fail
    go_returns
    exact ⟨rfl, (Below.refl _ _).alloc (Nat.le_refl _) _⟩
theorem tysize_any (k c : Int) (w : World) (h0 : 0 ≤ k) : Calls Try.prog 19 #[.agg #[.int .u8 k, .int .u16 c]] w fun e w' => e = .returned (.int .i64 (sizeT k)) ∧ Below w.heap.size w w' := by
  unfold sizeT
  rcases kinds k h0 with rfl | rfl | rfl | rfl | rfl | rfl | rfl | rfl | rfl | h8
  all_goals
    try rw [if_neg (show ¬ (k = 5 ∨ k = 6) by omega), if_neg (show ¬ (k = 7 ∨ k = 8) by omega)]
    go_enter Try.func19, Try.ntmps19
    go_wp2_with fail
    go_returns
    exact ⟨rfl, (Below.refl _ _).alloc (Nat.le_refl _) _⟩
theorem reftysize_any (k c : Int) (w : World) (h0 : 0 ≤ k) : Calls Try.prog 20 #[.agg #[.int .u8 k, .int .u16 c]] w fun e w' => e = .returned (.int .i64 (sizeT k)) ∧ Below w.heap.size w w' := by
  unfold sizeT
  rcases kinds k h0 with rfl | rfl | rfl | rfl | rfl | rfl | rfl | rfl | rfl | h8
  all_goals
    try rw [if_neg (show ¬ (k = 5 ∨ k = 6) by omega), if_neg (show ¬ (k = 7 ∨ k = 8) by omega)]
    go_enter Try.func20, Try.ntmps20
    go_wp2_with fail
    go_returns
    exact ⟨rfl, (Below.refl _ _).alloc (Nat.le_refl _) _⟩
end Go.Proofs.Ytihdfogcnghfaaa
