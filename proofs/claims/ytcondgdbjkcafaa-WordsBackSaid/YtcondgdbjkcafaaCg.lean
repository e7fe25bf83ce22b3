import Derived.Test.YtcondgdbjkcafaaCf
set_option linter.unusedVariables false
namespace Go.Proofs.Ytcondgdbjkcafaa
open Go.RowKit
set_option maxHeartbeats 1000000 in
theorem order_lt1 (a0 a1 a2 : Int) (w : World) (h0 : 0 ≤ a0) (h1 : a0 < 65536) (g0 : 0 ≤ a1) (g1 : a1 < 65536) (k0 : 0 ≤ a2) (k1 : a2 < 65536)
    (e1 : isv 1 a0 a1 = false) (e2 : isv 2 a0 a1 = true) (e3 : isv 3 a0 a1 = true) (e4 : isv 4 a0 a1 = false) (e5 : isv 5 a0 a1 = false) (e6 : isv 6 a0 a1 = true) (f5 : isv 5 a1 a0 = true) (b3 : isv 3 a1 a2 = true) (c3 : isv 3 a0 a2 = true) :
    Calls Try.prog 8 #[.int .u16 a0, .int .u16 a1, .int .u16 a2] w fun e w' => e = .returned (.bool true) ∧ Grown w w' := by
  go_enter Try.func8, Try.ntmps8
  go_wp2
  refine wp_loop_rounds 4 ?_
  rw [rounds_succ]
  go_wp2_with ((with_reducible refine (holds_any _ _ _ _ (by omega) (by omega) (by omega) (by omega) (by omega) (by omega)).mono ?_); rintro e w' ⟨rfl, rfl⟩)
  rw [rounds_succ]
  go_wp2_with ((with_reducible refine (holds_any _ _ _ _ (by omega) (by omega) (by omega) (by omega) (by omega) (by omega)).mono ?_); rintro e w' ⟨rfl, rfl⟩)
  rw [rounds_succ]
  go_wp2_with ((with_reducible refine (holds_any _ _ _ _ (by omega) (by omega) (by omega) (by omega) (by omega) (by omega)).mono ?_); rintro e w' ⟨rfl, rfl⟩)
  rw [rounds_succ]
  go_wp2_with (first | ((with_reducible refine (holds_any _ _ _ _ (by omega) (by omega) (by omega) (by omega) (by omega) (by omega)).mono ?_); rintro e w' ⟨rfl, rfl⟩) | ((with_reducible refine (lives_any _).mono ?_); rintro e w' ⟨rfl, rfl⟩))
  go_returns
  exact ⟨rfl, by go_grown⟩
set_option maxHeartbeats 1000000 in
theorem order_lt0 (a0 a1 a2 : Int) (w : World) (h0 : 0 ≤ a0) (h1 : a0 < 65536) (g0 : 0 ≤ a1) (g1 : a1 < 65536) (k0 : 0 ≤ a2) (k1 : a2 < 65536)
    (e1 : isv 1 a0 a1 = false) (e2 : isv 2 a0 a1 = true) (e3 : isv 3 a0 a1 = true) (e4 : isv 4 a0 a1 = false) (e5 : isv 5 a0 a1 = false) (e6 : isv 6 a0 a1 = true) (f5 : isv 5 a1 a0 = true) (b3 : isv 3 a1 a2 = false) :
    Calls Try.prog 8 #[.int .u16 a0, .int .u16 a1, .int .u16 a2] w fun e w' => e = .returned (.bool true) ∧ Grown w w' := by
  go_enter Try.func8, Try.ntmps8
  go_wp2
  refine wp_loop_rounds 4 ?_
  rw [rounds_succ]
  go_wp2_with ((with_reducible refine (holds_any _ _ _ _ (by omega) (by omega) (by omega) (by omega) (by omega) (by omega)).mono ?_); rintro e w' ⟨rfl, rfl⟩)
  rw [rounds_succ]
  go_wp2_with ((with_reducible refine (holds_any _ _ _ _ (by omega) (by omega) (by omega) (by omega) (by omega) (by omega)).mono ?_); rintro e w' ⟨rfl, rfl⟩)
  rw [rounds_succ]
  go_wp2_with ((with_reducible refine (holds_any _ _ _ _ (by omega) (by omega) (by omega) (by omega) (by omega) (by omega)).mono ?_); rintro e w' ⟨rfl, rfl⟩)
  rw [rounds_succ]
  go_wp2_with (first | ((with_reducible refine (holds_any _ _ _ _ (by omega) (by omega) (by omega) (by omega) (by omega) (by omega)).mono ?_); rintro e w' ⟨rfl, rfl⟩) | ((with_reducible refine (lives_any _).mono ?_); rintro e w' ⟨rfl, rfl⟩))
  go_returns
  exact ⟨rfl, by go_grown⟩
set_option maxHeartbeats 1000000 in
theorem order_eq (a0 a1 a2 : Int) (w : World) (h0 : 0 ≤ a0) (h1 : a0 < 65536) (g0 : 0 ≤ a1) (g1 : a1 < 65536) (k0 : 0 ≤ a2) (k1 : a2 < 65536)
    (e1 : isv 1 a0 a1 = true) (e2 : isv 2 a0 a1 = false) (e3 : isv 3 a0 a1 = false) (e4 : isv 4 a0 a1 = true) (e5 : isv 5 a0 a1 = false) (e6 : isv 6 a0 a1 = true) (f5 : isv 5 a1 a0 = false) :
    Calls Try.prog 8 #[.int .u16 a0, .int .u16 a1, .int .u16 a2] w fun e w' => e = .returned (.bool true) ∧ Grown w w' := by
  go_enter Try.func8, Try.ntmps8
  go_wp2
  refine wp_loop_rounds 4 ?_
  rw [rounds_succ]
  go_wp2_with ((with_reducible refine (holds_any _ _ _ _ (by omega) (by omega) (by omega) (by omega) (by omega) (by omega)).mono ?_); rintro e w' ⟨rfl, rfl⟩)
  rw [rounds_succ]
  go_wp2_with ((with_reducible refine (holds_any _ _ _ _ (by omega) (by omega) (by omega) (by omega) (by omega) (by omega)).mono ?_); rintro e w' ⟨rfl, rfl⟩)
  rw [rounds_succ]
  go_wp2_with ((with_reducible refine (holds_any _ _ _ _ (by omega) (by omega) (by omega) (by omega) (by omega) (by omega)).mono ?_); rintro e w' ⟨rfl, rfl⟩)
  rw [rounds_succ]
  go_wp2_with (first | ((with_reducible refine (holds_any _ _ _ _ (by omega) (by omega) (by omega) (by omega) (by omega) (by omega)).mono ?_); rintro e w' ⟨rfl, rfl⟩) | ((with_reducible refine (lives_any _).mono ?_); rintro e w' ⟨rfl, rfl⟩))
  go_returns
  exact ⟨rfl, by go_grown⟩
set_option maxHeartbeats 1000000 in
theorem order_gt (a0 a1 a2 : Int) (w : World) (h0 : 0 ≤ a0) (h1 : a0 < 65536) (g0 : 0 ≤ a1) (g1 : a1 < 65536) (k0 : 0 ≤ a2) (k1 : a2 < 65536)
    (e1 : isv 1 a0 a1 = false) (e2 : isv 2 a0 a1 = true) (e3 : isv 3 a0 a1 = false) (e4 : isv 4 a0 a1 = true) (e5 : isv 5 a0 a1 = true) (e6 : isv 6 a0 a1 = false) (f5 : isv 5 a1 a0 = false) :
    Calls Try.prog 8 #[.int .u16 a0, .int .u16 a1, .int .u16 a2] w fun e w' => e = .returned (.bool true) ∧ Grown w w' := by
  go_enter Try.func8, Try.ntmps8
  go_wp2
  refine wp_loop_rounds 4 ?_
  rw [rounds_succ]
  go_wp2_with ((with_reducible refine (holds_any _ _ _ _ (by omega) (by omega) (by omega) (by omega) (by omega) (by omega)).mono ?_); rintro e w' ⟨rfl, rfl⟩)
  rw [rounds_succ]
  go_wp2_with ((with_reducible refine (holds_any _ _ _ _ (by omega) (by omega) (by omega) (by omega) (by omega) (by omega)).mono ?_); rintro e w' ⟨rfl, rfl⟩)
  rw [rounds_succ]
  go_wp2_with ((with_reducible refine (holds_any _ _ _ _ (by omega) (by omega) (by omega) (by omega) (by omega) (by omega)).mono ?_); rintro e w' ⟨rfl, rfl⟩)
  rw [rounds_succ]
  go_wp2_with (first | ((with_reducible refine (holds_any _ _ _ _ (by omega) (by omega) (by omega) (by omega) (by omega) (by omega)).mono ?_); rintro e w' ⟨rfl, rfl⟩) | ((with_reducible refine (lives_any _).mono ?_); rintro e w' ⟨rfl, rfl⟩))
  go_returns
  exact ⟨rfl, by go_grown⟩
theorem walk_order (a0 a1 a2 : Int) (w0 : (Lit.int .u16 a0).wf = true) (w1 : (Lit.int .u16 a1).wf = true) (w2 : (Lit.int .u16 a2).wf = true) (w : World) :
    Calls Try.prog 8 #[.int .u16 a0, .int .u16 a1, .int .u16 a2] w fun e w' => e = .returned (.bool true) ∧ Grown w w' := by
  obtain ⟨h0, h1⟩ := b16 w0
  obtain ⟨g0, g1⟩ := b16 w1
  obtain ⟨k0, k1⟩ := b16 w2
  clear w0 w1 w2
  have hs := s_eq a0 a1 h0 h1 g0 g1
  have e1 : isv 1 a0 a1 = decide (S a0 = S a1) := by
    simp only [isv, if_true]; exact decide_eq_decide.2 hs.symm
  have e2 : isv 2 a0 a1 = decide (¬ S a0 = S a1) := by
    show decide (¬ a0 = a1) = _; exact decide_eq_decide.2 (not_congr hs.symm)
  have e3 : isv 3 a0 a1 = decide (S a0 < S a1) := rfl
  have e4 : isv 4 a0 a1 = decide (¬ S a0 < S a1) := rfl
  have e5 : isv 5 a0 a1 = decide (S a1 < S a0) := rfl
  have e6 : isv 6 a0 a1 = decide (¬ S a1 < S a0) := rfl
  have f5 : isv 5 a1 a0 = decide (S a0 < S a1) := rfl
  have b3 : isv 3 a1 a2 = decide (S a1 < S a2) := rfl
  have c3 : isv 3 a0 a2 = decide (S a0 < S a2) := rfl
  rcases (show S a0 < S a1 ∨ S a0 = S a1 ∨ S a1 < S a0 by omega) with h | h | h
  · by_cases hb : S a1 < S a2
    · exact order_lt1 a0 a1 a2 w h0 h1 g0 g1 k0 k1 (by rw [e1]; simp; omega) (by rw [e2]; simp; omega) (by rw [e3]; simp; omega) (by rw [e4]; simp; omega) (by rw [e5]; simp; omega) (by rw [e6]; simp; omega) (by rw [f5]; simp; omega) (by rw [b3]; simp; omega) (by rw [c3]; simp; omega)
    · exact order_lt0 a0 a1 a2 w h0 h1 g0 g1 k0 k1 (by rw [e1]; simp; omega) (by rw [e2]; simp; omega) (by rw [e3]; simp; omega) (by rw [e4]; simp; omega) (by rw [e5]; simp; omega) (by rw [e6]; simp; omega) (by rw [f5]; simp; omega) (by rw [b3]; simp; omega)
  · exact order_eq a0 a1 a2 w h0 h1 g0 g1 k0 k1 (by rw [e1]; simp; omega) (by rw [e2]; simp; omega) (by rw [e3]; simp; omega) (by rw [e4]; simp; omega) (by rw [e5]; simp; omega) (by rw [e6]; simp; omega) (by rw [f5]; simp; omega)
  · exact order_gt a0 a1 a2 w h0 h1 g0 g1 k0 k1 (by rw [e1]; simp; omega) (by rw [e2]; simp; omega) (by rw [e3]; simp; omega) (by rw [e4]; simp; omega) (by rw [e5]; simp; omega) (by rw [e6]; simp; omega) (by rw [f5]; simp; omega)
theorem m_up (x : Int) (k : Nat) : S (x * pw k % 65536) * 2 % 65536 = x * pw (k + 1) % 65536 := by
  rw [pw_succ, ← Int.mul_assoc]
  have e := s_mod (x * pw k % 65536) (by omega) (by omega)
  generalize x * pw k = y at *
  omega
theorem m_down (x : Int) (k : Nat) (h0 : -32768 ≤ x ∧ x ≤ 32767) : S (x / pw k % 65536) / 2 % 65536 = x / pw (k + 1) % 65536 := by
  have p := pw_pos k
  have e : x / pw (k + 1) = x / pw k / 2 := by rw [pw_succ, Int.ediv_ediv_of_nonneg (by omega)]
  have l1 : -32768 ≤ x / pw k := by
    rw [Int.le_ediv_iff_mul_le (by omega)]
    have : 0 ≤ (pw k - 1) * 32768 := Int.mul_nonneg (by omega) (by omega)
    omega
  have l2 : x / pw k ≤ 32767 := by
    have : x / pw k < 32768 := by
      rw [Int.ediv_lt_iff_lt_mul (by omega)]
      have : 0 ≤ (pw k - 1) * 32768 := Int.mul_nonneg (by omega) (by omega)
      omega
    omega
  rw [e]
  generalize x / pw k = y at *
  unfold S
  split <;> omega
theorem walk_moves (a0 a1 : Int) (w0 : (Lit.int .u16 a0).wf = true) (w1 : (Lit.int .u8 a1).wf = true) (w : World) :
    Calls Try.prog 9 #[.int .u16 a0, .int .u8 a1] w fun e w' => e = .returned (.bool true) ∧ Grown w w' := by
  obtain ⟨h0, h1⟩ := b16 w0
  obtain ⟨g0, g1⟩ := b8 w1
  clear w0 w1
  have ha := s_bd a0 h0 h1
  have hb0 : 0 ≤ a1 % 16 := by omega
  have hb1 : a1 % 16 ≤ 15 := by omega
  have cl1 : ∀ a w, 0 ≤ a → a < 65536 → Calls Try.prog 10 #[.int .u8 6, .int .u16 a, .int .u16 1] w fun e w' => e = .returned (.tuple #[.int .u16 (S a * 2 % 65536), .int .u8 0, .int .i64 0]) ∧ w = w' :=
    fun a w p q => (two_shl a 1 w p q (by decide) (by decide)).mono fun e w' h => h
  have cr1 : ∀ a w, 0 ≤ a → a < 65536 → Calls Try.prog 10 #[.int .u8 7, .int .u16 a, .int .u16 1] w fun e w' => e = .returned (.tuple #[.int .u16 (S a / 2 % 65536), .int .u8 0, .int .i64 0]) ∧ w = w' :=
    fun a w p q => (two_shr a 1 w p q (by decide) (by decide)).mono fun e w' h => h
  have cls : ∀ (k : Nat) (w : World), (k : Int) = a1 % 16 → Calls Try.prog 10 #[.int .u8 6, .int .u16 a0, .int .u16 (a1 % 16)] w fun e w' => e = .returned (.tuple #[.int .u16 (S a0 * pw k % 65536), .int .u8 0, .int .i64 0]) ∧ w = w' := by
    intro k w hk
    refine (two_shl a0 (a1 % 16) w h0 h1 (by omega) (by omega)).mono ?_
    rintro e w' ⟨rfl, rfl⟩
    exact ⟨by rw [show (a1 % 16 % 32).toNat = k by omega]; rfl, rfl⟩
  have crs : ∀ (k : Nat) (w : World), (k : Int) = a1 % 16 → Calls Try.prog 10 #[.int .u8 7, .int .u16 a0, .int .u16 (a1 % 16)] w fun e w' => e = .returned (.tuple #[.int .u16 (S a0 / pw k % 65536), .int .u8 0, .int .i64 0]) ∧ w = w' := by
    intro k w hk
    refine (two_shr a0 (a1 % 16) w h0 h1 (by omega) (by omega)).mono ?_
    rintro e w' ⟨rfl, rfl⟩
    exact ⟨by rw [show (a1 % 16 % 32).toNat = k by omega]; rfl, rfl⟩
  have cu0 : ∀ w, Calls Try.prog 10 #[.int .u8 8, .int .u16 a0, .int .u16 0] w fun e w' => e = .returned (.tuple #[.int .u16 a0, .int .u8 0, .int .i64 0]) ∧ w = w' := by
    intro w
    refine (two_ushr a0 0 w h0 h1 (by decide) (by decide)).mono ?_
    rintro e w' ⟨rfl, rfl⟩
    exact ⟨ret3 (by show S a0 % 4294967296 / 1 % 65536 = a0; have := s_mod a0 h0 h1; omega) rfl rfl, rfl⟩
  have cadd : ∀ w, Calls Try.prog 10 #[.int .u8 1, .int .u16 a0, .int .u16 a0] w fun e w' => e = .returned (.tuple #[.int .u16 (S a0 * 2 % 65536), .int .u8 0, .int .i64 0]) ∧ w = w' := by
    intro w
    refine (two_add a0 a0 w h0 h1 h0 h1).mono ?_
    rintro e w' ⟨rfl, rfl⟩
    exact ⟨ret3 (by have := s_mod a0 h0 h1; omega) rfl rfl, rfl⟩
  have L1 := Lib.hid cl1
  have R1 := Lib.hid cr1
  have LS := Lib.hid cls
  have RS := Lib.hid crs
  have U0 := Lib.hid cu0
  have AD := Lib.hid cadd
  clear cl1 cr1 cls crs cu0 cadd
  go_enter Try.func9, Try.ntmps9
  go_wp2
  go_loop [6, 7, 9] (fun u d i => ∃ k : Nat, (k : Int) ≤ a1 % 16 ∧ i = .int .u16 k ∧ u = .int .u16 (S a0 * pw k % 65536) ∧ d = .int .u16 (S a0 / pw k % 65536)) (fun _ _ i => (a1 % 16).toNat - (intOf i).toNat)
  case atStart => exact ⟨0, by simpa using hb0, rfl, by rw [pw_zero, Int.mul_one, s_mod a0 h0 h1], by rw [pw_zero, Int.ediv_one, s_mod a0 h0 h1]⟩
  case round =>
    obtain ⟨k, hk, rfl, rfl, rfl⟩ := hrel
    have hu := m_up (S a0) k
    have hd := m_down (S a0) k ha
    have HU := Lib.hid hu
    have HD := Lib.hid hd
    clear hu hd
    by_cases hlt : (k : Int) < a1 % 16
    · go_wp2_with (first | ((with_reducible refine (L1.out _ _ (by omega) (by omega)).mono ?_); rintro e w' ⟨rfl, rfl⟩) | ((with_reducible refine (R1.out _ _ (by omega) (by omega)).mono ?_); rintro e w' ⟨rfl, rfl⟩))
      go_round
      case rel => exact ⟨k + 1, by omega, by go_num, congrArg (Value.int .u16) HU.out, congrArg (Value.int .u16) HD.out⟩
      case measure => simp [intOf]; omega
    · have hke : (k : Int) = a1 % 16 := by omega
      have LK := Lib.hid fun w => LS.out k w hke
      have RK := Lib.hid fun w => RS.out k w hke
      clear HU HD hke
      go_wp2_with (first | ((with_reducible refine (L1.out _ _ (by omega) (by omega)).mono ?_); rintro e w' ⟨rfl, rfl⟩) | ((with_reducible refine (LK.out _).mono ?_); rintro e w' ⟨rfl, rfl⟩) | ((with_reducible refine (RK.out _).mono ?_); rintro e w' ⟨rfl, rfl⟩) | ((with_reducible refine (U0.out _).mono ?_); rintro e w' ⟨rfl, rfl⟩) | ((with_reducible refine (AD.out _).mono ?_); rintro e w' ⟨rfl, rfl⟩) | ((with_reducible refine (lives_any _).mono ?_); rintro e w' ⟨rfl, rfl⟩))
      go_returns
      exact ⟨rfl, Grown.refl _⟩
end Go.Proofs.Ytcondgdbjkcafaa
