import Derived.Test.YtcondgdbjkcafaaCe
set_option linter.unusedVariables false
namespace Go.Proofs.Ytcondgdbjkcafaa
open Go.RowKit
theorem m_div_back (a b : Int) (h0 : 0 ≤ a) (h1 : a < 65536) (g0 : 0 ≤ b) (g1 : b < 65536) :
    ((S a).tdiv (S b) % 65536 * b % 65536 + (S a).tmod (S b) % 65536) % 65536 = a := by
  have e := m_tmod (S a) (S b)
  have m : (S a).tdiv (S b) % 65536 * b % 65536 = (S a).tdiv (S b) * S b % 65536 := by
    have l : ∀ q s c : Int, s % 65536 = c → q % 65536 * c % 65536 = q * s % 65536 := by
      intro q s c h
      subst h
      exact (Int.mul_emod q s 65536).symm
    exact l _ _ _ (s_mod b g0 g1)
  have k := s_mod a h0 h1
  rw [m]
  omega
theorem m_tmod_sign (x y : Int) (hx : -32768 ≤ x ∧ x ≤ 32767) (hr : ¬ x.tmod y = 0) : (x.tmod y < 0 ↔ x < 0) ∧ -32768 ≤ x.tmod y ∧ x.tmod y ≤ 32767 := by
  have h : (x.tmod y).natAbs ≤ x.natAbs := by rw [Int.natAbs_tmod]; exact Nat.mod_le _ _
  by_cases hn : 0 ≤ x
  · have := Int.tmod_nonneg y hn
    omega
  · have e1 : x.tmod y = -((-x).tmod y) := by rw [Int.neg_tmod]; omega
    have := Int.tmod_nonneg y (show 0 ≤ -x by omega)
    omega
theorem walk_divides (a0 a1 : Int) (w0 : (Lit.int .u16 a0).wf = true) (w1 : (Lit.int .u16 a1).wf = true) (w : World) :
    Calls Try.prog 6 #[.int .u16 a0, .int .u16 a1] w fun e w' => e = .returned (.bool true) ∧ Grown w w' := by
  obtain ⟨h0, h1⟩ := b16 w0
  obtain ⟨g0, g1⟩ := b16 w1
  clear w0 w1
  by_cases hb : a1 = 0
  · subst hb
    go_enter Try.func6, Try.ntmps6
    go_wp2_with ((with_reducible refine (lives_any _).mono ?_); rintro e w' ⟨rfl, rfl⟩)
    go_returns
    exact ⟨rfl, Grown.refl _⟩
  · have hba : (a1 == 0) = false := by simpa using hb
    have ha := s_bd a0 h0 h1
    have hm := m_div_back a0 a1 h0 h1 g0 g1
    have hsg := m_tmod_sign (S a0) (S a1) ha
    have c4 := fun w => two_div a0 a1 w h0 h1 g0 g1 hb
    have c5 := fun w => two_rem a0 a1 w h0 h1 g0 g1 hb
    generalize hQ : (S a0).tdiv (S a1) % 65536 = Q at *
    generalize hT : (S a0).tmod (S a1) = T at *
    generalize hR : T % 65536 = R at *
    have q0 : 0 ≤ Q ∧ Q < 65536 := by omega
    have r0 : 0 ≤ R ∧ R < 65536 := by omega
    have C4 := Lib.hid c4
    have C5 := Lib.hid c5
    clear c4 c5 hQ hT
    by_cases hr : T = 0
    · obtain rfl : R = 0 := by omega
      clear hsg hr hR
      go_enter Try.func6, Try.ntmps6
      go_wp2_with (first | ((with_reducible refine (C4.out _).mono ?_); rintro e w' ⟨rfl, rfl⟩) | ((with_reducible refine (C5.out _).mono ?_); rintro e w' ⟨rfl, rfl⟩) | ((with_reducible refine (two_add _ _ _ (by omega) (by omega) (by omega) (by omega)).mono ?_); rintro e w' ⟨rfl, rfl⟩) | ((with_reducible refine (two_mul _ _ _ (by omega) (by omega) (by omega) (by omega)).mono ?_); rintro e w' ⟨rfl, rfl⟩) | ((with_reducible refine (worth_any _ _ (by omega) (by omega)).mono ?_); rintro e w' ⟨rfl, rfl⟩) | ((with_reducible refine (lives_any _).mono ?_); rintro e w' ⟨rfl, rfl⟩))
      go_returns
      exact ⟨rfl, Grown.refl _⟩
    · have hsR : S R = T := by unfold S; have := hsg hr; split <;> omega
      have hRz : (R == 0) = false := by have := hsg hr; simp; omega
      by_cases hn : S a0 < 0
      all_goals
        first | (have hn' : S R < 0 := by (have := hsg hr; omega)) | (have hn' : ¬ S R < 0 := by (have := hsg hr; omega))
        clear hsg hr hR hsR
        go_enter Try.func6, Try.ntmps6
        go_wp2_with (first | ((with_reducible refine (C4.out _).mono ?_); rintro e w' ⟨rfl, rfl⟩) | ((with_reducible refine (C5.out _).mono ?_); rintro e w' ⟨rfl, rfl⟩) | ((with_reducible refine (two_add _ _ _ (by omega) (by omega) (by omega) (by omega)).mono ?_); rintro e w' ⟨rfl, rfl⟩) | ((with_reducible refine (two_mul _ _ _ (by omega) (by omega) (by omega) (by omega)).mono ?_); rintro e w' ⟨rfl, rfl⟩) | ((with_reducible refine (worth_any _ _ (by omega) (by omega)).mono ?_); rintro e w' ⟨rfl, rfl⟩) | ((with_reducible refine (lives_any _).mono ?_); rintro e w' ⟨rfl, rfl⟩))
        go_returns
        exact ⟨rfl, Grown.refl _⟩
theorem low_sum (x y i : Nat) : low (x &&& y) i + low (x ^^^ y) i = low (x ||| y) i := by
  induction i with
  | zero => simp only [low_zero]; rfl
  | succ i ih =>
    have a := bit_and x y i
    have o := bit_or x y i
    have z := bit_xor x y i
    have p := bit_lt x i
    have q := bit_lt y i
    by_cases hx : bitOf x i = 1 <;> by_cases hy : bitOf y i = 1
    · rw [if_pos (by omega)] at a; rw [if_pos (by omega)] at o; rw [if_neg (by omega)] at z
      rw [low_set _ _ a, low_set _ _ o, low_not _ _ z]; omega
    · rw [if_neg (by omega)] at a; rw [if_pos (by omega)] at o; rw [if_pos (by omega)] at z
      rw [low_not _ _ a, low_set _ _ o, low_set _ _ z]; omega
    · rw [if_neg (by omega)] at a; rw [if_pos (by omega)] at o; rw [if_pos (by omega)] at z
      rw [low_not _ _ a, low_set _ _ o, low_set _ _ z]; omega
    · rw [if_neg (by omega)] at a; rw [if_neg (by omega)] at o; rw [if_neg (by omega)] at z
      rw [low_not _ _ a, low_not _ _ o, low_not _ _ z]; omega
theorem m_bits (a b : Int) (h0 : 0 ≤ a) (h1 : a < 65536) (g0 : 0 ≤ b) (g1 : b < 65536) :
    (0 ≤ ((a.toNat &&& b.toNat : Nat) : Int) ∧ ((a.toNat &&& b.toNat : Nat) : Int) < 65536) ∧ (0 ≤ ((a.toNat ^^^ b.toNat : Nat) : Int) ∧ ((a.toNat ^^^ b.toNat : Nat) : Int) < 65536) ∧
      (((a.toNat &&& b.toNat : Nat) : Int) + ((a.toNat ^^^ b.toNat : Nat) : Int)) % 65536 = ((a.toNat ||| b.toNat : Nat) : Int) := by
  have l1 : (a.toNat &&& b.toNat) < 65536 := Nat.lt_of_le_of_lt Nat.and_le_left (by omega)
  have l2 : (a.toNat ^^^ b.toNat) < 65536 := Nat.xor_lt_two_pow (n := 16) (by omega) (by omega)
  have l3 : (a.toNat ||| b.toNat) < 65536 := Nat.or_lt_two_pow (n := 16) (by omega) (by omega)
  have s := low_sum a.toNat b.toNat 16
  rw [low_all _ l1, low_all _ l2, low_all _ l3] at s
  omega
theorem walk_back (a0 a1 : Int) (w0 : (Lit.int .u16 a0).wf = true) (w1 : (Lit.int .u16 a1).wf = true) (w : World) :
    Calls Try.prog 7 #[.int .u16 a0, .int .u16 a1] w fun e w' => e = .returned (.bool true) ∧ Grown w w' := by
  obtain ⟨h0, h1⟩ := b16 w0
  obtain ⟨g0, g1⟩ := b16 w1
  clear w0 w1
  have c9 := fun w => two_and a0 a1 w h0 h1 g0 g1
  have c10 := fun w => two_or a0 a1 w h0 h1 g0 g1
  have c11 := fun w => two_xor a0 a1 w h0 h1 g0 g1
  have c1 := fun w => two_add a0 a1 w h0 h1 g0 g1
  obtain ⟨x0, z0, hxz⟩ := m_bits a0 a1 h0 h1 g0 g1
  generalize ((a0.toNat &&& a1.toNat : Nat) : Int) = X at *
  generalize ((a0.toNat ||| a1.toNat : Nat) : Int) = Y at *
  generalize ((a0.toNat ^^^ a1.toNat : Nat) : Int) = Z at *
  generalize hs : (a0 + a1) % 65536 = P at *
  have p0 : 0 ≤ P ∧ P < 65536 := by omega
  have hd : (P - a1) % 65536 = a0 := by omega
  have hn : -(-a0 % 65536) % 65536 = a0 := by omega
  have hn0 : 0 ≤ -a0 % 65536 := by omega
  have hb : ((((a0 + 128) % 256 - 128) % 65536 + 128) % 256 - 128) % 65536 = ((a0 + 128) % 256 - 128) % 65536 := by omega
  have C9 := Lib.hid c9
  have C10 := Lib.hid c10
  have C11 := Lib.hid c11
  have C1 := Lib.hid c1
  clear c9 c10 c11 c1 hs
  go_enter Try.func7, Try.ntmps7
  go_wp2_with (first | ((with_reducible refine (C9.out _).mono ?_); rintro e w' ⟨rfl, rfl⟩) | ((with_reducible refine (C10.out _).mono ?_); rintro e w' ⟨rfl, rfl⟩) | ((with_reducible refine (C11.out _).mono ?_); rintro e w' ⟨rfl, rfl⟩) | ((with_reducible refine (C1.out _).mono ?_); rintro e w' ⟨rfl, rfl⟩) | ((with_reducible refine (two_add _ _ _ (by omega) (by omega) (by omega) (by omega)).mono ?_); rintro e w' ⟨rfl, rfl⟩) | ((with_reducible refine (two_sub _ _ _ (by omega) (by omega) (by omega) (by omega)).mono ?_); rintro e w' ⟨rfl, rfl⟩) | ((with_reducible refine (neg_any _ _).mono ?_); rintro e w' ⟨rfl, rfl⟩) | ((with_reducible refine (byte_any _ _).mono ?_); rintro e w' ⟨rfl, rfl⟩) | ((with_reducible refine (lives_any _).mono ?_); rintro e w' ⟨rfl, rfl⟩))
  go_returns
  exact ⟨rfl, Grown.refl _⟩
end Go.Proofs.Ytcondgdbjkcafaa
