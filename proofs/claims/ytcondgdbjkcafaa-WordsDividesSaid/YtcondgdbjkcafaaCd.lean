import Derived.Test.YtcondgdbjkcafaaCc
set_option linter.unusedVariables false
namespace Go.Proofs.Ytcondgdbjkcafaa
open Go.RowKit
theorem reftwo_any (op a b : Int) (w : World) (o0 : 0 ≤ op) (o1 : op < 256) (h0 : 0 ≤ a) (h1 : a < 65536) (g0 : 0 ≤ b) (g1 : b < 65536) :
    TwoQuiet 11 op a b w := by
  have q : ∀ {op : Int}, TwoSaid 11 op a b w → TwoQuiet 11 op a b w := by
    intro op h
    unfold TwoSaid at h
    unfold TwoQuiet
    refine h.mono ?_
    rintro e w' ⟨rfl, rfl⟩
    exact ⟨rfl, 0, rfl⟩
  rcases op_cases op o0 o1 with rfl | rfl | rfl | rfl | rfl | rfl | rfl | rfl | rfl | rfl | rfl | h
  · exact q (reftwo_add a b w h0 h1 g0 g1)
  · exact q (reftwo_sub a b w h0 h1 g0 g1)
  · exact q (reftwo_mul a b w h0 h1 g0 g1)
  · by_cases hb : b = 0
    · exact q (reftwo_div0 a b w h0 h1 g0 g1 hb)
    · exact q (reftwo_div a b w h0 h1 g0 g1 hb)
  · by_cases hb : b = 0
    · exact q (reftwo_rem0 a b w h0 h1 g0 g1 hb)
    · exact q (reftwo_rem a b w h0 h1 g0 g1 hb)
  · exact q (reftwo_shl a b w h0 h1 g0 g1)
  · exact q (reftwo_shr a b w h0 h1 g0 g1)
  · exact q (reftwo_ushr a b w h0 h1 g0 g1)
  · exact reftwo_and a b w h0 h1 g0 g1
  · exact reftwo_or a b w h0 h1 g0 g1
  · exact reftwo_xor a b w h0 h1 g0 g1
  · exact q (reftwo_none op a b w h h0 h1 g0 g1)
theorem two_c (op a b : Int) (w : World) (o0 : 0 ≤ op) (o1 : op < 256) (h0 : 0 ≤ a) (h1 : a < 65536) (g0 : 0 ≤ b) (g1 : b < 65536) :
    Calls Try.prog 10 #[.int .u8 op, .int .u16 a, .int .u16 b] w fun e w' => e = .returned (.tuple #[.int .u16 (tw op a b), .int .u8 (tf op b), .int .i64 (te op)]) ∧ w = w' := two_any op a b w o0 o1 h0 h1 g0 g1
theorem reftwo_c (op a b : Int) (w : World) (o0 : 0 ≤ op) (o1 : op < 256) (h0 : 0 ≤ a) (h1 : a < 65536) (g0 : 0 ≤ b) (g1 : b < 65536) :
    Calls Try.prog 11 #[.int .u8 op, .int .u16 a, .int .u16 b] w fun e w' => e = .returned (.tuple #[.int .u16 (tw op a b), .int .u8 (tf op b), .int .i64 (te op)]) ∧ ∃ n, w' = w.drewN n := reftwo_any op a b w o0 o1 h0 h1 g0 g1
/-! Two, operator by operator, with its answer written out. -/
theorem te_in (op : Int) (h : 1 ≤ op ∧ op ≤ 11) : te op = 0 := if_pos h
theorem two_add (a b : Int) (w : World) (h0 : 0 ≤ a) (h1 : a < 65536) (g0 : 0 ≤ b) (g1 : b < 65536) :
    Calls Try.prog 10 #[.int .u8 1, .int .u16 a, .int .u16 b] w fun e w' => e = .returned (.tuple #[.int .u16 ((a + b) % 65536), .int .u8 0, .int .i64 0]) ∧ w = w' := by
  refine (two_c 1 a b w (by omega) (by omega) h0 h1 g0 g1).mono ?_
  rintro e w' ⟨rfl, rfl⟩
  exact ⟨ret3 (by simp [tw]) (by simp [tf]) rfl, rfl⟩
theorem two_sub (a b : Int) (w : World) (h0 : 0 ≤ a) (h1 : a < 65536) (g0 : 0 ≤ b) (g1 : b < 65536) :
    Calls Try.prog 10 #[.int .u8 2, .int .u16 a, .int .u16 b] w fun e w' => e = .returned (.tuple #[.int .u16 ((a - b) % 65536), .int .u8 0, .int .i64 0]) ∧ w = w' := by
  refine (two_c 2 a b w (by omega) (by omega) h0 h1 g0 g1).mono ?_
  rintro e w' ⟨rfl, rfl⟩
  exact ⟨ret3 (by simp [tw]) (by simp [tf]) rfl, rfl⟩
theorem two_mul (a b : Int) (w : World) (h0 : 0 ≤ a) (h1 : a < 65536) (g0 : 0 ≤ b) (g1 : b < 65536) :
    Calls Try.prog 10 #[.int .u8 3, .int .u16 a, .int .u16 b] w fun e w' => e = .returned (.tuple #[.int .u16 (a * b % 65536), .int .u8 0, .int .i64 0]) ∧ w = w' := by
  refine (two_c 3 a b w (by omega) (by omega) h0 h1 g0 g1).mono ?_
  rintro e w' ⟨rfl, rfl⟩
  exact ⟨ret3 (by simp [tw]) (by simp [tf]) rfl, rfl⟩
theorem two_div (a b : Int) (w : World) (h0 : 0 ≤ a) (h1 : a < 65536) (g0 : 0 ≤ b) (g1 : b < 65536) (hb : ¬ b = 0) :
    Calls Try.prog 10 #[.int .u8 4, .int .u16 a, .int .u16 b] w fun e w' => e = .returned (.tuple #[.int .u16 ((S a).tdiv (S b) % 65536), .int .u8 0, .int .i64 0]) ∧ w = w' := by
  refine (two_c 4 a b w (by omega) (by omega) h0 h1 g0 g1).mono ?_
  rintro e w' ⟨rfl, rfl⟩
  exact ⟨ret3 (by simp [tw, hb]) (by simp [tf, hb]) rfl, rfl⟩
theorem two_rem (a b : Int) (w : World) (h0 : 0 ≤ a) (h1 : a < 65536) (g0 : 0 ≤ b) (g1 : b < 65536) (hb : ¬ b = 0) :
    Calls Try.prog 10 #[.int .u8 5, .int .u16 a, .int .u16 b] w fun e w' => e = .returned (.tuple #[.int .u16 ((S a).tmod (S b) % 65536), .int .u8 0, .int .i64 0]) ∧ w = w' := by
  refine (two_c 5 a b w (by omega) (by omega) h0 h1 g0 g1).mono ?_
  rintro e w' ⟨rfl, rfl⟩
  exact ⟨ret3 (by simp [tw, hb]) (by simp [tf, hb]) rfl, rfl⟩
theorem two_shl (a b : Int) (w : World) (h0 : 0 ≤ a) (h1 : a < 65536) (g0 : 0 ≤ b) (g1 : b < 65536) :
    Calls Try.prog 10 #[.int .u8 6, .int .u16 a, .int .u16 b] w fun e w' => e = .returned (.tuple #[.int .u16 (S a * 2 ^ (b % 32).toNat % 65536), .int .u8 0, .int .i64 0]) ∧ w = w' := by
  refine (two_c 6 a b w (by omega) (by omega) h0 h1 g0 g1).mono ?_
  rintro e w' ⟨rfl, rfl⟩
  exact ⟨ret3 (by simp [tw]) (by simp [tf]) rfl, rfl⟩
theorem two_shr (a b : Int) (w : World) (h0 : 0 ≤ a) (h1 : a < 65536) (g0 : 0 ≤ b) (g1 : b < 65536) :
    Calls Try.prog 10 #[.int .u8 7, .int .u16 a, .int .u16 b] w fun e w' => e = .returned (.tuple #[.int .u16 (S a / 2 ^ (b % 32).toNat % 65536), .int .u8 0, .int .i64 0]) ∧ w = w' := by
  refine (two_c 7 a b w (by omega) (by omega) h0 h1 g0 g1).mono ?_
  rintro e w' ⟨rfl, rfl⟩
  exact ⟨ret3 (by simp [tw]) (by simp [tf]) rfl, rfl⟩
theorem two_ushr (a b : Int) (w : World) (h0 : 0 ≤ a) (h1 : a < 65536) (g0 : 0 ≤ b) (g1 : b < 65536) :
    Calls Try.prog 10 #[.int .u8 8, .int .u16 a, .int .u16 b] w fun e w' => e = .returned (.tuple #[.int .u16 (S a % 4294967296 / 2 ^ (b % 32).toNat % 65536), .int .u8 0, .int .i64 0]) ∧ w = w' := by
  refine (two_c 8 a b w (by omega) (by omega) h0 h1 g0 g1).mono ?_
  rintro e w' ⟨rfl, rfl⟩
  exact ⟨ret3 (by simp [tw]) (by simp [tf]) rfl, rfl⟩
theorem two_and (a b : Int) (w : World) (h0 : 0 ≤ a) (h1 : a < 65536) (g0 : 0 ≤ b) (g1 : b < 65536) :
    Calls Try.prog 10 #[.int .u8 9, .int .u16 a, .int .u16 b] w fun e w' => e = .returned (.tuple #[.int .u16 (((a.toNat &&& b.toNat : Nat) : Int)), .int .u8 0, .int .i64 0]) ∧ w = w' := by
  refine (two_c 9 a b w (by omega) (by omega) h0 h1 g0 g1).mono ?_
  rintro e w' ⟨rfl, rfl⟩
  exact ⟨ret3 (by simp [tw]) (by simp [tf]) rfl, rfl⟩
theorem two_or (a b : Int) (w : World) (h0 : 0 ≤ a) (h1 : a < 65536) (g0 : 0 ≤ b) (g1 : b < 65536) :
    Calls Try.prog 10 #[.int .u8 10, .int .u16 a, .int .u16 b] w fun e w' => e = .returned (.tuple #[.int .u16 (((a.toNat ||| b.toNat : Nat) : Int)), .int .u8 0, .int .i64 0]) ∧ w = w' := by
  refine (two_c 10 a b w (by omega) (by omega) h0 h1 g0 g1).mono ?_
  rintro e w' ⟨rfl, rfl⟩
  exact ⟨ret3 (by simp [tw]) (by simp [tf]) rfl, rfl⟩
theorem two_xor (a b : Int) (w : World) (h0 : 0 ≤ a) (h1 : a < 65536) (g0 : 0 ≤ b) (g1 : b < 65536) :
    Calls Try.prog 10 #[.int .u8 11, .int .u16 a, .int .u16 b] w fun e w' => e = .returned (.tuple #[.int .u16 (((a.toNat ^^^ b.toNat : Nat) : Int)), .int .u8 0, .int .i64 0]) ∧ w = w' := by
  refine (two_c 11 a b w (by omega) (by omega) h0 h1 g0 g1).mono ?_
  rintro e w' ⟨rfl, rfl⟩
  exact ⟨ret3 (by simp [tw]) (by simp [tf]) rfl, rfl⟩
theorem lives_any (w : World) : Calls Try.prog 12 #[] w fun e w' => e = .returned (.bool true) ∧ w = w' := by
  have a1 : tw 4 32768 65535 = 32768 := by decide
  have a2 : tf 4 65535 = 0 := by decide
  have a3 : te 4 = 0 := by decide
  have b1 : tw 6 1 16 = 0 := by decide
  have b2 : tf 6 16 = 0 := by decide
  have b3 : te 6 = 0 := by decide
  have c2 : tf 4 0 = 1 := by decide
  have d3 : te 12 = 2 := by decide
  go_enter Try.func12, Try.ntmps12
  go_wp2_with (go_call (two_c _ _ _ _) as e w' ⟨rfl, rfl⟩)
  go_returns
  exact ⟨rfl, rfl⟩
end Go.Proofs.Ytcondgdbjkcafaa
