import Derived.Test.YtcondgdbjkcafaaRows
import Derived.WalkKit
import Derived.ProofKit
import Derived.OpenShut
import Derived.LoopTactic
import Derived.RegionTactic
import Derived.Handy
import Derived.Lib.Hide
import Derived.Deep.QuietTactic
import Derived.BigQuiet
import Derived.BigGuard
import Derived.Outline
set_option linter.unusedVariables false
namespace Go.Proofs.Ytcondgdbjkcafaa
open Go.RowKit
def S (a : Int) : Int := if a < 32768 then a else a - 65536
theorem wi16 (x : Int) : IntKind.i16.wrap x = (x + 32768) % 65536 - 32768 := by
  simp [IntKind.wrap, IntKind.bits, IntKind.signed]
  split <;> omega
theorem wi8 (x : Int) : IntKind.i8.wrap x = (x + 128) % 256 - 128 := by
  simp [IntKind.wrap, IntKind.bits, IntKind.signed]
  split <;> omega
theorem wu16 (x : Int) : IntKind.u16.wrap x = x % 65536 := IntKind.wrap_u16 x
theorem wu32 (x : Int) : IntKind.u32.wrap x = x % 4294967296 := IntKind.wrap_u32 x
theorem ret_int {k : IntKind} {a b : Int} (h : a = b) : Ending.returned (.int k a) = .returned (.int k b) := by rw [h]
theorem s_bd (a : Int) (h0 : 0 ≤ a) (h1 : a < 65536) : -32768 ≤ S a ∧ S a ≤ 32767 := by unfold S; split <;> omega
theorem tmod_emod (n : Int) : (n.tmod 65536 + 65536) % 65536 = n % 65536 := by
  have := Int.tmod_def n 65536
  omega
theorem tmod_bd (n : Int) : -65535 ≤ n.tmod 65536 ∧ n.tmod 65536 ≤ 65535 := by
  by_cases h : 0 ≤ n
  · rw [Int.tmod_eq_emod_of_nonneg h]; omega
  · have : n.tmod 65536 = -((-n).tmod 65536) := by rw [Int.neg_tmod]; simp
    rw [this, Int.tmod_eq_emod_of_nonneg (by omega)]; omega
theorem wide_any (a : Int) (w : World) (h0 : 0 ≤ a) (h1 : a < 65536) :
    Calls Try.prog 25 #[.int .u16 a] w fun e w' => e = .returned (.int .i32 (S a)) ∧ w = w' := by
  go_enter Try.func25, Try.ntmps25
  go_wp2
  go_ret
  exact ⟨ret_int (by rw [wi16]; unfold wrap32 S; split <;> omega), rfl⟩
theorem worth_any (a : Int) (w : World) (h0 : 0 ≤ a) (h1 : a < 65536) :
    Calls Try.prog 13 #[.int .u16 a] w fun e w' => e = .returned (.int .i64 (S a)) ∧ w = w' := by
  go_enter Try.func13, Try.ntmps13
  go_wp2
  go_ret
  exact ⟨ret_int (by rw [wi16]; unfold wrap64 S; split <;> omega), rfl⟩
theorem neg_any (a : Int) (w : World) :
    Calls Try.prog 15 #[.int .u16 a] w fun e w' => e = .returned (.int .u16 (-a % 65536)) ∧ w = w' := by
  go_enter Try.func15, Try.ntmps15
  go_wp2
  go_ret
  exact ⟨ret_int (by rw [wi16, wi16, wu16]; omega), rfl⟩
theorem word_any (n : Int) (w : World) (h0 : -4611686018427387904 ≤ n) (h1 : n ≤ 4611686018427387904) :
    Calls Try.prog 16 #[.int .i64 n] w fun e w' => e = .returned (.int .u16 (n % 65536)) ∧ w = w' := by
  have hb := tmod_bd n
  have hm := tmod_emod n
  have HM := Lib.hid hm
  clear hm
  go_enter Try.func16, Try.ntmps16
  go_wp2
  go_ret
  refine ⟨ret_int ?_, rfl⟩
  have hm := HM.out
  omega
theorem refworth_any (a : Int) (w : World) (h0 : 0 ≤ a) (h1 : a < 65536) :
    Calls Try.prog 14 #[.int .u16 a] w fun e w' => e = .returned (.int .i64 (S a)) ∧ w = w' := by
  go_enter Try.func14, Try.ntmps14
  go_wp2
  all_goals
    go_ret
    exact ⟨ret_int (by unfold S; split <;> omega), rfl⟩
theorem ofbyte_any (a : Int) (w : World) :
    Calls Try.prog 19 #[.int .u8 a] w fun e w' => e = .returned (.int .u16 (((a + 128) % 256 - 128) % 65536)) ∧ w = w' := by
  go_enter Try.func19, Try.ntmps19
  go_wp2
  go_ret
  exact ⟨ret_int (by rw [wi8, wu16]), rfl⟩
theorem byte_any (a : Int) (w : World) :
    Calls Try.prog 17 #[.int .u16 a] w fun e w' => e = .returned (.int .u16 (((a + 128) % 256 - 128) % 65536)) ∧ w = w' := by
  go_enter Try.func17, Try.ntmps17
  go_wp2_with (go_call (ofbyte_any _ _) as e w' ⟨rfl, rfl⟩)
  go_ret
  exact ⟨ret_int rfl, rfl⟩
theorem refofbyte_any (a : Int) (w : World) (h0 : 0 ≤ a) (h1 : a < 256) :
    Calls Try.prog 18 #[.int .u8 a] w fun e w' => e = .returned (.int .u16 (((a + 128) % 256 - 128) % 65536)) ∧ w = w' := by
  by_cases h : a < 128
  · have h' : ¬ 128 ≤ a := by omega
    go_enter Try.func18, Try.ntmps18
    go_wp2
    go_ret
    exact ⟨ret_int (by omega), rfl⟩
  · have h' : 128 ≤ a := by omega
    go_enter Try.func18, Try.ntmps18
    go_wp2_with (go_call (word_any _ _) as e w' ⟨rfl, rfl⟩)
    go_ret
    exact ⟨ret_int (by omega), rfl⟩
theorem divide_div (a b : Int) (w : World) (h0 : 0 ≤ a) (h1 : a < 65536) (g0 : 1 ≤ b) (g1 : b < 65536) :
    Calls Try.prog 23 #[.int .u8 4, .int .u16 a, .int .u16 b] w fun e w' => e = .returned (.int .u16 ((S a).tdiv (S b) % 65536)) ∧ w = w' := by
  have ha := s_bd a h0 h1
  have hb := s_bd b (by omega) g1
  have hz : ¬ S b = 0 := by unfold S; split <;> omega
  go_enter Try.func23, Try.ntmps23
  go_wp2_with (go_call (wide_any _ _) as e w' ⟨rfl, rfl⟩)
  go_returns
  refine ⟨ret_int ?_, rfl⟩
  rw [wu16]
  try unfold wrap32
  omega
theorem divide_rem (a b : Int) (w : World) (h0 : 0 ≤ a) (h1 : a < 65536) (g0 : 1 ≤ b) (g1 : b < 65536) :
    Calls Try.prog 23 #[.int .u8 5, .int .u16 a, .int .u16 b] w fun e w' => e = .returned (.int .u16 ((S a).tmod (S b) % 65536)) ∧ w = w' := by
  have ha := s_bd a h0 h1
  have hb := s_bd b (by omega) g1
  have hz : ¬ S b = 0 := by unfold S; split <;> omega
  go_enter Try.func23, Try.ntmps23
  go_wp2_with (go_call (wide_any _ _) as e w' ⟨rfl, rfl⟩)
  go_returns
  refine ⟨ret_int ?_, rfl⟩
  rw [wu16]
theorem and31 (b : Int) (g0 : 0 ≤ b) (g1 : b < 65536) : bits .and .u16 b 31 = b % 32 := bits_mask .u16 16 (by decide) (fun n a c => by rw [wu16]; omega) 5 (by decide) b g0 (by omega)
theorem move_shl (a b : Int) (w : World) (h0 : 0 ≤ a) (h1 : a < 65536) (g0 : 0 ≤ b) (g1 : b < 65536) :
    Calls Try.prog 24 #[.int .u8 6, .int .u16 a, .int .u16 b] w fun e w' => e = .returned (.int .u16 (S a * 2 ^ (b % 32).toNat % 65536)) ∧ w = w' := by
  have ha := s_bd a h0 h1
  have hk := and31 b g0 g1
  have hk1 : 0 ≤ b % 32 := by omega
  have hk2 : b % 32 ≤ 31 := by omega
  go_enter Try.func24, Try.ntmps24
  go_wp2_with (go_call (wide_any _ _) as e w' ⟨rfl, rfl⟩)
  go_returns
  exact ⟨ret_int (by rw [wu16]; unfold wrap32; omega), rfl⟩
theorem move_shr (a b : Int) (w : World) (h0 : 0 ≤ a) (h1 : a < 65536) (g0 : 0 ≤ b) (g1 : b < 65536) :
    Calls Try.prog 24 #[.int .u8 7, .int .u16 a, .int .u16 b] w fun e w' => e = .returned (.int .u16 (S a / 2 ^ (b % 32).toNat % 65536)) ∧ w = w' := by
  have ha := s_bd a h0 h1
  have hk := and31 b g0 g1
  have hk1 : 0 ≤ b % 32 := by omega
  have hk2 : b % 32 ≤ 31 := by omega
  go_enter Try.func24, Try.ntmps24
  go_wp2_with (go_call (wide_any _ _) as e w' ⟨rfl, rfl⟩)
  go_returns
  exact ⟨ret_int (by rw [wu16]), rfl⟩
theorem move_ushr (a b : Int) (w : World) (h0 : 0 ≤ a) (h1 : a < 65536) (g0 : 0 ≤ b) (g1 : b < 65536) :
    Calls Try.prog 24 #[.int .u8 8, .int .u16 a, .int .u16 b] w fun e w' => e = .returned (.int .u16 (S a % 4294967296 / 2 ^ (b % 32).toNat % 65536)) ∧ w = w' := by
  have ha := s_bd a h0 h1
  have hk := and31 b g0 g1
  have hk1 : 0 ≤ b % 32 := by omega
  have hk2 : b % 32 ≤ 31 := by omega
  go_enter Try.func24, Try.ntmps24
  go_wp2_with (go_call (wide_any _ _) as e w' ⟨rfl, rfl⟩)
  go_returns
  exact ⟨ret_int (by rw [wu16]), rfl⟩
/-! The answers of Two: the word, the fault, the error. -/
def tw (op a b : Int) : Int :=
  if op = 1 then (a + b) % 65536 else if op = 2 then (a - b) % 65536 else if op = 3 then a * b % 65536
  else if op = 4 then (if b = 0 then 0 else (S a).tdiv (S b) % 65536) else if op = 5 then (if b = 0 then 0 else (S a).tmod (S b) % 65536)
  else if op = 6 then S a * 2 ^ (b % 32).toNat % 65536 else if op = 7 then S a / 2 ^ (b % 32).toNat % 65536
  else if op = 8 then S a % 4294967296 / 2 ^ (b % 32).toNat % 65536
  else if op = 9 then ((a.toNat &&& b.toNat : Nat) : Int) else if op = 10 then ((a.toNat ||| b.toNat : Nat) : Int) else if op = 11 then ((a.toNat ^^^ b.toNat : Nat) : Int)
  else 0
def tf (op b : Int) : Int := if (op = 4 ∨ op = 5) ∧ b = 0 then 1 else 0
def te (op : Int) : Int := if 1 ≤ op ∧ op ≤ 11 then 0 else 2
def TwoSaid (f : Nat) (op a b : Int) (w : World) : Prop :=
  Calls Try.prog f #[.int .u8 op, .int .u16 a, .int .u16 b] w fun e w' => e = .returned (.tuple #[.int .u16 (tw op a b), .int .u8 (tf op b), .int .i64 (te op)]) ∧ w = w'
theorem ret3 {x y z x' y' z' : Int} (h : x = x') (h2 : y = y') (h3 : z = z') : Ending.returned (.tuple #[.int .u16 x, .int .u8 y, .int .i64 z]) = .returned (.tuple #[.int .u16 x', .int .u8 y', .int .i64 z']) := by rw [h, h2, h3]
theorem op_cases (op : Int) (o0 : 0 ≤ op) (o1 : op < 256) : op = 1 ∨ op = 2 ∨ op = 3 ∨ op = 4 ∨ op = 5 ∨ op = 6 ∨ op = 7 ∨ op = 8 ∨ op = 9 ∨ op = 10 ∨ op = 11 ∨ (op = 0 ∨ 12 ≤ op) := by omega
theorem s_mod (a : Int) (h0 : 0 ≤ a) (h1 : a < 65536) : S a % 65536 = a := by unfold S; split <;> omega
theorem s_z (b : Int) (h0 : 0 ≤ b) (h1 : b < 65536) : S b = 0 ↔ b = 0 := by unfold S; split <;> omega
set_option maxHeartbeats 1000000 in
theorem two_any (op a b : Int) (w : World) (o0 : 0 ≤ op) (o1 : op < 256) (h0 : 0 ≤ a) (h1 : a < 65536) (g0 : 0 ≤ b) (g1 : b < 65536) :
    TwoSaid 10 op a b w := by
  unfold TwoSaid
  rcases op_cases op o0 o1 with rfl | rfl | rfl | rfl | rfl | rfl | rfl | rfl | rfl | rfl | rfl | h
  · go_enter Try.func10, Try.ntmps10
    go_wp2
    go_returns
    exact ⟨ret3 (by rw [wu16]; rfl) rfl rfl, rfl⟩
  · go_enter Try.func10, Try.ntmps10
    go_wp2_with (go_call (neg_any _ _) as e w' ⟨rfl, rfl⟩)
    go_returns
    exact ⟨ret3 (by rw [wu16]; unfold tw; simp; omega) rfl rfl, rfl⟩
  · go_enter Try.func10, Try.ntmps10
    go_wp2
    go_returns
    exact ⟨ret3 (by rw [wu16]; rfl) rfl rfl, rfl⟩
  · by_cases hb : b = 0
    · subst hb
      go_enter Try.func10, Try.ntmps10
      go_wp2
      go_returns
      exact ⟨ret3 rfl rfl rfl, rfl⟩
    · have g2 : 1 ≤ b := by omega
      go_enter Try.func10, Try.ntmps10
      go_wp2_with (go_call (divide_div _ _ _) as e w' ⟨rfl, rfl⟩)
      go_returns
      exact ⟨ret3 (by simp [tw, hb]) (by simp [tf, hb]) rfl, rfl⟩
  · by_cases hb : b = 0
    · subst hb
      go_enter Try.func10, Try.ntmps10
      go_wp2
      go_returns
      exact ⟨ret3 rfl rfl rfl, rfl⟩
    · have g2 : 1 ≤ b := by omega
      go_enter Try.func10, Try.ntmps10
      go_wp2_with (go_call (divide_rem _ _ _) as e w' ⟨rfl, rfl⟩)
      go_returns
      exact ⟨ret3 (by simp [tw, hb]) (by simp [tf, hb]) rfl, rfl⟩
  · go_enter Try.func10, Try.ntmps10
    go_wp2_with (go_call (move_shl _ _ _) as e w' ⟨rfl, rfl⟩)
    go_returns
    exact ⟨ret3 rfl rfl rfl, rfl⟩
  · go_enter Try.func10, Try.ntmps10
    go_wp2_with (go_call (move_shr _ _ _) as e w' ⟨rfl, rfl⟩)
    go_returns
    exact ⟨ret3 rfl rfl rfl, rfl⟩
  · go_enter Try.func10, Try.ntmps10
    go_wp2_with (go_call (move_ushr _ _ _) as e w' ⟨rfl, rfl⟩)
    go_returns
    exact ⟨ret3 rfl rfl rfl, rfl⟩
  · go_enter Try.func10, Try.ntmps10
    go_wp2
    go_returns
    exact ⟨ret3 (u16_and a b h0 h1 g0 g1) rfl rfl, rfl⟩
  · go_enter Try.func10, Try.ntmps10
    go_wp2
    go_returns
    exact ⟨ret3 (u16_or a b h0 h1 g0 g1) rfl rfl, rfl⟩
  · go_enter Try.func10, Try.ntmps10
    go_wp2
    go_returns
    exact ⟨ret3 (u16_xor a b h0 h1 g0 g1) rfl rfl, rfl⟩
  · have q1 : (op == 1) = false := by simp; omega
    have q2 : (op == 2) = false := by simp; omega
    have q3 : (op == 3) = false := by simp; omega
    have q4 : (op == 4) = false := by simp; omega
    have q5 : (op == 5) = false := by simp; omega
    have q6 : (op == 6) = false := by simp; omega
    have q7 : (op == 7) = false := by simp; omega
    have q8 : (op == 8) = false := by simp; omega
    have q9 : (op == 9) = false := by simp; omega
    have q10 : (op == 10) = false := by simp; omega
    have q11 : (op == 11) = false := by simp; omega
    go_enter Try.func10, Try.ntmps10
    go_wp2
    go_returns
    exact ⟨ret3 (by unfold tw; repeat (first | rw [if_neg (by omega)] | rfl)) (by unfold tf; rw [if_neg (by omega)]) (by unfold te; rw [if_neg (by omega)]), rfl⟩
end Go.Proofs.Ytcondgdbjkcafaa
