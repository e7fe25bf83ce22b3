import Derived.Test.YtkdnnoioejfpgaaKa
import Derived.Test.YtkdnnoioejfpgaaDl
set_option linter.unusedVariables false
set_option maxRecDepth 100000
namespace Go.Proofs.Ytkdnnoioejfpgaa
open Go.RowKit
/-! An entry's number, and the entry of a number. -/
def encE (z : En) : List Int :=
  if z.k = 5 ∨ z.k = 6 then (if z.o = true then [z.k, 0, z.n / 256, z.n % 256] else [z.k, 128 + z.i, z.x, z.t]) else [z.k, z.c / 256, z.c % 256, z.t]
theorem encE_len (z : En) : (encE z).length = 4 := by
  unfold encE
  split
  · split <;> rfl
  · rfl
theorem num4 (a b c d : Int) : num [a, b, c, d] = a * 16777216 + (b * 65536 + (c * 256 + d)) := by simp [num]; omega
theorem or_at (s : Nat) (m y : Int) (hm : 0 ≤ m) (hy : 0 ≤ y) (h1 : y < ((2 ^ s : Nat) : Int)) (h2 : m * ((2 ^ s : Nat) : Int) + y < 4294967296) : bits .or .u32 (m * ((2 ^ s : Nat) : Int)) y = m * ((2 ^ s : Nat) : Int) + y := by
  obtain ⟨m, rfl⟩ := Int.eq_ofNat_of_zero_le hm
  obtain ⟨y, rfl⟩ := Int.eq_ofNat_of_zero_le hy
  have e : ((m : Int) * ((2 ^ s : Nat) : Int)) = ((2 ^ s * m : Nat) : Int) := by rw [Int.natCast_mul, Int.mul_comm]
  rw [e] at h2 ⊢
  have e2 : ((2 ^ s * m : Nat) : Int) + (y : Int) = ((2 ^ s * m + y : Nat) : Int) := by omega
  rw [u32_or_nat _ _ (by omega) (by omega), ← Nat.two_pow_add_eq_or_of_lt (by omega), e2]
theorem or24 (m y : Int) (hm : 0 ≤ m) (hy : 0 ≤ y) (h1 : y < 16777216) (h2 : m * 16777216 + y < 4294967296) : bits .or .u32 (m * 16777216) y = m * 16777216 + y := or_at 24 m y hm hy h1 h2
theorem or16 (m y : Int) (hm : 0 ≤ m) (hy : 0 ≤ y) (h1 : y < 65536) (h2 : m * 65536 + y < 4294967296) : bits .or .u32 (m * 65536) y = m * 65536 + y := or_at 16 m y hm hy h1 h2
theorem or8 (m y : Int) (hm : 0 ≤ m) (hy : 0 ≤ y) (h1 : y < 256) (h2 : m * 256 + y < 4294967296) : bits .or .u32 (m * 256) y = m * 256 + y := or_at 8 m y hm hy h1 h2
theorem nsum1 (k c t : Int) (k0 : 0 ≤ k) (k1 : k < 256) (c0 : 0 ≤ c) (c1 : c < 65536) (t0 : 0 ≤ t) (t1 : t < 256) :
    bits .or .u32 (bits .or .u32 (k * 16777216) (c * 256)) t = k * 16777216 + (c / 256 * 65536 + (c % 256 * 256 + t)) := by
  rw [or24 k (c * 256) k0 (by omega) (by omega) (by omega), show k * 16777216 + c * 256 = (k * 65536 + c) * 256 by omega, or8 _ t (by omega) t0 t1 (by omega)]
  omega
theorem nsum2 (k K n : Int) (hK : K = k * 16777216) (k0 : 0 ≤ k) (k1 : k < 256) (n0 : 0 ≤ n) (n1 : n < 65536) :
    bits .or .u32 K n = k * 16777216 + (0 * 65536 + (n / 256 * 256 + n % 256)) := by
  rw [hK, or24 k n k0 (by omega) (by omega) (by omega)]
  omega
theorem nsum3 (k K i x t : Int) (hK : K = k * 16777216) (k0 : 0 ≤ k) (k1 : k < 256) (i0 : 0 ≤ i) (i1 : i < 128) (x0 : 0 ≤ x) (x1 : x < 256) (t0 : 0 ≤ t) (t1 : t < 256) :
    bits .or .u32 (bits .or .u32 (bits .or .u32 K ((128 + i) * 65536)) (x * 256)) t = k * 16777216 + ((128 + i) * 65536 + (x * 256 + t)) := by
  rw [hK, or24 k ((128 + i) * 65536) k0 (by omega) (by omega) (by omega), show k * 16777216 + (128 + i) * 65536 = (k * 256 + (128 + i)) * 65536 by omega, or16 _ (x * 256) (by omega) (by omega) (by omega) (by omega),
    show (k * 256 + (128 + i)) * 65536 + x * 256 = ((k * 256 + (128 + i)) * 256 + x) * 256 by omega, or8 _ t (by omega) t0 t1 (by omega)]
  omega
theorem mayE_kinds (z : En) (h : mayE z = true) : (1 ≤ z.k ∧ z.k ≤ 4) ∨ ((z.k = 5 ∨ z.k = 6) ∧ (z.o = true ∨ (z.o = false ∧ z.i < 128))) := by
  rcases kinds7 z.k with h1 | h1 | h1 | h1 | h1 | h1 | h1
  · exact .inl (by omega)
  · exact .inl (by omega)
  · exact .inl (by omega)
  · exact .inl (by omega)
  · refine .inr ⟨.inl h1, ?_⟩
    cases ho : z.o
    · right; unfold mayE at h; simp [h1, ho] at h; exact ⟨rfl, h.1⟩
    · exact .inl rfl
  · refine .inr ⟨.inr h1, ?_⟩
    cases ho : z.o
    · right; unfold mayE at h; simp [h1, ho] at h; exact ⟨rfl, h.1⟩
    · exact .inl rfl
  · rw [mayE_no z h1] at h; cases h
theorem number7_any (z : En) (w : World) (hz : enB z) (hm : mayE z = true) : Calls Try.prog 25 #[z.val] w fun e w' => e = .returned (.int .u32 (num (encE z))) ∧ Below w.heap.size w w' := by
  have HT := Lib.hid (fun w => tells_any z.k w hz.1.1)
  have hk := mayE_kinds z hm
  clear hm
  unfold encE
  obtain ⟨k, c, t, o, n, i, x⟩ := z
  obtain ⟨⟨k0, k1⟩, ⟨c0, c1⟩, ⟨t0, t1⟩, ⟨n0, n1⟩, ⟨i0, i1⟩, ⟨x0, x1⟩⟩ := hz
  unfold En.val
  simp only at HT hk k0 k1 c0 c1 t0 t1 n0 n1 i0 i1 x0 x1 ⊢
  rcases hk with hk | ⟨hk, rfl | ⟨rfl, hi⟩⟩
  · rw [decide_eq_false (show ¬ k = 5 by omega), decide_eq_false (show ¬ k = 6 by omega)] at HT
    rw [if_neg (by omega), num4]
    have HE := Lib.hid (nsum1 k c t k0 k1 c0 c1 t0 t1)
    clear hk
    go_enter Try.func25, Try.ntmps25
    go_wp2_with fail
    refine (HT.out _).mono ?_
    rintro e w1 ⟨rfl, rfl⟩
    go_wp2_with fail
    go_returns
    exact ⟨ret_int HE.out, (Below.refl _ _).alloc (Nat.le_refl _) _⟩
  · rw [if_pos hk, if_pos rfl, num4]
    have HE := Lib.hid (fun K (hK : K = k * 16777216) => nsum2 k K n hK k0 k1 n0 n1)
    rcases hk with rfl | rfl
    all_goals
      go_enter Try.func25, Try.ntmps25
      go_wp2_with fail
      refine (HT.out _).mono ?_
      rintro e w1 ⟨rfl, rfl⟩
      go_wp2_with fail
      go_returns
      exact ⟨ret_int (HE.out _ rfl), (Below.refl _ _).alloc (Nat.le_refl _) _⟩
  · rw [if_pos hk, if_neg (by decide), num4]
    have HE := Lib.hid (fun K (hK : K = k * 16777216) => nsum3 k K i x t hK k0 k1 i0 hi x0 x1 t0 t1)
    rcases hk with rfl | rfl
    all_goals
      go_enter Try.func25, Try.ntmps25
      go_wp2_with fail
      refine (HT.out _).mono ?_
      rintro e w1 ⟨rfl, rfl⟩
      go_wp2_with fail
      go_returns
      exact ⟨ret_int (HE.out _ rfl), (Below.refl _ _).alloc (Nat.le_refl _) _⟩
/-- The entry that four bytes tell; of bytes that are none, one that may not be. -/
def entC (a b c d : Int) : En :=
  if a = 5 ∨ a = 6 then (if b = 0 then ⟨a, 0, 0, true, 256 * c + d, 0, 0⟩ else ⟨a, 0, d, false, 0, (b - 128) % 256, c⟩) else ⟨a, 256 * b + c, d, false, 0, 0, 0⟩
theorem entC_ok (a b c d : Int) (ha : 0 ≤ a ∧ a < 256) (hb : 0 ≤ b ∧ b < 256) (hc : 0 ≤ c ∧ c < 256) (hd : 0 ≤ d ∧ d < 256) : enB (entC a b c d) := by
  unfold entC
  by_cases h5 : a = 5 ∨ a = 6
  · rw [if_pos h5]
    by_cases h0 : b = 0
    · rw [if_pos h0]; unfold enB; simp only; omega
    · rw [if_neg h0]; unfold enB; simp only; omega
  · rw [if_neg h5]; unfold enB; simp only; omega
theorem parts4 (a b c d : Int) (ha : 0 ≤ a ∧ a < 256) (hb : 0 ≤ b ∧ b < 256) (hc : 0 ≤ c ∧ c < 256) (hd : 0 ≤ d ∧ d < 256) :
    num [a, b, c, d] / 16777216 % 256 = a ∧ IntKind.u16.wrap (num [a, b, c, d] / 256) = 256 * b + c ∧ num [a, b, c, d] % 256 = d ∧ num [a, b, c, d] / 65536 % 256 = b ∧ IntKind.u16.wrap (num [a, b, c, d]) = 256 * c + d ∧ num [a, b, c, d] / 256 % 256 = c := by
  have hw16 : ∀ z : Int, IntKind.u16.wrap z = z % 65536 := fun z => by simp [IntKind.wrap, IntKind.bits, IntKind.signed]
  rw [hw16, hw16, num4]
  omega
def EndB (B : Nat) (w w' : World) : Prop := Below B w w'
set_option maxHeartbeats 2000000 in
theorem entry_any (a b c d : Int) (w : World) (ha : 0 ≤ a ∧ a < 256) (hb : 0 ≤ b ∧ b < 256) (hc : 0 ≤ c ∧ c < 256) (hd : 0 ≤ d ∧ d < 256) :
    Calls Try.prog 28 #[.int .u32 (num [a, b, c, d])] w fun e w' => e = .returned (entC a b c d).val ∧ Below w.heap.size w w' := by
  have HT := Lib.hid (fun w => tells_any a w ha.1)
  obtain ⟨e1, e2, e3, e4, e5, e6⟩ := parts4 a b c d ha hb hc hd
  generalize num [a, b, c, d] = N at e1 e2 e3 e4 e5 e6 ⊢
  have HBB := Lib.hid (fun (o o' : Obj) => (((Below.refl w.heap.size w).alloc (Nat.le_refl _) o).alloc (by simp) o'))
  unfold entC En.val
  by_cases h5 : a = 5 ∨ a = 6
  · rw [if_pos h5]
    rw [show (decide (a = 5) || decide (a = 6)) = true by rcases h5 with rfl | rfl <;> rfl] at HT
    by_cases h0 : b = 0
    · rw [if_pos h0]
      subst h0
      clear h5 ha hb hc hd
      go_enter Try.func28, Try.ntmps28
      go_wp2_with fail
      refine (HT.out _).mono ?_
      rintro e w1 ⟨rfl, rfl⟩
      go_wp2_with fail
      exact bodyPost_ret (v := .agg #[.int .u8 a, .int .u16 0, .int .u8 0, .bool true, .int .u16 (256 * c + d), .int .u8 0, .int .u8 0]) (by simp [results, Try.results28, go_sem]) rfl ⟨rfl, HBB.out _ _⟩
    · rw [if_neg h0]
      have hb0 : (b == 0) = false := by simpa using h0
      clear h5 ha hb hc hd
      go_enter Try.func28, Try.ntmps28
      go_wp2_with fail
      refine (HT.out _).mono ?_
      rintro e w1 ⟨rfl, rfl⟩
      go_wp2_with fail
      exact bodyPost_ret (v := .agg #[.int .u8 a, .int .u16 0, .int .u8 d, .bool false, .int .u16 0, .int .u8 ((b - 128) % 256), .int .u8 c]) (by simp [results, Try.results28, go_sem]) rfl ⟨rfl, HBB.out _ _⟩
  · rw [if_neg h5]
    rw [show (decide (a = 5) || decide (a = 6)) = false by rw [decide_eq_false (by omega), decide_eq_false (by omega)]; rfl] at HT
    clear h5 ha hb hc hd
    go_enter Try.func28, Try.ntmps28
    go_wp2_with fail
    refine (HT.out _).mono ?_
    rintro e w1 ⟨rfl, rfl⟩
    go_wp2_with fail
    exact bodyPost_ret (v := .agg #[.int .u8 a, .int .u16 (256 * b + c), .int .u8 d, .bool false, .int .u16 0, .int .u8 0, .int .u8 0]) (by simp [results, Try.results28, go_sem]) rfl ⟨rfl, HBB.out _ _⟩
/-- Which bytes tell an entry that may be. -/
theorem mayE_ent (a b c d : Int) (ha : 0 ≤ a ∧ a < 256) (hb : 0 ≤ b ∧ b < 256) (hc : 0 ≤ c ∧ c < 256) (hd : 0 ≤ d ∧ d < 256) :
    mayE (entC a b c d) = true ↔ (a = 1 ∧ d = 0) ∨ (2 ≤ a ∧ a ≤ 4) ∨ ((a = 5 ∨ a = 6) ∧ (b = 0 ∨ 128 ≤ b)) := by
  rcases kinds7 a with rfl | rfl | rfl | rfl | rfl | rfl | h
  · simp [entC, mayE]
  · simp [entC, mayE]
  · simp [entC, mayE]
  · simp [entC, mayE]
  · by_cases h0 : b = 0
    · simp [entC, mayE, h0]
    · simp [entC, mayE, h0]; omega
  · by_cases h0 : b = 0
    · simp [entC, mayE, h0]
    · simp [entC, mayE, h0]; omega
  · rw [mayE_no _ (by simp only [entC]; rw [if_neg (by omega)]; exact h)]
    constructor
    · intro h; cases h
    · intro h; omega
end Go.Proofs.Ytkdnnoioejfpgaa
