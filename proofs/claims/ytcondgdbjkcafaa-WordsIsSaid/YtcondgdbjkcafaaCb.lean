import Derived.Test.YtcondgdbjkcafaaCa
set_option linter.unusedVariables false
namespace Go.Proofs.Ytcondgdbjkcafaa
open Go.RowKit
def pw (k : Nat) : Int := 2 ^ k
theorem pw_zero : pw 0 = 1 := rfl
theorem pw_succ (k : Nat) : pw (k + 1) = pw k * 2 := by unfold pw; rw [Int.pow_succ]
theorem pw_pos (k : Nat) : 1 ≤ pw k := by
  induction k with
  | zero => decide
  | succ k ih => rw [pw_succ]; omega
theorem pw_mono (i j : Nat) (h : i ≤ j) : pw i ≤ pw j := by
  induction j with
  | zero => obtain rfl : i = 0 := by omega
            omega
  | succ j ih =>
    by_cases e : i = j + 1
    · subst e; omega
    · have := ih (by omega); have := pw_pos j; rw [pw_succ]; omega
theorem pw_le (k : Nat) (h : k ≤ 31) : pw k ≤ 2147483648 := pw_mono k 31 h
theorem pw_le16 (k : Nat) (h : k ≤ 16) : pw k ≤ 65536 := pw_mono k 16 h

/-- The words' loop, by which the document's answer finds its power. -/
theorem rem32 (b : Int) (g0 : 0 ≤ b) : ((b % 32).toNat : Int) = b % 32 := by omega
set_option maxHeartbeats 1000000 in
theorem m_mul (a b : Int) (h0 : 0 ≤ a) (h1 : a < 65536) (g0 : 0 ≤ b) (g1 : b < 65536) : S a * S b % 65536 = a * b % 65536 := by
  rw [Int.mul_emod, s_mod a h0 h1, s_mod b g0 g1]
theorem m_mulbd (x y : Int) (hx : -32768 ≤ x ∧ x ≤ 32767) (hy : -32768 ≤ y ∧ y ≤ 32767) : -1073741824 ≤ x * y ∧ x * y ≤ 1073741824 := by
  have a1 : 0 ≤ (x + 32768) * (y + 32768) := Int.mul_nonneg (by omega) (by omega)
  have a2 : 0 ≤ (32768 - x) * (32768 - y) := Int.mul_nonneg (by omega) (by omega)
  have a3 : 0 ≤ (x + 32768) * (32768 - y) := Int.mul_nonneg (by omega) (by omega)
  have a4 : 0 ≤ (32768 - x) * (y + 32768) := Int.mul_nonneg (by omega) (by omega)
  simp only [Int.add_mul, Int.mul_add, Int.sub_mul, Int.mul_sub] at a1 a2 a3 a4
  constructor <;> omega
theorem m_tdiv (x y : Int) (hx : -32768 ≤ x ∧ x ≤ 32767) (hy : ¬ y = 0) : -32768 ≤ x.tdiv y ∧ x.tdiv y ≤ 32768 := by
  have h := Int.natAbs_tdiv_le_natAbs x y
  omega
theorem m_tmod (x y : Int) : x - x.tdiv y * y = x.tmod y := by
  rw [Int.tmod_def, Int.mul_comm]
theorem m_floor (x p : Int) (hp : 1 ≤ p) (hx : x < 0) : x / p = if x.tdiv p * p = x then x.tdiv p else x.tdiv p - 1 := by
  have e := Int.tmod_def x p
  have hb : x.tmod p ≤ 0 ∧ -p < x.tmod p := by
    have e1 : x.tmod p = -((-x).tmod p) := by rw [Int.neg_tmod]; omega
    rw [e1, Int.tmod_eq_emod_of_nonneg (by omega)]
    have := Int.emod_nonneg (-x) (show p ≠ 0 by omega)
    have := Int.emod_lt_of_pos (-x) (show 0 < p by omega)
    omega
  have c : x.tdiv p * p = p * x.tdiv p := Int.mul_comm _ _
  split
  · rename_i h
    exact ((Int.ediv_emod_unique (a := x) (b := p) (r := 0) (q := x.tdiv p) (by omega)).2 ⟨by omega, by omega, by omega⟩).1
  · rename_i h
    refine ((Int.ediv_emod_unique (a := x) (b := p) (r := x.tmod p + p) (q := x.tdiv p - 1) (by omega)).2 ⟨?_, by omega, by omega⟩).1
    rw [Int.mul_sub]; omega
theorem m_tdivbd (x p : Int) (hp : 1 ≤ p) (hx : x < 0) (h1 : -32768 ≤ x) : -32768 ≤ x.tdiv p ∧ x.tdiv p ≤ 0 ∧ -32768 ≤ x.tdiv p * p ∧ x.tdiv p * p ≤ 0 := by
  have e : x.tdiv p = -((-x).tdiv p) := by rw [Int.neg_tdiv]; omega
  have n : 0 ≤ (-x) / p := Int.ediv_nonneg (by omega) (by omega)
  have l : (-x) / p ≤ -x := Int.ediv_le_self _ (by omega)
  have m := Int.ediv_mul_le (-x) (show p ≠ 0 by omega)
  have k : 0 ≤ (-x) / p * p := Int.mul_nonneg n (by omega)
  rw [e, Int.tdiv_eq_ediv_of_nonneg (by omega), Int.neg_mul]
  omega
theorem m_shl (x p : Int) : x * (p % 65536) % 65536 = x * p % 65536 := by
  rw [Int.mul_emod, Int.emod_emod_of_dvd _ (Int.dvd_refl _), ← Int.mul_emod]
theorem m_shlbd (x p : Int) (hx : -32768 ≤ x ∧ x ≤ 32767) (hp : 1 ≤ p) : -4294967296 ≤ x * (p % 65536) ∧ x * (p % 65536) ≤ 4294967296 := by
  have h0 : 0 ≤ p % 65536 := by omega
  have h1 : p % 65536 < 65536 := by omega
  generalize p % 65536 = y at *
  have a1 : 0 ≤ (x + 32768) * y := Int.mul_nonneg (by omega) (by omega)
  have a2 : 0 ≤ (32768 - x) * y := Int.mul_nonneg (by omega) (by omega)
  simp only [Int.add_mul, Int.sub_mul] at a1 a2
  omega
theorem m_rembd (x y : Int) (hx : -32768 ≤ x ∧ x ≤ 32767) (hy : -32768 ≤ y ∧ y ≤ 32767) (hz : ¬ y = 0) : -65536 ≤ x.tdiv y * y ∧ x.tdiv y * y ≤ 65536 := by
  have e := m_tmod x y
  have h : (x.tmod y).natAbs ≤ x.natAbs := by rw [Int.natAbs_tmod]; exact Nat.mod_le _ _
  omega
theorem m_tmod65536 (x : Int) (hx : -32768 ≤ x ∧ x ≤ 32767) : x.tmod 65536 = x := by
  by_cases h : 0 ≤ x
  · rw [Int.tmod_eq_emod_of_nonneg h]; omega
  · have e : x.tmod 65536 = -((-x).tmod 65536) := by rw [Int.neg_tmod]; omega
    rw [e, Int.tmod_eq_emod_of_nonneg (by omega)]; omega

set_option maxRecDepth 100000 in
theorem reftwo_add (a b : Int) (w : World) (h0 : 0 ≤ a) (h1 : a < 65536) (g0 : 0 ≤ b) (g1 : b < 65536) :
    TwoSaid 11 1 a b w := by
  unfold TwoSaid
  have ha := s_bd a h0 h1
  have hb := s_bd b g0 g1
  obtain ⟨s, hs, hs31⟩ : ∃ s : Nat, b % 32 = s ∧ s ≤ 31 := ⟨(b % 32).toNat, by omega, by omega⟩
  have hts : (b % 32).toNat = s := by omega
  have HT := Lib.hid hts
  clear hts
  go_enter Try.func11, Try.ntmps11
  go_wp2_with (go_call (refworth_any _ _) as e w' ⟨rfl, rfl⟩)
  go_loop [12, 13] (fun p i => ∃ k : Nat, k ≤ s ∧ i = .int .i64 k ∧ p = .int .i64 (pw k)) (fun _ i => s - (intOf i).toNat)
  case atStart => exact ⟨0, Nat.zero_le _, rfl, rfl⟩
  case round =>
    obtain ⟨k, hk, rfl, rfl⟩ := hrel
    have hp1 := pw_pos k
    have hp2 := pw_le k (by omega)
    by_cases hlt : k < s
    · go_wp2
      go_round
      case rel => exact ⟨k + 1, by omega, by go_num, by rw [pw_succ]⟩
      case measure => simp [intOf]; omega
    · obtain rfl : k = s := by omega
      by_cases hneg : S a < 0
      · go_wp2_with (go_call (word_any _ _) as e w' ⟨rfl, rfl⟩)
        go_returns
        exact ⟨ret3 (by show _ = (a + b) % 65536; have := s_mod a h0 h1; have := s_mod b g0 g1; omega) rfl rfl, rfl⟩
      · go_wp2_with (go_call (word_any _ _) as e w' ⟨rfl, rfl⟩)
        go_returns
        exact ⟨ret3 (by show _ = (a + b) % 65536; have := s_mod a h0 h1; have := s_mod b g0 g1; omega) rfl rfl, rfl⟩
set_option maxRecDepth 100000 in
theorem reftwo_sub (a b : Int) (w : World) (h0 : 0 ≤ a) (h1 : a < 65536) (g0 : 0 ≤ b) (g1 : b < 65536) :
    TwoSaid 11 2 a b w := by
  unfold TwoSaid
  have ha := s_bd a h0 h1
  have hb := s_bd b g0 g1
  obtain ⟨s, hs, hs31⟩ : ∃ s : Nat, b % 32 = s ∧ s ≤ 31 := ⟨(b % 32).toNat, by omega, by omega⟩
  have hts : (b % 32).toNat = s := by omega
  have HT := Lib.hid hts
  clear hts
  go_enter Try.func11, Try.ntmps11
  go_wp2_with (go_call (refworth_any _ _) as e w' ⟨rfl, rfl⟩)
  go_loop [12, 13] (fun p i => ∃ k : Nat, k ≤ s ∧ i = .int .i64 k ∧ p = .int .i64 (pw k)) (fun _ i => s - (intOf i).toNat)
  case atStart => exact ⟨0, Nat.zero_le _, rfl, rfl⟩
  case round =>
    obtain ⟨k, hk, rfl, rfl⟩ := hrel
    have hp1 := pw_pos k
    have hp2 := pw_le k (by omega)
    by_cases hlt : k < s
    · go_wp2
      go_round
      case rel => exact ⟨k + 1, by omega, by go_num, by rw [pw_succ]⟩
      case measure => simp [intOf]; omega
    · obtain rfl : k = s := by omega
      by_cases hneg : S a < 0
      · go_wp2_with (go_call (word_any _ _) as e w' ⟨rfl, rfl⟩)
        go_returns
        exact ⟨ret3 (by show _ = (a - b) % 65536; have := s_mod a h0 h1; have := s_mod b g0 g1; omega) rfl rfl, rfl⟩
      · go_wp2_with (go_call (word_any _ _) as e w' ⟨rfl, rfl⟩)
        go_returns
        exact ⟨ret3 (by show _ = (a - b) % 65536; have := s_mod a h0 h1; have := s_mod b g0 g1; omega) rfl rfl, rfl⟩
set_option maxRecDepth 100000 in
theorem reftwo_mul (a b : Int) (w : World) (h0 : 0 ≤ a) (h1 : a < 65536) (g0 : 0 ≤ b) (g1 : b < 65536) :
    TwoSaid 11 3 a b w := by
  unfold TwoSaid
  have ha := s_bd a h0 h1
  have hb := s_bd b g0 g1
  have hm := m_mulbd _ _ ha hb
  obtain ⟨s, hs, hs31⟩ : ∃ s : Nat, b % 32 = s ∧ s ≤ 31 := ⟨(b % 32).toNat, by omega, by omega⟩
  have hts : (b % 32).toNat = s := by omega
  have HT := Lib.hid hts
  clear hts
  go_enter Try.func11, Try.ntmps11
  go_wp2_with (go_call (refworth_any _ _) as e w' ⟨rfl, rfl⟩)
  go_loop [12, 13] (fun p i => ∃ k : Nat, k ≤ s ∧ i = .int .i64 k ∧ p = .int .i64 (pw k)) (fun _ i => s - (intOf i).toNat)
  case atStart => exact ⟨0, Nat.zero_le _, rfl, rfl⟩
  case round =>
    obtain ⟨k, hk, rfl, rfl⟩ := hrel
    have hp1 := pw_pos k
    have hp2 := pw_le k (by omega)
    by_cases hlt : k < s
    · go_wp2
      go_round
      case rel => exact ⟨k + 1, by omega, by go_num, by rw [pw_succ]⟩
      case measure => simp [intOf]; omega
    · obtain rfl : k = s := by omega
      by_cases hneg : S a < 0
      · go_wp2_with (go_call (word_any _ _) as e w' ⟨rfl, rfl⟩)
        go_returns
        exact ⟨ret3 (m_mul a b h0 h1 g0 g1) rfl rfl, rfl⟩
      · go_wp2_with (go_call (word_any _ _) as e w' ⟨rfl, rfl⟩)
        go_returns
        exact ⟨ret3 (m_mul a b h0 h1 g0 g1) rfl rfl, rfl⟩
set_option maxRecDepth 100000 in
theorem reftwo_div0 (a b : Int) (w : World) (h0 : 0 ≤ a) (h1 : a < 65536) (g0 : 0 ≤ b) (g1 : b < 65536) (hb0 : b = 0) :
    TwoSaid 11 4 a b w := by
  unfold TwoSaid
  have ha := s_bd a h0 h1
  have hb := s_bd b g0 g1
  have hz : S b = 0 := (s_z b g0 g1).2 hb0
  obtain ⟨s, hs, hs31⟩ : ∃ s : Nat, b % 32 = s ∧ s ≤ 31 := ⟨(b % 32).toNat, by omega, by omega⟩
  have hts : (b % 32).toNat = s := by omega
  have HT := Lib.hid hts
  clear hts
  go_enter Try.func11, Try.ntmps11
  go_wp2_with (go_call (refworth_any _ _) as e w' ⟨rfl, rfl⟩)
  go_loop [12, 13] (fun p i => ∃ k : Nat, k ≤ s ∧ i = .int .i64 k ∧ p = .int .i64 (pw k)) (fun _ i => s - (intOf i).toNat)
  case atStart => exact ⟨0, Nat.zero_le _, rfl, rfl⟩
  case round =>
    obtain ⟨k, hk, rfl, rfl⟩ := hrel
    have hp1 := pw_pos k
    have hp2 := pw_le k (by omega)
    by_cases hlt : k < s
    · exfalso; omega
    · obtain rfl : k = s := by omega
      by_cases hneg : S a < 0
      · go_wp2
        go_returns
        exact ⟨ret3 (by simp [tw]) (by simp [tf]) rfl, rfl⟩
      · go_wp2
        go_returns
        exact ⟨ret3 (by simp [tw]) (by simp [tf]) rfl, rfl⟩
set_option maxRecDepth 100000 in
theorem reftwo_rem0 (a b : Int) (w : World) (h0 : 0 ≤ a) (h1 : a < 65536) (g0 : 0 ≤ b) (g1 : b < 65536) (hb0 : b = 0) :
    TwoSaid 11 5 a b w := by
  unfold TwoSaid
  have ha := s_bd a h0 h1
  have hb := s_bd b g0 g1
  have hz : S b = 0 := (s_z b g0 g1).2 hb0
  obtain ⟨s, hs, hs31⟩ : ∃ s : Nat, b % 32 = s ∧ s ≤ 31 := ⟨(b % 32).toNat, by omega, by omega⟩
  have hts : (b % 32).toNat = s := by omega
  have HT := Lib.hid hts
  clear hts
  go_enter Try.func11, Try.ntmps11
  go_wp2_with (go_call (refworth_any _ _) as e w' ⟨rfl, rfl⟩)
  go_loop [12, 13] (fun p i => ∃ k : Nat, k ≤ s ∧ i = .int .i64 k ∧ p = .int .i64 (pw k)) (fun _ i => s - (intOf i).toNat)
  case atStart => exact ⟨0, Nat.zero_le _, rfl, rfl⟩
  case round =>
    obtain ⟨k, hk, rfl, rfl⟩ := hrel
    have hp1 := pw_pos k
    have hp2 := pw_le k (by omega)
    by_cases hlt : k < s
    · exfalso; omega
    · obtain rfl : k = s := by omega
      by_cases hneg : S a < 0
      · go_wp2
        go_returns
        exact ⟨ret3 (by simp [tw]) (by simp [tf]) rfl, rfl⟩
      · go_wp2
        go_returns
        exact ⟨ret3 (by simp [tw]) (by simp [tf]) rfl, rfl⟩
set_option maxRecDepth 100000 in
theorem reftwo_div (a b : Int) (w : World) (h0 : 0 ≤ a) (h1 : a < 65536) (g0 : 0 ≤ b) (g1 : b < 65536) (hb0 : ¬ b = 0) :
    TwoSaid 11 4 a b w := by
  unfold TwoSaid
  have ha := s_bd a h0 h1
  have hb := s_bd b g0 g1
  have hz : ¬ S b = 0 := fun h => hb0 ((s_z b g0 g1).1 h)
  have hd := m_tdiv _ (S b) ha hz
  obtain ⟨s, hs, hs31⟩ : ∃ s : Nat, b % 32 = s ∧ s ≤ 31 := ⟨(b % 32).toNat, by omega, by omega⟩
  have hts : (b % 32).toNat = s := by omega
  have HT := Lib.hid hts
  clear hts
  go_enter Try.func11, Try.ntmps11
  go_wp2_with (go_call (refworth_any _ _) as e w' ⟨rfl, rfl⟩)
  go_loop [12, 13] (fun p i => ∃ k : Nat, k ≤ s ∧ i = .int .i64 k ∧ p = .int .i64 (pw k)) (fun _ i => s - (intOf i).toNat)
  case atStart => exact ⟨0, Nat.zero_le _, rfl, rfl⟩
  case round =>
    obtain ⟨k, hk, rfl, rfl⟩ := hrel
    have hp1 := pw_pos k
    have hp2 := pw_le k (by omega)
    by_cases hlt : k < s
    · go_wp2
      go_round
      case rel => exact ⟨k + 1, by omega, by go_num, by rw [pw_succ]⟩
      case measure => simp [intOf]; omega
    · obtain rfl : k = s := by omega
      by_cases hneg : S a < 0
      · go_wp2_with (go_call (word_any _ _) as e w' ⟨rfl, rfl⟩)
        go_returns
        exact ⟨ret3 (by simp [tw, hb0]) (by simp [tf, hb0]) rfl, rfl⟩
      · go_wp2_with (go_call (word_any _ _) as e w' ⟨rfl, rfl⟩)
        go_returns
        exact ⟨ret3 (by simp [tw, hb0]) (by simp [tf, hb0]) rfl, rfl⟩
set_option maxRecDepth 100000 in
theorem reftwo_rem (a b : Int) (w : World) (h0 : 0 ≤ a) (h1 : a < 65536) (g0 : 0 ≤ b) (g1 : b < 65536) (hb0 : ¬ b = 0) :
    TwoSaid 11 5 a b w := by
  unfold TwoSaid
  have ha := s_bd a h0 h1
  have hb := s_bd b g0 g1
  have hz : ¬ S b = 0 := fun h => hb0 ((s_z b g0 g1).1 h)
  have hd := m_tdiv _ (S b) ha hz
  have hr := m_tmod (S a) (S b)
  have hrb : -65536 ≤ (S a).tdiv (S b) * S b ∧ (S a).tdiv (S b) * S b ≤ 65536 := m_rembd _ _ ha hb hz
  have HR := Lib.hid hr
  clear hr
  obtain ⟨s, hs, hs31⟩ : ∃ s : Nat, b % 32 = s ∧ s ≤ 31 := ⟨(b % 32).toNat, by omega, by omega⟩
  have hts : (b % 32).toNat = s := by omega
  have HT := Lib.hid hts
  clear hts
  go_enter Try.func11, Try.ntmps11
  go_wp2_with (go_call (refworth_any _ _) as e w' ⟨rfl, rfl⟩)
  go_loop [12, 13] (fun p i => ∃ k : Nat, k ≤ s ∧ i = .int .i64 k ∧ p = .int .i64 (pw k)) (fun _ i => s - (intOf i).toNat)
  case atStart => exact ⟨0, Nat.zero_le _, rfl, rfl⟩
  case round =>
    obtain ⟨k, hk, rfl, rfl⟩ := hrel
    have hp1 := pw_pos k
    have hp2 := pw_le k (by omega)
    by_cases hlt : k < s
    · go_wp2
      go_round
      case rel => exact ⟨k + 1, by omega, by go_num, by rw [pw_succ]⟩
      case measure => simp [intOf]; omega
    · obtain rfl : k = s := by omega
      by_cases hneg : S a < 0
      · go_wp2_with (go_call (word_any _ _) as e w' ⟨rfl, rfl⟩)
        go_returns
        exact ⟨ret3 (by rw [HR.out]; simp [tw, hb0]) (by simp [tf, hb0]) rfl, rfl⟩
      · go_wp2_with (go_call (word_any _ _) as e w' ⟨rfl, rfl⟩)
        go_returns
        exact ⟨ret3 (by rw [HR.out]; simp [tw, hb0]) (by simp [tf, hb0]) rfl, rfl⟩
set_option maxRecDepth 100000 in
theorem reftwo_shl (a b : Int) (w : World) (h0 : 0 ≤ a) (h1 : a < 65536) (g0 : 0 ≤ b) (g1 : b < 65536) :
    TwoSaid 11 6 a b w := by
  unfold TwoSaid
  have ha := s_bd a h0 h1
  have hb := s_bd b g0 g1
  have ht := m_tmod65536 _ ha
  obtain ⟨s, hs, hs31⟩ : ∃ s : Nat, b % 32 = s ∧ s ≤ 31 := ⟨(b % 32).toNat, by omega, by omega⟩
  have hts : (b % 32).toNat = s := by omega
  have HT := Lib.hid hts
  clear hts
  go_enter Try.func11, Try.ntmps11
  go_wp2_with (go_call (refworth_any _ _) as e w' ⟨rfl, rfl⟩)
  go_loop [12, 13] (fun p i => ∃ k : Nat, k ≤ s ∧ i = .int .i64 k ∧ p = .int .i64 (pw k)) (fun _ i => s - (intOf i).toNat)
  case atStart => exact ⟨0, Nat.zero_le _, rfl, rfl⟩
  case round =>
    obtain ⟨k, hk, rfl, rfl⟩ := hrel
    have hp1 := pw_pos k
    have hp2 := pw_le k (by omega)
    by_cases hlt : k < s
    · go_wp2
      go_round
      case rel => exact ⟨k + 1, by omega, by go_num, by rw [pw_succ]⟩
      case measure => simp [intOf]; omega
    · obtain rfl : k = s := by omega
      have hx := m_shlbd _ _ ha hp1
      by_cases hneg : S a < 0
      · go_wp2_with (go_call (word_any _ _) as e w' ⟨rfl, rfl⟩)
        go_returns
        exact ⟨ret3 (by show _ = S a * 2 ^ (b % 32).toNat % 65536; rw [HT.out]; exact m_shl _ _) rfl rfl, rfl⟩
      · go_wp2_with (go_call (word_any _ _) as e w' ⟨rfl, rfl⟩)
        go_returns
        exact ⟨ret3 (by show _ = S a * 2 ^ (b % 32).toNat % 65536; rw [HT.out]; exact m_shl _ _) rfl rfl, rfl⟩
set_option maxRecDepth 100000 in
theorem reftwo_shr (a b : Int) (w : World) (h0 : 0 ≤ a) (h1 : a < 65536) (g0 : 0 ≤ b) (g1 : b < 65536) :
    TwoSaid 11 7 a b w := by
  unfold TwoSaid
  have ha := s_bd a h0 h1
  have hb := s_bd b g0 g1
  obtain ⟨s, hs, hs31⟩ : ∃ s : Nat, b % 32 = s ∧ s ≤ 31 := ⟨(b % 32).toNat, by omega, by omega⟩
  have hts : (b % 32).toNat = s := by omega
  have HT := Lib.hid hts
  clear hts
  go_enter Try.func11, Try.ntmps11
  go_wp2_with (go_call (refworth_any _ _) as e w' ⟨rfl, rfl⟩)
  go_loop [12, 13] (fun p i => ∃ k : Nat, k ≤ s ∧ i = .int .i64 k ∧ p = .int .i64 (pw k)) (fun _ i => s - (intOf i).toNat)
  case atStart => exact ⟨0, Nat.zero_le _, rfl, rfl⟩
  case round =>
    obtain ⟨k, hk, rfl, rfl⟩ := hrel
    have hp1 := pw_pos k
    have hp2 := pw_le k (by omega)
    by_cases hlt : k < s
    · go_wp2
      go_round
      case rel => exact ⟨k + 1, by omega, by go_num, by rw [pw_succ]⟩
      case measure => simp [intOf]; omega
    · obtain rfl : k = s := by omega
      by_cases hneg : S a < 0
      · have hf := m_floor _ _ hp1 hneg
        have hfb := m_tdivbd _ _ hp1 hneg ha.1
        have HF := Lib.hid hf
        clear hf
        by_cases hq : (S a).tdiv (pw k) * pw k = S a
        · go_wp2_with (go_call (word_any _ _) as e w' ⟨rfl, rfl⟩)
          go_returns
          exact ⟨ret3 (by show _ = S a / 2 ^ (b % 32).toNat % 65536; rw [HT.out]; show _ = S a / pw k % 65536; rw [HF.out, if_pos hq]) rfl rfl, rfl⟩
        · go_wp2_with (go_call (word_any _ _) as e w' ⟨rfl, rfl⟩)
          go_returns
          exact ⟨ret3 (by show _ = S a / 2 ^ (b % 32).toNat % 65536; rw [HT.out]; show _ = S a / pw k % 65536; rw [HF.out, if_neg hq]) rfl rfl, rfl⟩
      · have hq1 : 0 ≤ S a / pw k := Int.ediv_nonneg (by omega) (by omega)
        have hq2 : S a / pw k ≤ S a := Int.ediv_le_self _ (by omega)
        go_wp2_with (go_call (word_any _ _) as e w' ⟨rfl, rfl⟩)
        go_returns
        exact ⟨ret3 (by show _ = S a / 2 ^ (b % 32).toNat % 65536; rw [HT.out]; rfl) rfl rfl, rfl⟩
set_option maxRecDepth 100000 in
theorem reftwo_ushr (a b : Int) (w : World) (h0 : 0 ≤ a) (h1 : a < 65536) (g0 : 0 ≤ b) (g1 : b < 65536) :
    TwoSaid 11 8 a b w := by
  unfold TwoSaid
  have ha := s_bd a h0 h1
  have hb := s_bd b g0 g1
  obtain ⟨s, hs, hs31⟩ : ∃ s : Nat, b % 32 = s ∧ s ≤ 31 := ⟨(b % 32).toNat, by omega, by omega⟩
  have hts : (b % 32).toNat = s := by omega
  have HT := Lib.hid hts
  clear hts
  go_enter Try.func11, Try.ntmps11
  go_wp2_with (go_call (refworth_any _ _) as e w' ⟨rfl, rfl⟩)
  go_loop [12, 13] (fun p i => ∃ k : Nat, k ≤ s ∧ i = .int .i64 k ∧ p = .int .i64 (pw k)) (fun _ i => s - (intOf i).toNat)
  case atStart => exact ⟨0, Nat.zero_le _, rfl, rfl⟩
  case round =>
    obtain ⟨k, hk, rfl, rfl⟩ := hrel
    have hp1 := pw_pos k
    have hp2 := pw_le k (by omega)
    by_cases hlt : k < s
    · go_wp2
      go_round
      case rel => exact ⟨k + 1, by omega, by go_num, by rw [pw_succ]⟩
      case measure => simp [intOf]; omega
    · obtain rfl : k = s := by omega
      by_cases hneg : S a < 0
      · have hq1 : 0 ≤ (S a + 4294967296) / pw k := Int.ediv_nonneg (by omega) (by omega)
        have hq2 : (S a + 4294967296) / pw k ≤ S a + 4294967296 := Int.ediv_le_self _ (by omega)
        go_wp2_with (go_call (word_any _ _) as e w' ⟨rfl, rfl⟩)
        go_returns
        exact ⟨ret3 (by show _ = S a % 4294967296 / 2 ^ (b % 32).toNat % 65536; rw [HT.out, show S a % 4294967296 = S a + 4294967296 from by omega]; rfl) rfl rfl, rfl⟩
      · have hq1 : 0 ≤ S a / pw k := Int.ediv_nonneg (by omega) (by omega)
        have hq2 : S a / pw k ≤ S a := Int.ediv_le_self _ (by omega)
        go_wp2_with (go_call (word_any _ _) as e w' ⟨rfl, rfl⟩)
        go_returns
        exact ⟨ret3 (by show _ = S a % 4294967296 / 2 ^ (b % 32).toNat % 65536; rw [HT.out, show S a % 4294967296 = S a from by omega]; rfl) rfl rfl, rfl⟩
set_option maxRecDepth 100000 in
theorem reftwo_none (op : Int) (a b : Int) (w : World) (o : op = 0 ∨ 12 ≤ op) (h0 : 0 ≤ a) (h1 : a < 65536) (g0 : 0 ≤ b) (g1 : b < 65536) :
    TwoSaid 11 op a b w := by
  unfold TwoSaid
  have ha := s_bd a h0 h1
  have hb := s_bd b g0 g1
  have q1 : (op == 1) = false := by simp; omega
  have q2 : (op == 2) = false := by simp; omega
  have q3 : (op == 3) = false := by simp; omega
  have q4 : (op == 4) = false := by simp; omega
  have q5 : (op == 5) = false := by simp; omega
  have q6 : (op == 6) = false := by simp; omega
  have q7 : (op == 7) = false := by simp; omega
  have q8 : (op == 8) = false := by simp; omega
  have q9 : (op == 9) = false := by simp; omega
  have q10 : (op == 10) = false := by simp; omega
  have q11 : (op == 11) = false := by simp; omega
  obtain ⟨s, hs, hs31⟩ : ∃ s : Nat, b % 32 = s ∧ s ≤ 31 := ⟨(b % 32).toNat, by omega, by omega⟩
  have hts : (b % 32).toNat = s := by omega
  have HT := Lib.hid hts
  clear hts
  go_enter Try.func11, Try.ntmps11
  go_wp2_with (go_call (refworth_any _ _) as e w' ⟨rfl, rfl⟩)
  go_loop [12, 13] (fun p i => ∃ k : Nat, k ≤ s ∧ i = .int .i64 k ∧ p = .int .i64 (pw k)) (fun _ i => s - (intOf i).toNat)
  case atStart => exact ⟨0, Nat.zero_le _, rfl, rfl⟩
  case round =>
    obtain ⟨k, hk, rfl, rfl⟩ := hrel
    have hp1 := pw_pos k
    have hp2 := pw_le k (by omega)
    by_cases hlt : k < s
    · go_wp2
      go_round
      case rel => exact ⟨k + 1, by omega, by go_num, by rw [pw_succ]⟩
      case measure => simp [intOf]; omega
    · obtain rfl : k = s := by omega
      by_cases hneg : S a < 0
      · go_wp2
        go_returns
        exact ⟨ret3 (by unfold tw; repeat (first | rw [if_neg (by omega)] | rfl)) (by unfold tf; rw [if_neg (by omega)]) (by unfold te; rw [if_neg (by omega)]), rfl⟩
      · go_wp2
        go_returns
        exact ⟨ret3 (by unfold tw; repeat (first | rw [if_neg (by omega)] | rfl)) (by unfold tf; rw [if_neg (by omega)]) (by unfold te; rw [if_neg (by omega)]), rfl⟩
end Go.Proofs.Ytcondgdbjkcafaa
