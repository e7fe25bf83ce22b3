import Derived.Test.YtkdnnoioejfpgaaKe
set_option linter.unusedVariables false
set_option maxRecDepth 100000
namespace Go.Proofs.Ytkdnnoioejfpgaa
open Go.RowKit
/-! References; the same entries; what works. -/
def splN (r : Int) : Int := if r < 32768 then r else (r - 32768) / 256
def splT (r : Int) : Int := if r < 32768 then 0 else (r - 32768) % 256
def splB (r : Int) : Bool := decide (32768 ≤ r)
def okRef (i : Bool) (n t : Int) : Prop := if i = true then 0 ≤ n ∧ n ≤ 127 ∧ 0 ≤ t ∧ t ≤ 255 else 0 ≤ n ∧ n ≤ 32767 ∧ t = 0
instance (i : Bool) (n t : Int) : Decidable (okRef i n t) := by unfold okRef; infer_instance
def refV (i : Bool) (n t : Int) : Int := if okRef i n t then (if i = true then 32768 + 256 * n + t else n) else 0
def refE (i : Bool) (n t : Int) : Int := if okRef i n t then 0 else 2
theorem ret_spl {b b' : Bool} {n n' t t' : Int} (h1 : b = b') (h2 : n = n') (h3 : t = t') : Ending.returned (.tuple #[.bool b, .int .i64 n, .int .i64 t]) = .returned (.tuple #[.bool b', .int .i64 n', .int .i64 t']) := by rw [h1, h2, h3]
theorem ret_ref {v v' e : Int} (h : v = v') : Ending.returned (.tuple #[.int .u16 v, .int .i64 e]) = .returned (.tuple #[.int .u16 v', .int .i64 e]) := by rw [h]
theorem split_any (r : Int) (w : World) (r0 : 0 ≤ r) (r1 : r < 65536) : Calls Try.prog 16 #[.int .u16 r] w fun e w' => e = .returned (.tuple #[.bool (splB r), .int .i64 (splN r), .int .i64 (splT r)]) ∧ w = w' := by
  unfold splB splN splT
  by_cases h : r < 32768
  · rw [if_pos h, if_pos h, decide_eq_false (by omega)]
    go_enter Try.func16, Try.ntmps16
    go_wp2
    go_returns
    exact ⟨rfl, rfl⟩
  · rw [if_neg h, if_neg h, decide_eq_true (show 32768 ≤ r by omega)]
    have hm : (r - 32768) % 65536 = r - 32768 := Int.emod_eq_of_lt (by omega) (by omega)
    have hw16 : ∀ z : Int, IntKind.u16.wrap z = z % 65536 := fun z => by simp [IntKind.wrap, IntKind.bits, IntKind.signed]
    have q1 : IntKind.u16.wrap ((r - 32768).tdiv 256) = (r - 32768) / 256 := by rw [Int.tdiv_eq_ediv_of_nonneg (by omega), hw16]; omega
    have q2 : IntKind.u16.wrap ((r - 32768).tmod 256) = (r - 32768) % 256 := by rw [Int.tmod_eq_emod_of_nonneg (by omega), hw16]; omega
    go_enter Try.func16, Try.ntmps16
    go_wp2
    go_returns
    exact ⟨ret_spl rfl (by rw [Int.tdiv_eq_ediv_of_nonneg (by omega)]; omega) rfl, rfl⟩
theorem refsplit_any (r : Int) (w : World) (r0 : 0 ≤ r) (r1 : r < 65536) : Calls Try.prog 17 #[.int .u16 r] w fun e w' => e = .returned (.tuple #[.bool (splB r), .int .i64 (splN r), .int .i64 (splT r)]) ∧ w = w' := by
  unfold splB splN splT
  by_cases h : r < 32768
  · rw [if_pos h, if_pos h, decide_eq_false (by omega)]
    go_enter Try.func17, Try.ntmps17
    go_wp2
    go_returns
    exact ⟨rfl, rfl⟩
  · rw [if_neg h, if_neg h, decide_eq_true (show 32768 ≤ r by omega)]
    have hm : (r - 32768) % 65536 = r - 32768 := Int.emod_eq_of_lt (by omega) (by omega)
    go_enter Try.func17, Try.ntmps17
    go_wp2
    go_returns
    exact ⟨rfl, rfl⟩
set_option maxHeartbeats 1000000 in
theorem ref7_any (i : Bool) (n t : Int) (w : World) (n0 : -9223372036854775808 ≤ n) (n1 : n ≤ 9223372036854775807) (t0 : -9223372036854775808 ≤ t) (t1 : t ≤ 9223372036854775807) : Calls Try.prog 18 #[.bool i, .int .i64 n, .int .i64 t] w fun e w' => e = .returned (.tuple #[.int .u16 (refV i n t), .int .i64 (refE i n t)]) ∧ w = w' := by
  unfold refV refE
  by_cases hok : okRef i n t
  · rw [if_pos hok, if_pos hok]
    unfold okRef at hok
    cases i
    · simp only [Bool.false_eq_true, if_false] at hok ⊢
      obtain ⟨h1, h2, rfl⟩ := hok
      go_enter Try.func18, Try.ntmps18
      go_wp2
      go_returns
      exact ⟨ret_ref (by omega), rfl⟩
    · simp only [if_true] at hok ⊢
      obtain ⟨h1, h2, h3, h4⟩ := hok
      go_enter Try.func18, Try.ntmps18
      go_wp2
      go_returns
      exact ⟨ret_ref (by omega), rfl⟩
  · rw [if_neg hok, if_neg hok]
    unfold okRef at hok
    by_cases a1 : n < 0
    · clear hok
      cases i
      all_goals
        go_enter Try.func18, Try.ntmps18
        go_wp2
        go_returns
        exact ⟨rfl, rfl⟩
    · cases i
      · simp only [Bool.false_eq_true, if_false] at hok
        by_cases a2 : n > 32767
        · clear hok
          go_enter Try.func18, Try.ntmps18
          go_wp2
          all_goals
            go_returns
            exact ⟨rfl, rfl⟩
        · have a3 : ¬ t = 0 := by omega
          have a4 : (t != 0) = true := by simpa using a3
          clear hok
          by_cases a5 : t < 0
          · go_enter Try.func18, Try.ntmps18
            go_wp2
            all_goals
              go_returns
              exact ⟨rfl, rfl⟩
          · have a6 : t > 0 := by omega
            go_enter Try.func18, Try.ntmps18
            go_wp2
            all_goals
              go_returns
              exact ⟨rfl, rfl⟩
      · simp only [if_true] at hok
        by_cases a2 : n > 127
        · clear hok
          go_enter Try.func18, Try.ntmps18
          go_wp2
          all_goals
            go_returns
            exact ⟨rfl, rfl⟩
        · by_cases a5 : t < 0
          · clear hok
            go_enter Try.func18, Try.ntmps18
            go_wp2
            all_goals
              go_returns
              exact ⟨rfl, rfl⟩
          · have a6 : t > 255 := by omega
            clear hok
            go_enter Try.func18, Try.ntmps18
            go_wp2
            all_goals
              go_returns
              exact ⟨rfl, rfl⟩
set_option maxHeartbeats 1000000 in
theorem refref_any (i : Bool) (n t : Int) (w : World) (n0 : -9223372036854775808 ≤ n) (n1 : n ≤ 9223372036854775807) (t0 : -9223372036854775808 ≤ t) (t1 : t ≤ 9223372036854775807) : Calls Try.prog 19 #[.bool i, .int .i64 n, .int .i64 t] w fun e w' => e = .returned (.tuple #[.int .u16 (refV i n t), .int .i64 (refE i n t)]) ∧ w = w' := by
  unfold refV refE
  by_cases hok : okRef i n t
  · rw [if_pos hok, if_pos hok]
    unfold okRef at hok
    cases i
    · simp only [Bool.false_eq_true, if_false] at hok ⊢
      obtain ⟨h1, h2, rfl⟩ := hok
      go_enter Try.func19, Try.ntmps19
      go_wp2
      go_returns
      exact ⟨ret_ref (by omega), rfl⟩
    · simp only [if_true] at hok ⊢
      obtain ⟨h1, h2, h3, h4⟩ := hok
      go_enter Try.func19, Try.ntmps19
      go_wp2
      go_returns
      exact ⟨ret_ref (by omega), rfl⟩
  · rw [if_neg hok, if_neg hok]
    unfold okRef at hok
    by_cases a1 : n < 0
    · clear hok
      cases i
      all_goals
        go_enter Try.func19, Try.ntmps19
        go_wp2
        go_returns
        exact ⟨rfl, rfl⟩
    · cases i
      · simp only [Bool.false_eq_true, if_false] at hok
        by_cases a2 : n > 32767
        · clear hok
          go_enter Try.func19, Try.ntmps19
          go_wp2
          all_goals
            go_returns
            exact ⟨rfl, rfl⟩
        · have a3 : ¬ t = 0 := by omega
          have a4 : (t != 0) = true := by simpa using a3
          clear hok
          by_cases a5 : t < 0
          · go_enter Try.func19, Try.ntmps19
            go_wp2
            all_goals
              go_returns
              exact ⟨rfl, rfl⟩
          · have a6 : t > 0 := by omega
            go_enter Try.func19, Try.ntmps19
            go_wp2
            all_goals
              go_returns
              exact ⟨rfl, rfl⟩
      · simp only [if_true] at hok
        by_cases a2 : n > 127
        · clear hok
          go_enter Try.func19, Try.ntmps19
          go_wp2
          all_goals
            go_returns
            exact ⟨rfl, rfl⟩
        · by_cases a5 : t < 0
          · clear hok
            go_enter Try.func19, Try.ntmps19
            go_wp2
            all_goals
              go_returns
              exact ⟨rfl, rfl⟩
          · have a6 : t > 255 := by omega
            clear hok
            go_enter Try.func19, Try.ntmps19
            go_wp2
            all_goals
              go_returns
              exact ⟨rfl, rfl⟩
theorem sameE_yes (A1 A2 : Option Addr) (n c1 c2 B1 B2 : Nat) (l : List En) (w : World) (hn : n ≤ 281474976710656) (h1 : RV enR w B1 A1 n l) (h2 : RV enR w B2 A2 n l) :
    Calls Try.prog 15 #[.slice A1 n c1, .slice A2 n c2] w fun e w' => e = .returned (.bool true) ∧ ∃ q, w' = w.drewN q := by
  have hneq : ((n : Int) != (n : Int)) = false := by simp
  have H1 := Lib.hid h1
  have H2 := Lib.hid h2
  clear h1 h2
  go_enter Try.func15, Try.ntmps15
  go_wp2
  go_loopw [5] (fun i wr => ∃ k q : Nat, k ≤ n ∧ i = .int .i64 k ∧ wr = w.drewN q) (fun i _ => n - (intOf i).toNat)
  case atStart => exact ⟨0, 0, Nat.zero_le _, rfl, rfl⟩
  case round =>
    obtain ⟨k, q, hk, rfl, rfl⟩ := hrel
    by_cases hlt : k < n
    · obtain ⟨b1, o1, rfl, _, _, g10, g11, g12, g13, g14, g15, g16⟩ := H1.out.en k hlt
      obtain ⟨b2, o2, rfl, _, _, g20, g21, g22, g23, g24, g25, g26⟩ := H2.out.en k hlt
      generalize l.getD k en0 = z at g10 g11 g12 g13 g14 g15 g16 g20 g21 g22 g23 g24 g25 g26
      obtain ⟨k', c, t, o, nn, i, x⟩ := z
      simp only at g10 g11 g12 g13 g14 g15 g16 g20 g21 g22 g23 g24 g25 g26
      have hk0 : (0 : Int) ≤ (k : Int) := by omega
      have hk1 : (k : Int) < (n : Int) := by omega
      have b1 : (k' == k') = true := by simp
      have b2 : (c == c) = true := by simp
      have b3 : (t == t) = true := by simp
      have b4 : (o == o) = true := by simp
      have b5 : (nn == nn) = true := by simp
      have b6 : (i == i) = true := by simp
      have b7 : (x == x) = true := by simp
      go_wp2
      go_quiet (fail)
      go_wp2
      go_roundw
      case rel => exact ⟨k + 1, _, by omega, by go_num, rfl⟩
      case measure => simp [intOf]; omega
    · obtain rfl : k = n := by omega
      go_wp2
      go_returns
      exact ⟨rfl, q, rfl⟩
theorem gP_w : gP [0, 1, 7, 0, 0, 0] = ⟨[], 5⟩ := by rfl
theorem rdw (w : World) : Rd (w.alloc (.cells #[.int .u8 0, .int .u8 1, .int .u8 7, .int .u8 0, .int .u8 0, .int .u8 0] 5)) (w.heap.size + 1) (some ⟨w.heap.size, 0, none⟩) 6 [0, 1, 7, 0, 0, 0] := rd_lit w [0, 1, 7, 0, 0, 0] 6 rfl (by simp [maxLen]) (rng_lit rfl)
theorem pworks_any (w : World) : Calls Try.prog 12 #[] w fun e w' => e = .returned (.bool true) ∧ Below w.heap.size w w' := by
  have H1 := Lib.hid (fun w => split_any 33282 w (by omega) (by omega))
  have H2 := Lib.hid (fun w => ref7_any true 2 2 w (by omega) (by omega) (by omega) (by omega))
  have H3 := Lib.hid (fun w => ref7_any false 32768 0 w (by omega) (by omega) (by omega) (by omega))
  rw [show splB 33282 = true from rfl, show splN 33282 = 2 from rfl, show splT 33282 = 2 from rfl] at H1
  rw [show refV true 2 2 = 33282 from rfl, show refE true 2 2 = 0 from rfl] at H2
  rw [show refV false 32768 0 = 0 from rfl, show refE false 32768 0 = 2 from rfl] at H3
  have H4 := Lib.hid (get7_any 6 [0, 1, 7, 0, 0, 0] (by omega) rfl (rng_lit rfl))
  rw [gP_w] at H4
  have HR := Lib.hid (rdw w)
  go_enter Try.func12, Try.ntmps12
  go_wp2_with fail
  refine (H1.out _).mono ?_
  rintro e w1 ⟨rfl, rfl⟩
  go_wp2_with fail
  refine (H2.out _).mono ?_
  rintro e w1 ⟨rfl, rfl⟩
  go_wp2_with fail
  refine (H3.out _).mono ?_
  rintro e w1 ⟨rfl, rfl⟩
  go_wp2_with fail
  refine (H4.out _ _ _ _ HR.out (by omega) (by simp)).mono ?_
  rintro e w2 ⟨A2, c2, rfl, -, hb2⟩
  go_wp2_with fail
  go_returns
  exact ⟨rfl, ((Below.refl _ _).alloc (Nat.le_refl _) _).trans (hb2.mono (by simp))⟩
end Go.Proofs.Ytkdnnoioejfpgaa
