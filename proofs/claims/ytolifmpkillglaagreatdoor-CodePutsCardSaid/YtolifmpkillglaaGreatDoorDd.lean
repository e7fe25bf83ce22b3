import Derived.Test.YtolifmpkillglaaGreatDoorDc
set_option linter.unusedVariables false
set_option maxRecDepth 100000
namespace Go.Proofs.YtolifmpkillglaaGreatDoor
open Go.RowKit
/-! A number out of its bytes. -/
def num (l : List Int) : Int := l.foldl (fun a x => 256 * a + x) 0
theorem num_nil : num [] = 0 := rfl
theorem num_snoc (l : List Int) (x : Int) : num (l ++ [x]) = 256 * num l + x := by simp [num, List.foldl_append]
theorem num_bd (l : List Int) (h : rng l) : 0 ≤ num l ∧ num l < 256 ^ l.length := by
  have H : ∀ m : List Int, rng m.reverse → 0 ≤ num m.reverse ∧ num m.reverse < 256 ^ m.length := by
    intro m
    induction m with
    | nil => intro _; exact ⟨by decide, by decide⟩
    | cons x m ih =>
      intro hr
      rw [List.reverse_cons] at hr ⊢
      have h1 := ih (fun y hy => hr y (List.mem_append.2 (.inl hy)))
      have h2 := hr x (List.mem_append.2 (.inr (by simp)))
      rw [num_snoc, List.length_cons, Int.pow_succ]
      omega
  have := H l.reverse (by rwa [List.reverse_reverse])
  rwa [List.reverse_reverse, List.length_reverse] at this
theorem take_snoc (l : List Int) (k : Nat) (h : k < l.length) : l.take (k + 1) = l.take k ++ [l.getD k 0] := by
  rw [List.take_succ_eq_append_getElem h, List.getD_eq_getElem?_getD, List.getElem?_eq_getElem h]; rfl
theorem or_join (a x : Int) (a0 : 0 ≤ a) (a1 : a < 16777216) (x0 : 0 ≤ x) (x1 : x < 256) : bits .or .u32 (a * 256) x = 256 * a + x := by
  obtain ⟨m, rfl⟩ := Int.eq_ofNat_of_zero_le a0
  obtain ⟨y, rfl⟩ := Int.eq_ofNat_of_zero_le x0
  have e : ((m : Int) * 256) = ((2 ^ 8 * m : Nat) : Int) := by omega
  rw [e, u32_or_nat _ _ (by omega) (by omega), ← Nat.two_pow_add_eq_or_of_lt (by omega)]
  omega
theorem num_take (l : List Int) (k n : Nat) (hl : l.length = n) (hr : rng l) (hn : n ≤ 4) (hk : k < n) : 0 ≤ num (l.take k) ∧ num (l.take k) < 16777216 ∧ num (l.take (k + 1)) = 256 * num (l.take k) + l.getD k 0 := by
  have h := num_bd (l.take k) (rng_take hr k)
  rw [List.length_take, show min k l.length = k by omega] at h
  refine ⟨h.1, ?_, by rw [take_snoc l k (by omega), num_snoc]⟩
  have h3 : k = 0 ∨ k = 1 ∨ k = 2 ∨ k = 3 := by omega
  rcases h3 with rfl | rfl | rfl | rfl <;> omega
theorem number_any (A : Option Addr) (n c B : Nat) (l : List Int) (w : World) (hn : n ≤ 4) (h : Rd w B A n l) :
    Calls Tryz.prog 89 #[.slice A n c] w fun e w' => e = .returned (.int .u32 (num l)) ∧ w = w' := by
  by_cases h0 : n = 0
  · subst h0
    obtain rfl := h.zero
    clear h
    go_enter Tryz.func89, Tryz.ntmps89
    go_wp2
    refine wp_loop_rounds 1 ?_
    rw [rounds_succ]
    go_wp2
    go_returns
    exact ⟨rfl, rfl⟩
  · obtain ⟨b1, o1, rfl, _, hc1⟩ := h.2.2 (by omega)
    have hr := h.rg
    have hl := h.len
    clear h
    have HC1 := Lib.hid hc1
    have HR := Lib.hid hr
    have HL := Lib.hid hl
    clear hc1 hr hl
    go_enter Tryz.func89, Tryz.ntmps89
    go_wp2
    go_loop [3, 8] (fun v i => ∃ k : Nat, k ≤ n ∧ i = .int .i64 k ∧ v = .int .u32 (num (l.take k))) (fun _ i => n - (intOf i).toNat)
    case atStart => exact ⟨0, Nat.zero_le _, rfl, rfl⟩
    case round =>
      obtain ⟨k, hk, rfl, rfl⟩ := hrel
      by_cases hlt : k < n
      · have g1 := HC1.out k hlt
        obtain ⟨x0, x1⟩ := rng_getD HR.out k
        obtain ⟨a0, a1, hs⟩ := num_take l k n HL.out HR.out hn hlt
        have HS := Lib.hid hs
        clear hs
        generalize l.getD k 0 = x at g1 x0 x1 HS
        generalize num (l.take k) = a at a0 a1 HS
        have hj := or_join a x a0 a1 x0 x1
        go_wp2
        go_round
        case rel => exact ⟨k + 1, by omega, by go_num, by rw [HS.out]⟩
        case measure => simp [intOf]; omega
      · go_wp2
        go_returns
        exact ⟨ret_int (by rw [List.take_of_length_le (by rw [HL.out]; omega)]), rfl⟩
/-! A part of a slice. -/
theorem ret_sl {A : Option Addr} {n c n' c' : Nat} {x : Value} (h : n = n') (k : c = c') : Ending.returned (.tuple #[.slice A n c, x]) = .returned (.tuple #[.slice A n' c', x]) := by rw [h, k]
theorem cut_arg (A : Option Addr) (n c : Nat) (i m : Int) (w : World) (hn : n ≤ c) (hc : n ≤ 281474976710656) (h : i < 0 ∨ (n : Int) < i ∨ m < 0) :
    Calls Tryz.prog 65 #[.slice A n c, .int .i64 i, .int .i64 m] w fun e w' => e = .returned (.tuple #[.slice none 0 0, .int .i64 2]) ∧ w = w' := by
  by_cases h1 : i < 0
  · clear h
    go_enter Tryz.func65, Tryz.ntmps65
    go_wp2
    go_returns
    exact ⟨rfl, rfl⟩
  · by_cases h2 : (n : Int) < i
    · clear h
      go_enter Tryz.func65, Tryz.ntmps65
      go_wp2
      go_returns
      exact ⟨rfl, rfl⟩
    · have h3 : m < 0 := by omega
      clear h
      go_enter Tryz.func65, Tryz.ntmps65
      go_wp2
      go_returns
      exact ⟨rfl, rfl⟩
theorem cut_short (A : Option Addr) (n c : Nat) (i m : Int) (w : World) (hn : n ≤ c) (hc : n ≤ 281474976710656) (h1 : 0 ≤ i) (h2 : i ≤ n) (h3 : 0 ≤ m) (h4 : (n : Int) - i < m) :
    Calls Tryz.prog 65 #[.slice A n c, .int .i64 i, .int .i64 m] w fun e w' => e = .returned (.tuple #[.slice none 0 0, .int .i64 4]) ∧ w = w' := by
  go_enter Tryz.func65, Tryz.ntmps65
  go_wp2
  go_returns
  exact ⟨rfl, rfl⟩
theorem cut_ok (A : Option Addr) (n c i m : Nat) (w : World) (hn : n ≤ c) (hc : n ≤ 281474976710656) (h : i + m ≤ n) :
    Calls Tryz.prog 65 #[.slice A n c, .int .i64 i, .int .i64 m] w fun e w' => ∃ A', e = .returned (.tuple #[.slice A' m m, .int .i64 0]) ∧ (0 < m → A' = A.map (·.add i)) ∧ w = w' := by
  by_cases hm : m = 0
  · subst hm
    go_enter Tryz.func65, Tryz.ntmps65
    go_wp2
    go_returns
    exact ⟨_, rfl, fun h => absurd h (by omega), rfl⟩
  · go_enter Tryz.func65, Tryz.ntmps65
    go_wp2
    go_returns
    exact ⟨_, ret_sl (by omega) (by omega), fun h => rfl, rfl⟩
/-! Get, and the document's. -/
theorem get_arg (A : Option Addr) (n c : Nat) (i s : Int) (w : World) (hn : n ≤ c) (hc : n ≤ 281474976710656) (h : noS s ∨ i < 0 ∨ (n : Int) < i) :
    Calls Tryz.prog 86 #[.slice A n c, .int .i64 i, .int .i64 s] w fun e w' => e = .returned (.tuple #[.int .u32 0, .int .i64 2]) ∧ w = w' := by
  by_cases hs : noS s
  · clear h
    go_enter Tryz.func86, Tryz.ntmps86
    go_wp2_with ((with_reducible refine (greatest_no _ _ hs).mono ?_); rintro e w' ⟨rfl, rfl⟩)
    go_returns
    exact ⟨rfl, rfl⟩
  · have h' : i < 0 ∨ (n : Int) < i ∨ s < 0 := by
      rcases h with h | h | h
      · exact absurd h hs
      · exact .inl h
      · exact .inr (.inl h)
    have C := fun w => cut_arg A n c i s w hn hc h'
    have H := Lib.hid C
    clear C h h'
    have hs' : s = 1 ∨ s = 2 ∨ s = 4 := by unfold noS at hs; omega
    clear hs
    rcases hs' with rfl | rfl | rfl
    all_goals
      go_enter Tryz.func86, Tryz.ntmps86
      go_wp2_with (first | ((with_reducible refine (greatest_1 _).mono ?_); rintro e w' ⟨rfl, rfl⟩) | ((with_reducible refine (greatest_2 _).mono ?_); rintro e w' ⟨rfl, rfl⟩) | ((with_reducible refine (greatest_4 _).mono ?_); rintro e w' ⟨rfl, rfl⟩) | ((with_reducible refine (H.out _).mono ?_); rintro e w' ⟨rfl, rfl⟩))
      go_returns
      exact ⟨rfl, rfl⟩
theorem get_short (A : Option Addr) (n c : Nat) (i s : Int) (w : World) (hn : n ≤ c) (hc : n ≤ 281474976710656) (hs : s = 1 ∨ s = 2 ∨ s = 4) (h1 : 0 ≤ i) (h2 : i ≤ n) (h4 : (n : Int) - i < s) :
    Calls Tryz.prog 86 #[.slice A n c, .int .i64 i, .int .i64 s] w fun e w' => e = .returned (.tuple #[.int .u32 0, .int .i64 4]) ∧ w = w' := by
  have C := fun w => cut_short A n c i s w hn hc h1 h2 (by omega) h4
  have H := Lib.hid C
  clear C
  rcases hs with rfl | rfl | rfl
  all_goals
    go_enter Tryz.func86, Tryz.ntmps86
    go_wp2_with (first | ((with_reducible refine (greatest_1 _).mono ?_); rintro e w' ⟨rfl, rfl⟩) | ((with_reducible refine (greatest_2 _).mono ?_); rintro e w' ⟨rfl, rfl⟩) | ((with_reducible refine (greatest_4 _).mono ?_); rintro e w' ⟨rfl, rfl⟩) | ((with_reducible refine (H.out _).mono ?_); rintro e w' ⟨rfl, rfl⟩))
    go_returns
    exact ⟨rfl, rfl⟩
theorem get_ok (A : Option Addr) (n c B i s : Nat) (l : List Int) (w : World) (hn : n ≤ c) (hc : n ≤ 281474976710656) (hr : Rd w B A n l) (hs : s = 1 ∨ s = 2 ∨ s = 4) (h : i + s ≤ n) :
    Calls Tryz.prog 86 #[.slice A n c, .int .i64 i, .int .i64 s] w fun e w' => e = .returned (.tuple #[.int .u32 (num ((l.drop i).take s)), .int .i64 0]) ∧ w = w' := by
  have C := fun w => cut_ok A n c i s w hn hc h
  have D := fun A' (hA : 0 < s → A' = A.map (·.add i)) => number_any A' s s B ((l.drop i).take s) w (by omega) (hr.cut h hA)
  have H := Lib.hid C
  have K := Lib.hid D
  clear C D hr
  rcases hs with rfl | rfl | rfl
  all_goals
    go_enter Tryz.func86, Tryz.ntmps86
    go_wp2_with (first | ((with_reducible refine (greatest_1 _).mono ?_); rintro e w' ⟨rfl, rfl⟩) | ((with_reducible refine (greatest_2 _).mono ?_); rintro e w' ⟨rfl, rfl⟩) | ((with_reducible refine (greatest_4 _).mono ?_); rintro e w' ⟨rfl, rfl⟩) | ((refine (H.out _).mono ?_); rintro e w' ⟨A', rfl, hA, rfl⟩; have HA := Lib.hid hA; clear hA) | ((refine (K.out A' HA.out).mono ?_); rintro e w' ⟨rfl, rfl⟩))
    go_returns
    exact ⟨rfl, rfl⟩
theorem refget_arg (A : Option Addr) (n c : Nat) (i s : Int) (w : World) (hn : n ≤ c) (hc : n ≤ 281474976710656) (h : noS s ∨ i < 0 ∨ (n : Int) < i) :
    Calls Tryz.prog 62 #[.slice A n c, .int .i64 i, .int .i64 s] w fun e w' => e = .returned (.tuple #[.int .u32 0, .int .i64 2]) ∧ w = w' := by
  by_cases hs : noS s
  · clear h
    go_enter Tryz.func62, Tryz.ntmps62
    go_wp2_with ((with_reducible refine (size_no _ _ hs).mono ?_); rintro e w' ⟨rfl, rfl⟩)
    go_returns
    exact ⟨rfl, rfl⟩
  · have hs' : s = 1 ∨ s = 2 ∨ s = 4 := by unfold noS at hs; omega
    have h' : i < 0 ∨ (n : Int) < i := by
      rcases h with h | h
      · exact absurd h hs
      · exact h
    clear h hs
    rcases h' with h1 | h1
    · rcases hs' with rfl | rfl | rfl
      all_goals
        go_enter Tryz.func62, Tryz.ntmps62
        go_wp2_with (first | ((with_reducible refine (size_1 _).mono ?_); rintro e w' ⟨rfl, rfl⟩) | ((with_reducible refine (size_2 _).mono ?_); rintro e w' ⟨rfl, rfl⟩) | ((with_reducible refine (size_4 _).mono ?_); rintro e w' ⟨rfl, rfl⟩))
        go_returns
        exact ⟨rfl, rfl⟩
    · have h0 : ¬ i < 0 := by omega
      rcases hs' with rfl | rfl | rfl
      all_goals
        go_enter Tryz.func62, Tryz.ntmps62
        go_wp2_with (first | ((with_reducible refine (size_1 _).mono ?_); rintro e w' ⟨rfl, rfl⟩) | ((with_reducible refine (size_2 _).mono ?_); rintro e w' ⟨rfl, rfl⟩) | ((with_reducible refine (size_4 _).mono ?_); rintro e w' ⟨rfl, rfl⟩))
        go_returns
        exact ⟨rfl, rfl⟩
theorem refget_short (A : Option Addr) (n c : Nat) (i s : Int) (w : World) (hn : n ≤ c) (hc : n ≤ 281474976710656) (hs : s = 1 ∨ s = 2 ∨ s = 4) (h1 : 0 ≤ i) (h2 : i ≤ n) (h4 : (n : Int) - i < s) :
    Calls Tryz.prog 62 #[.slice A n c, .int .i64 i, .int .i64 s] w fun e w' => e = .returned (.tuple #[.int .u32 0, .int .i64 4]) ∧ w = w' := by
  rcases hs with rfl | rfl | rfl
  all_goals
    go_enter Tryz.func62, Tryz.ntmps62
    go_wp2_with (first | ((with_reducible refine (size_1 _).mono ?_); rintro e w' ⟨rfl, rfl⟩) | ((with_reducible refine (size_2 _).mono ?_); rintro e w' ⟨rfl, rfl⟩) | ((with_reducible refine (size_4 _).mono ?_); rintro e w' ⟨rfl, rfl⟩))
    go_returns
    exact ⟨rfl, rfl⟩
theorem part_getD (l : List Int) (i s k : Nat) (hk : k < s) : ((l.drop i).take s).getD k 0 = l.getD (i + k) 0 := by
  rw [List.getD_eq_getElem?_getD, List.getD_eq_getElem?_getD, List.getElem?_take, if_pos hk, List.getElem?_drop]
theorem refget_ok (A : Option Addr) (n c B i s : Nat) (l : List Int) (w : World) (hn : n ≤ c) (hc : n ≤ 281474976710656) (hr : Rd w B A n l) (hs : s = 1 ∨ s = 2 ∨ s = 4) (h : i + s ≤ n) :
    Calls Tryz.prog 62 #[.slice A n c, .int .i64 i, .int .i64 s] w fun e w' => e = .returned (.tuple #[.int .u32 (num ((l.drop i).take s)), .int .i64 0]) ∧ w = w' := by
  obtain ⟨b1, o1, rfl, _, hc1⟩ := hr.2.2 (by omega)
  have hrg := rng_take (rng_drop hr.rg i) s
  have hl : ((l.drop i).take s).length = s := by rw [List.length_take, List.length_drop, hr.len]; omega
  have hc2 : ∀ k, k < s → w.cell? ⟨b1, o1 + (i + k), none⟩ = some (.int .u8 (((l.drop i).take s).getD k 0)) := fun k hk => by rw [part_getD l i s k hk]; exact hc1 (i + k) (by omega)
  generalize (l.drop i).take s = p at hrg hl hc2 ⊢
  have HR := Lib.hid hrg
  have HL := Lib.hid hl
  have HC := Lib.hid hc2
  clear hr hrg hl hc2 hc1
  rcases hs with rfl | rfl | rfl
  all_goals
    go_enter Tryz.func62, Tryz.ntmps62
    go_wp2_with (first | ((with_reducible refine (size_1 _).mono ?_); rintro e w' ⟨rfl, rfl⟩) | ((with_reducible refine (size_2 _).mono ?_); rintro e w' ⟨rfl, rfl⟩) | ((with_reducible refine (size_4 _).mono ?_); rintro e w' ⟨rfl, rfl⟩))
    go_loop [8, 9] (fun v j => ∃ k : Nat, k ≤ p.length ∧ j = .int .i64 k ∧ v = .int .u32 (num (p.take k))) (fun _ j => p.length - (intOf j).toNat)
    case atStart => exact ⟨0, Nat.zero_le _, rfl, rfl⟩
    case round =>
      obtain ⟨k, hk, rfl, rfl⟩ := hrel
      by_cases hlt : k < p.length
      · have hk2 := hlt
        rw [HL.out] at hk2
        have g1 := HC.out k hk2
        obtain ⟨x0, x1⟩ := rng_getD HR.out k
        obtain ⟨a0, a1, hs⟩ := num_take p k _ rfl HR.out (by rw [HL.out]; omega) hlt
        have HS := Lib.hid hs
        clear hs
        generalize p.getD k 0 = x at g1 x0 x1 HS
        generalize num (p.take k) = a at a0 a1 HS
        go_wp2
        go_round
        case rel => exact ⟨k + 1, by omega, by go_num, by rw [HS.out]⟩
        case measure => simp [intOf]; omega
      · have hk2 := hlt
        rw [HL.out] at hk2
        go_wp2
        go_returns
        exact ⟨by rw [List.take_of_length_le (by omega)]; rfl, rfl⟩
end Go.Proofs.YtolifmpkillglaaGreatDoor
