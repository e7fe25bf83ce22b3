import Derived.Test.YtojekhalpedfhaaDf
set_option linter.unusedVariables false
namespace Go.Proofs.Ytojekhalpedfhaa
open Go.RowKit
/-! The document's rows; rows that are read. -/
theorem refputrow_arg (A : Option Addr) (n c : Nat) (s : Int) (w : World) (a : ¬ s = 1) (b : ¬ s = 2) :
    Calls Try.prog 32 #[.slice A n c, .int .i64 s] w fun e w' => e = .returned (.tuple #[.slice none 0 0, .int .i64 2]) ∧ w = w' := by
  have q1 : (s != 1) = true := by simpa using a
  have q2 : (s != 2) = true := by simpa using b
  go_enter Try.func32, Try.ntmps32
  go_wp2
  go_returns
  exact ⟨rfl, rfl⟩
theorem refputrow_limit (A : Option Addr) (n c : Nat) (s : Int) (w : World) (hc : n ≤ 281474976710656) (h : (s = 1 ∧ 255 < n) ∨ (s = 2 ∧ 65535 < n)) :
    Calls Try.prog 32 #[.slice A n c, .int .i64 s] w fun e w' => e = .returned (.tuple #[.slice none 0 0, .int .i64 3]) ∧ w = w' := by
  rcases h with ⟨rfl, h⟩ | ⟨rfl, h⟩
  · have h' : (255 : Int) < n := by omega
    go_enter Try.func32, Try.ntmps32
    go_wp2
    go_returns
    exact ⟨rfl, rfl⟩
  · have h' : (65535 : Int) < n := by omega
    go_enter Try.func32, Try.ntmps32
    go_wp2
    go_returns
    exact ⟨rfl, rfl⟩
theorem refputrow_ok (A : Option Addr) (n c B s : Nat) (l : List Int) (w : World) (hr : Rd w B A n l) (hB : B ≤ w.heap.size) (h : (s = 1 ∧ n ≤ 255) ∨ (s = 2 ∧ n ≤ 65535)) :
    Calls Try.prog 32 #[.slice A n c, .int .i64 s] w fun e w' => ∃ A' c', e = .returned (.tuple #[.slice A' (s + n) c', .int .i64 0]) ∧ OB w' w.heap.size A' (s + n) c' (dig n s ++ l) ∧ Below w.heap.size w w' := by
  have C0 := Lib.hid (refput_ok (n : Int) s w (by omega) (by unfold okN; omega))
  have HR := Lib.hid hr
  clear hr
  rcases h with ⟨rfl, h⟩ | ⟨rfl, h⟩
  all_goals
    have h1 : 0 ≤ (n : Int) := by omega
    have h2 : (n : Int) ≤ 65535 := by omega
    have h3 : ¬ 65535 < (n : Int) := by omega
    first | (have h4 : ¬ 255 < (n : Int) := by omega) | skip
    go_enter Try.func32, Try.ntmps32
    go_wp2_with (first
      | ((refine C0.out.mono ?_); rintro e w1 ⟨A1, c1, rfl, ho, hb⟩)
      | (at_builtin; refine wpList_app rfl _ _ rfl w.heap.size A1 _ c1 _ rfl ho B A n c l rfl (HR.out.below hb hB) _ rfl _ rfl (by omega) hb.size ?_; intro A2 c2 w2 ho2 hb2))
    go_returns
    exact ⟨A2, c2, rfl, ho2, hb.trans hb2⟩
theorem getrow_arg (A : Option Addr) (n c : Nat) (i s : Int) (w : World) (hn : n ≤ c) (hc : n ≤ 281474976710656) (h : (¬ s = 1 ∧ ¬ s = 2) ∨ i < 0 ∨ (n : Int) < i) :
    Calls Try.prog 33 #[.slice A n c, .int .i64 i, .int .i64 s] w fun e w' => e = .returned (.tuple #[.slice none 0 0, .int .i64 0, .int .i64 2]) ∧ w = w' := by
  by_cases hs : ¬ s = 1 ∧ ¬ s = 2
  · obtain ⟨a, b⟩ := hs
    clear h
    go_enter Try.func33, Try.ntmps33
    go_wp2_with ((with_reducible refine (leads_no _ _ a b).mono ?_); rintro e w' ⟨rfl, rfl⟩)
    go_returns
    exact ⟨rfl, rfl⟩
  · have h' : i < 0 ∨ (n : Int) < i := by
      rcases h with h | h
      · exact absurd h hs
      · exact h
    have C := Lib.hid (get_arg A n c i s w hn hc (.inr h'))
    have hs' : s = 1 ∨ s = 2 := by omega
    clear h h' hs
    rcases hs' with rfl | rfl
    all_goals
      go_enter Try.func33, Try.ntmps33
      go_wp2_with (first | ((with_reducible refine (leads_1 _).mono ?_); rintro e w' ⟨rfl, rfl⟩) | ((with_reducible refine (leads_2 _).mono ?_); rintro e w' ⟨rfl, rfl⟩) | ((with_reducible refine C.out.mono ?_); rintro e w' ⟨rfl, rfl⟩))
      go_returns
      exact ⟨rfl, rfl⟩
theorem getrow_short (A : Option Addr) (n c : Nat) (i s : Int) (w : World) (hn : n ≤ c) (hc : n ≤ 281474976710656) (hs : s = 1 ∨ s = 2) (h1 : 0 ≤ i) (h2 : i ≤ n) (h4 : (n : Int) - i < s) :
    Calls Try.prog 33 #[.slice A n c, .int .i64 i, .int .i64 s] w fun e w' => e = .returned (.tuple #[.slice none 0 0, .int .i64 0, .int .i64 4]) ∧ w = w' := by
  have C := Lib.hid (get_short A n c i s w hn hc (by omega) h1 h2 h4)
  rcases hs with rfl | rfl
  all_goals
    go_enter Try.func33, Try.ntmps33
    go_wp2_with (first | ((with_reducible refine (leads_1 _).mono ?_); rintro e w' ⟨rfl, rfl⟩) | ((with_reducible refine (leads_2 _).mono ?_); rintro e w' ⟨rfl, rfl⟩) | ((with_reducible refine C.out.mono ?_); rintro e w' ⟨rfl, rfl⟩))
    go_returns
    exact ⟨rfl, rfl⟩
theorem num_2 (l : List Int) (i s : Nat) (hr : rng l) (hs : s = 1 ∨ s = 2) : ∃ m : Nat, num ((l.drop i).take s) = m ∧ m ≤ 65535 := by
  have h := num_bd ((l.drop i).take s) (rng_take (rng_drop hr i) s)
  have hl : ((l.drop i).take s).length = 0 ∨ ((l.drop i).take s).length = 1 ∨ ((l.drop i).take s).length = 2 := by rw [List.length_take]; omega
  refine ⟨(num ((l.drop i).take s)).toNat, by omega, ?_⟩
  rcases hl with e | e | e <;> rw [e] at h <;> omega
theorem ret_row {A : Option Addr} {n c : Nat} {a b : Int} {x : Value} (h : a = b) : Ending.returned (.tuple #[.slice A n c, .int .i64 a, x]) = .returned (.tuple #[.slice A n c, .int .i64 b, x]) := by rw [h]
theorem getrow_less (A : Option Addr) (n c B i s m : Nat) (l : List Int) (w : World) (hn : n ≤ c) (hc : n ≤ 281474976710656) (hr : Rd w B A n l) (hs : s = 1 ∨ s = 2) (h : i + s ≤ n) (hm : num ((l.drop i).take s) = m) (hm2 : m ≤ 65535) (h4 : n < i + s + m) :
    Calls Try.prog 33 #[.slice A n c, .int .i64 i, .int .i64 s] w fun e w' => e = .returned (.tuple #[.slice none 0 0, .int .i64 0, .int .i64 4]) ∧ w = w' := by
  have c0 := get_ok A n c B i s l w hn hc hr (by omega) h
  rw [hm] at c0
  have C := Lib.hid c0
  have D := Lib.hid (part_short A n c ((i : Int) + (s : Int)) (m : Int) w hn hc (by omega) (by omega) (by omega) (by omega))
  clear c0 hr hm
  rcases hs with rfl | rfl
  all_goals
    go_enter Try.func33, Try.ntmps33
    go_wp2_with (first | ((with_reducible refine (leads_1 _).mono ?_); rintro e w' ⟨rfl, rfl⟩) | ((with_reducible refine (leads_2 _).mono ?_); rintro e w' ⟨rfl, rfl⟩) | ((refine C.out.mono ?_); rintro e w' ⟨rfl, rfl⟩) | ((refine D.out.mono ?_); rintro e w' ⟨rfl, rfl⟩))
    go_returns
    exact ⟨rfl, rfl⟩
theorem getrow_ok (A : Option Addr) (n c B i s m : Nat) (l : List Int) (w : World) (hn : n ≤ c) (hn2 : n ≤ 140737488355328) (hc : n ≤ 281474976710656) (hr : Rd w B A n l) (hB : B ≤ w.heap.size) (hs : s = 1 ∨ s = 2) (hm : num ((l.drop i).take s) = m) (hm2 : m ≤ 65535) (h : i + s + m ≤ n) :
    Calls Try.prog 33 #[.slice A n c, .int .i64 i, .int .i64 s] w fun e w' => ∃ A' c', e = .returned (.tuple #[.slice A' m c', .int .i64 ((i : Int) + (s : Int) + (m : Int)), .int .i64 0]) ∧ OB w' w.heap.size A' m c' ((l.drop (i + s)).take m) ∧ Below w.heap.size w w' := by
  have c0 := get_ok A n c B i s l w hn hc hr (by omega) (by omega)
  rw [hm] at c0
  have C := Lib.hid c0
  have d0 := part_ok A n c B (i + s) m l w hn hn2 hc hr hB (by omega)
  rw [Int.natCast_add] at d0
  have D := Lib.hid d0
  clear c0 d0 hr hm
  rcases hs with rfl | rfl
  all_goals
    go_enter Try.func33, Try.ntmps33
    go_wp2_with (first | ((with_reducible refine (leads_1 _).mono ?_); rintro e w' ⟨rfl, rfl⟩) | ((with_reducible refine (leads_2 _).mono ?_); rintro e w' ⟨rfl, rfl⟩) | ((refine C.out.mono ?_); rintro e w' ⟨rfl, rfl⟩) | ((refine D.out.mono ?_); rintro e w' ⟨A2, c2, rfl, ho, hb⟩))
    go_returns
    exact ⟨A2, c2, ret_row (by omega), ho, hb⟩
theorem refgetrow_arg (A : Option Addr) (n c : Nat) (i s : Int) (w : World) (hn : n ≤ c) (hc : n ≤ 281474976710656) (h : (¬ s = 1 ∧ ¬ s = 2) ∨ i < 0 ∨ (n : Int) < i) :
    Calls Try.prog 34 #[.slice A n c, .int .i64 i, .int .i64 s] w fun e w' => e = .returned (.tuple #[.slice none 0 0, .int .i64 0, .int .i64 2]) ∧ w = w' := by
  by_cases hs : ¬ s = 1 ∧ ¬ s = 2
  · obtain ⟨a, b⟩ := hs
    have q1 : (s != 1) = true := by simpa using a
    have q2 : (s != 2) = true := by simpa using b
    clear h
    go_enter Try.func34, Try.ntmps34
    go_wp2
    go_returns
    exact ⟨rfl, rfl⟩
  · have h' : i < 0 ∨ (n : Int) < i := by
      rcases h with h | h
      · exact absurd h hs
      · exact h
    have C := Lib.hid (refget_arg A n c i s w hn hc (.inr h'))
    have hs' : s = 1 ∨ s = 2 := by omega
    clear h h' hs
    rcases hs' with rfl | rfl
    all_goals
      go_enter Try.func34, Try.ntmps34
      go_wp2_with ((with_reducible refine C.out.mono ?_); rintro e w' ⟨rfl, rfl⟩)
      go_returns
      exact ⟨rfl, rfl⟩
theorem refgetrow_short (A : Option Addr) (n c : Nat) (i s : Int) (w : World) (hn : n ≤ c) (hc : n ≤ 281474976710656) (hs : s = 1 ∨ s = 2) (h1 : 0 ≤ i) (h2 : i ≤ n) (h4 : (n : Int) - i < s) :
    Calls Try.prog 34 #[.slice A n c, .int .i64 i, .int .i64 s] w fun e w' => e = .returned (.tuple #[.slice none 0 0, .int .i64 0, .int .i64 4]) ∧ w = w' := by
  have C := Lib.hid (refget_short A n c i s w hn hc (by omega) h1 h2 h4)
  rcases hs with rfl | rfl
  all_goals
    go_enter Try.func34, Try.ntmps34
    go_wp2_with ((with_reducible refine C.out.mono ?_); rintro e w' ⟨rfl, rfl⟩)
    go_returns
    exact ⟨rfl, rfl⟩
theorem refgetrow_less (A : Option Addr) (n c B i s m : Nat) (l : List Int) (w : World) (hn : n ≤ c) (hc : n ≤ 281474976710656) (hr : Rd w B A n l) (hs : s = 1 ∨ s = 2) (h : i + s ≤ n) (hm : num ((l.drop i).take s) = m) (hm2 : m ≤ 65535) (h4 : n < i + s + m) :
    Calls Try.prog 34 #[.slice A n c, .int .i64 i, .int .i64 s] w fun e w' => e = .returned (.tuple #[.slice none 0 0, .int .i64 0, .int .i64 4]) ∧ w = w' := by
  have c0 := refget_ok A n c B i s l w hn hc hr (by omega) h
  rw [hm] at c0
  have C := Lib.hid c0
  have D := Lib.hid (refpart_short A n c ((i : Int) + (s : Int)) (m : Int) w hn hc (by omega) (by omega) (by omega) (by omega))
  clear c0 hr hm
  rcases hs with rfl | rfl
  all_goals
    go_enter Try.func34, Try.ntmps34
    go_wp2_with (first | ((refine C.out.mono ?_); rintro e w' ⟨rfl, rfl⟩) | ((refine D.out.mono ?_); rintro e w' ⟨rfl, rfl⟩))
    go_returns
    exact ⟨rfl, rfl⟩
theorem refgetrow_ok (A : Option Addr) (n c B i s m : Nat) (l : List Int) (w : World) (hn : n ≤ c) (hn2 : n ≤ 140737488355328) (hc : n ≤ 281474976710656) (hr : Rd w B A n l) (hB : B ≤ w.heap.size) (hs : s = 1 ∨ s = 2) (hm : num ((l.drop i).take s) = m) (hm2 : m ≤ 65535) (h : i + s + m ≤ n) :
    Calls Try.prog 34 #[.slice A n c, .int .i64 i, .int .i64 s] w fun e w' => ∃ A' c', e = .returned (.tuple #[.slice A' m c', .int .i64 ((i : Int) + (s : Int) + (m : Int)), .int .i64 0]) ∧ OB w' w.heap.size A' m c' ((l.drop (i + s)).take m) ∧ Below w.heap.size w w' := by
  have c0 := refget_ok A n c B i s l w hn hc hr (by omega) (by omega)
  rw [hm] at c0
  have C := Lib.hid c0
  have d0 := refpart_ok A n c B (i + s) m l w hn hn2 hc hr hB (by omega)
  rw [Int.natCast_add] at d0
  have D := Lib.hid d0
  clear c0 d0 hr hm
  rcases hs with rfl | rfl
  all_goals
    go_enter Try.func34, Try.ntmps34
    go_wp2_with (first | ((refine C.out.mono ?_); rintro e w' ⟨rfl, rfl⟩) | ((refine D.out.mono ?_); rintro e w' ⟨A2, c2, rfl, ho, hb⟩))
    go_returns
    exact ⟨A2, c2, ret_row (by omega), ho, hb⟩
end Go.Proofs.Ytojekhalpedfhaa
