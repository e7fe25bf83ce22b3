import Derived.Test.YtolifmpkillglaaGreatDoorDd
set_option linter.unusedVariables false
set_option maxRecDepth 100000
namespace Go.Proofs.YtolifmpkillglaaGreatDoor
open Go.RowKit
/-! Parts in new memory. -/
theorem eq_nil (w : World) (A : Option Addr) (n c : Nat) : (binOp .eql 30 (.slice A n c) (.slice none 0 0)).run Tryz.prog w = .ok (.bool A.isNone) w := Lib.run_eql_slice_nil w _ _ A n c _ _ Tryz.underlying30
theorem ob_empty (w : World) : OB (w.alloc (.cells #[] 5)) w.heap.size (some ⟨w.heap.size, 0, none⟩) 0 0 [] := lit_ob w [] 0 rfl (by simp [maxLen]) rng_nil
theorem clone_any (A : Option Addr) (n c B : Nat) (l : List Int) (w : World) (hn : n ≤ 140737488355328) (hr : Rd w B A n l) (hB : B ≤ w.heap.size) :
    Calls Tryz.prog 66 #[.slice A n c] w fun e w' => ∃ A' c', e = .returned (.slice A' n c') ∧ OB w' w.heap.size A' n c' l ∧ Below w.heap.size w w' := by
  cases A with
  | none =>
    have h0 : n = 0 := by
      by_cases h : n = 0
      · exact h
      · obtain ⟨b, o, e, _⟩ := hr.2.2 (by omega)
        cases e
    subst h0
    obtain rfl := hr.zero
    have q := fun w => eq_nil w none 0 c
    clear hr
    go_enter Tryz.func66, Tryz.ntmps66
    go_wp2
    go_returns
    exact ⟨none, 0, rfl, OB.nil_, Below.refl _ _⟩
  | some a =>
    have q := fun w => eq_nil w (some a) n c
    have hr1 := hr.below ((Below.refl _ _).alloc hB (.cells #[] 5)) (Nat.le_refl _)
    have H := Lib.hid hr1
    clear hr hr1
    go_enter Tryz.func66, Tryz.ntmps66
    go_wp2_with (at_builtin; refine wpList_app rfl _ _ rfl w.heap.size (some ⟨w.heap.size, 0, none⟩) 0 0 [] rfl (ob_empty w) B (some a) n c l rfl H.out n (by omega) l (by simp) (by omega) (by simp) ?_; intro A2 c2 w2 ho2 hb2)
    go_returns
    exact ⟨A2, c2, rfl, ho2, ((Below.refl _ _).alloc (Nat.le_refl _) _).trans hb2⟩
theorem part_arg (A : Option Addr) (n c : Nat) (i m : Int) (w : World) (hn : n ≤ c) (hc : n ≤ 281474976710656) (h : i < 0 ∨ (n : Int) < i ∨ m < 0) :
    Calls Tryz.prog 56 #[.slice A n c, .int .i64 i, .int .i64 m] w fun e w' => e = .returned (.tuple #[.slice none 0 0, .int .i64 2]) ∧ w = w' := by
  have C := Lib.hid (cut_arg A n c i m w hn hc h)
  clear h
  go_enter Tryz.func56, Tryz.ntmps56
  go_wp2_with ((with_reducible refine (C.out).mono ?_); rintro e w' ⟨rfl, rfl⟩)
  go_returns
  exact ⟨rfl, rfl⟩
theorem part_short (A : Option Addr) (n c : Nat) (i m : Int) (w : World) (hn : n ≤ c) (hc : n ≤ 281474976710656) (h1 : 0 ≤ i) (h2 : i ≤ n) (h3 : 0 ≤ m) (h4 : (n : Int) - i < m) :
    Calls Tryz.prog 56 #[.slice A n c, .int .i64 i, .int .i64 m] w fun e w' => e = .returned (.tuple #[.slice none 0 0, .int .i64 4]) ∧ w = w' := by
  have C := Lib.hid (cut_short A n c i m w hn hc h1 h2 h3 h4)
  go_enter Tryz.func56, Tryz.ntmps56
  go_wp2_with ((with_reducible refine (C.out).mono ?_); rintro e w' ⟨rfl, rfl⟩)
  go_returns
  exact ⟨rfl, rfl⟩
theorem part_ok (A : Option Addr) (n c B i m : Nat) (l : List Int) (w : World) (hn : n ≤ c) (hn2 : n ≤ 140737488355328) (hc : n ≤ 281474976710656) (hr : Rd w B A n l) (hB : B ≤ w.heap.size) (h : i + m ≤ n) :
    Calls Tryz.prog 56 #[.slice A n c, .int .i64 i, .int .i64 m] w fun e w' => ∃ A' c', e = .returned (.tuple #[.slice A' m c', .int .i64 0]) ∧ OB w' w.heap.size A' m c' ((l.drop i).take m) ∧ Below w.heap.size w w' := by
  have C := Lib.hid (cut_ok A n c i m w hn hc h)
  have D := fun A' (hA : 0 < m → A' = A.map (·.add i)) => clone_any A' m m B ((l.drop i).take m) w (by omega) (hr.cut h hA) hB
  have K := Lib.hid D
  clear D hr
  go_enter Tryz.func56, Tryz.ntmps56
  go_wp2_with (first | ((with_reducible refine (C.out).mono ?_); rintro e w' ⟨A', rfl, hA, rfl⟩; have HA := Lib.hid hA; clear hA) | ((with_reducible refine (K.out A' HA.out).mono ?_); rintro e w' ⟨A2, c2, rfl, ho, hb⟩))
  go_returns
  exact ⟨A2, c2, rfl, ho, hb⟩
def cutA (A : Option Addr) (c i : Nat) : Option Addr := if c = i then A else A.map (·.add i)
theorem run_cut2 (w : World) (A : Option Addr) (n c i m : Nat) (h : i + m ≤ c) : (Instr.slice 30 (.slice A n c) (some (.int .i64 (i : Int))) (some (.int .i64 ((i : Int) + (m : Int)))) none).run Tryz.prog w = .ok (.slice (cutA A c i) m (c - i)) w := by
  have ht := Tryz.underlying30
  obtain ⟨i0, hi, hz0, hz1, hz2⟩ := info_parts u8_info
  have he : Tryz.prog.elem 30 = 5 := by simp [Program.elem, ht]
  have ht' : Tryz.prog.underlying 30 = some (.slice (Tryz.prog.elem 30)) := by rw [he]; exact ht
  rw [run_slice_lh w 30 A n c ht' .i64 .i64 _ _ (by omega) (by omega) (by omega), he]
  simp [sizeOf, typeInfo, hi, hz1, sliced, cutA]
  omega
end Go.Proofs.YtolifmpkillglaaGreatDoor
