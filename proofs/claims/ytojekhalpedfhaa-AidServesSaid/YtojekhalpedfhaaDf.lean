import Derived.Test.YtojekhalpedfhaaDe
set_option linter.unusedVariables false
namespace Go.Proofs.Ytojekhalpedfhaa
open Go.RowKit
/-! Rows. -/
theorem mk_0 (k : Nat) (C : Int) (hC : C = (k : Int)) (hk : k ≤ 140737488355328) (w : World) : (Instr.makeSlice 22 (.int .i64 0) (.int .i64 C)).run Try.prog w = .ok (.slice (some ⟨w.heap.size, 0, none⟩) 0 k) (w.alloc (.cells (BL (List.replicate k 0)) 5)) := by
  obtain ⟨i0, hi, hz0, hz1, hz2⟩ := info_parts u8_info
  subst hC
  rw [run_make w _ _ i0 _ Try.underlying22 hi hz0 .i64 .i64 0 k (by omega) (by omega) (by rw [hz2]; omega) (by omega)]
  have e : madeCells (Value.cells (.int .u8 0)) ((k : Int).toNat * i0.size) = BL (List.replicate k 0) := by
    rw [hz1, Int.toNat_natCast, Nat.mul_one]
    apply Array.ext
    · simp [madeCells, BL]
    · intro i h1 h2
      simp [madeCells, BL, Value.cells, Nat.mod_one]
  rw [e]
  simp
theorem rng_rep (k : Nat) : rng (List.replicate k 0) := fun x hx => by obtain ⟨_, rfl⟩ := List.mem_replicate.1 hx; exact ⟨by decide, by decide⟩
theorem ob_room (w : World) (k : Nat) (hk : k ≤ maxLen) : OB (w.alloc (.cells (BL (List.replicate k 0)) 5)) w.heap.size (some ⟨w.heap.size, 0, none⟩) 0 k [] := by
  have h := OB.row (w := w.alloc (.cells (BL (List.replicate k 0)) 5)) (base := w.heap.size) (g := w.heap.size) (n := 0) (c := k) (Nat.le_refl _) (heap_alloc_new w _) (by simp) (Nat.zero_le _) hk (rng_rep k)
  simpa using h
theorem putrow_arg (A : Option Addr) (n c : Nat) (s : Int) (w : World) (a : ¬ s = 1) (b : ¬ s = 2) :
    Calls Try.prog 31 #[.slice A n c, .int .i64 s] w fun e w' => e = .returned (.tuple #[.slice none 0 0, .int .i64 2]) ∧ w = w' := by
  go_enter Try.func31, Try.ntmps31
  go_wp2_with ((with_reducible refine (leads_no _ _ a b).mono ?_); rintro e w' ⟨rfl, rfl⟩)
  go_returns
  exact ⟨rfl, rfl⟩
theorem putrow_limit (A : Option Addr) (n c : Nat) (s : Int) (w : World) (hc : n ≤ 281474976710656) (h : (s = 1 ∧ 255 < n) ∨ (s = 2 ∧ 65535 < n)) :
    Calls Try.prog 31 #[.slice A n c, .int .i64 s] w fun e w' => e = .returned (.tuple #[.slice none 0 0, .int .i64 3]) ∧ w = w' := by
  rcases h with ⟨rfl, h⟩ | ⟨rfl, h⟩
  · have h' : (255 : Int) < n := by omega
    go_enter Try.func31, Try.ntmps31
    go_wp2_with (first | ((with_reducible refine (leads_1 _).mono ?_); rintro e w' ⟨rfl, rfl⟩) | ((with_reducible refine (greatest_1 _).mono ?_); rintro e w' ⟨rfl, rfl⟩))
    go_returns
    exact ⟨rfl, rfl⟩
  · have h' : (65535 : Int) < n := by omega
    go_enter Try.func31, Try.ntmps31
    go_wp2_with (first | ((with_reducible refine (leads_2 _).mono ?_); rintro e w' ⟨rfl, rfl⟩) | ((with_reducible refine (greatest_2 _).mono ?_); rintro e w' ⟨rfl, rfl⟩))
    go_returns
    exact ⟨rfl, rfl⟩
theorem putrow_ok (A : Option Addr) (n c B s : Nat) (l : List Int) (w : World) (hr : Rd w B A n l) (hB : B ≤ w.heap.size) (h : (s = 1 ∧ n ≤ 255) ∨ (s = 2 ∧ n ≤ 65535)) :
    Calls Try.prog 31 #[.slice A n c, .int .i64 s] w fun e w' => ∃ A' c', e = .returned (.tuple #[.slice A' (s + n) c', .int .i64 0]) ∧ OB w' w.heap.size A' (s + n) c' (dig n s ++ l) ∧ Below w.heap.size w w' := by
  have hb0 : Below w.heap.size w (w.alloc (.cells (BL (List.replicate (s + n) 0)) 5)) := (Below.refl _ _).alloc (Nat.le_refl _) _
  have c0 := appnum_any w.heap.size _ 0 _ [] n s _ (ob_room w (s + n) (by unfold maxLen; omega)) (by simp) (by omega) (by omega) (by omega) (by omega)
  simp only [Nat.zero_add, List.nil_append] at c0
  have C0 := Lib.hid c0
  have HR := Lib.hid hr
  clear c0 hr
  rcases h with ⟨rfl, h⟩ | ⟨rfl, h⟩
  · have h1 : 0 ≤ (n : Int) := by omega
    have h2 : (n : Int) ≤ 255 := by omega
    have hmk := fun w => mk_0 (1 + n) (1 + (n : Int)) (by omega) (by omega) w
    go_enter Try.func31, Try.ntmps31
    go_wp2_with (first
      | ((with_reducible refine (leads_1 _).mono ?_); rintro e w' ⟨rfl, rfl⟩)
      | ((with_reducible refine (greatest_1 _).mono ?_); rintro e w' ⟨rfl, rfl⟩)
      | ((refine C0.out.mono ?_); rintro e w1 ⟨A1, c1, rfl, ho, hb⟩)
      | (at_builtin; refine wpList_app rfl _ _ rfl w.heap.size A1 _ c1 _ rfl ho B A n c l rfl (HR.out.below (hb0.trans hb) hB) _ rfl _ rfl (by omega) (hb0.trans hb).size ?_; intro A2 c2 w2 ho2 hb2))
    go_returns
    exact ⟨A2, c2, rfl, ho2, (hb0.trans hb).trans hb2⟩
  · have h1 : 0 ≤ (n : Int) := by omega
    have h2 : (n : Int) ≤ 65535 := by omega
    have hmk := fun w => mk_0 (2 + n) (2 + (n : Int)) (by omega) (by omega) w
    go_enter Try.func31, Try.ntmps31
    go_wp2_with (first
      | ((with_reducible refine (leads_2 _).mono ?_); rintro e w' ⟨rfl, rfl⟩)
      | ((with_reducible refine (greatest_2 _).mono ?_); rintro e w' ⟨rfl, rfl⟩)
      | ((refine C0.out.mono ?_); rintro e w1 ⟨A1, c1, rfl, ho, hb⟩)
      | (at_builtin; refine wpList_app rfl _ _ rfl w.heap.size A1 _ c1 _ rfl ho B A n c l rfl (HR.out.below (hb0.trans hb) hB) _ rfl _ rfl (by omega) (hb0.trans hb).size ?_; intro A2 c2 w2 ho2 hb2))
    go_returns
    exact ⟨A2, c2, rfl, ho2, (hb0.trans hb).trans hb2⟩
end Go.Proofs.Ytojekhalpedfhaa
