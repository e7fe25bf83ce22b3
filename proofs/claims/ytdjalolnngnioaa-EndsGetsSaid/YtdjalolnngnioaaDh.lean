import Derived.Test.YtdjalolnngnioaaDg
set_option linter.unusedVariables false
namespace Go.Proofs.Ytdjalolnngnioaa
open Go.RowKit
/-! The layer lives. -/
theorem Rd.alloc {w : World} {B n : Nat} {A : Option Addr} {l : List Int} (h : Rd w B A n l) (hB : B ≤ w.heap.size) (o : Obj) : Rd (w.alloc o) B A n l := h.below ((Below.refl _ _).alloc (Nat.le_refl _) o) hB
theorem OB.alloc {w : World} {base n c : Nat} {A : Option Addr} {l : List Int} (h : OB w base A n c l) (o : Obj) : OB (w.alloc o) base A n c l := h.below ((Below.refl _ _).alloc (Nat.le_refl _) o)
theorem rd_lit (w : World) (zs : List Int) (n : Nat) (hn : zs.length = n) (hm : n ≤ maxLen) (hr : rng zs) : Rd (w.alloc (.cells (BL zs) 5)) (w.heap.size + 1) (some ⟨w.heap.size, 0, none⟩) n zs := by
  have h := (lit_ob w zs n hn hm hr).rd
  simpa using h
theorem rng_lit {l : List Int} (h : l.all (fun x => decide (0 ≤ x ∧ x < 256)) = true) : rng l := fun x hx => by simpa using List.all_eq_true.1 h x hx
theorem rd1 (w : World) : Rd (w.alloc (.cells #[.int .u8 97] 5)) (w.heap.size + 1) (some ⟨w.heap.size, 0, none⟩) 1 [97] := rd_lit w [97] 1 rfl (by simp [maxLen]) (rng_lit rfl)
theorem rd2 (w : World) : Rd (w.alloc (.cells #[.int .u8 2, .int .u8 97] 5)) (w.heap.size + 1) (some ⟨w.heap.size, 0, none⟩) 2 [2, 97] := rd_lit w [2, 97] 2 rfl (by simp [maxLen]) (rng_lit rfl)
theorem rd3 (w : World) (G : Nat) (hG : G = w.heap.size) : Rd (w.alloc (.cells #[.int .u8 1, .int .u8 2] 5)) (w.heap.size + 1) (some ⟨G, 0, none⟩) 2 [1, 2] := by subst hG; exact rd_lit w [1, 2] 2 rfl (by simp [maxLen]) (rng_lit rfl)
theorem rd4 (w : World) (G : Nat) (hG : G = w.heap.size) : Rd (w.alloc (.cells #[.int .u8 0, .int .u8 1, .int .u8 97] 5)) (w.heap.size + 1) (some ⟨G, 0, none⟩) 3 [0, 1, 97] := by subst hG; exact rd_lit w [0, 1, 97] 3 rfl (by simp [maxLen]) (rng_lit rfl)
theorem lives_any (w : World) : Calls Try.prog 12 #[] w fun e w' => e = .returned (.bool true) ∧ Below w.heap.size w w' := by
  have p1 := fun w => put_ok 258 2 w (by omega) (by unfold okN; omega)
  rw [show dig 258 2 = [1, 2] from by decide] at p1
  have P1 := Lib.hid p1
  have p2 := fun A c w (hr : Rd w w.heap.size A 2 [1, 2]) (hc : 2 ≤ c) => get_ok A 2 c _ 0 2 [1, 2] w hc (by omega) hr (by omega) (by omega)
  rw [show num (([1, 2].drop 0).take 2) = 258 from by decide] at p2
  have P2 := Lib.hid p2
  have p3 := fun A c B w (hr : Rd w B A 1 [97]) (hB : B ≤ w.heap.size) => putrow_ok A 1 c B 2 [97] w hr hB (by omega)
  rw [show dig (1 : Nat) 2 ++ [97] = [0, 1, 97] from by decide] at p3
  have P3 := Lib.hid p3
  have p4 := fun A c B w (hr : Rd w B A 2 [2, 97]) (hc : 2 ≤ c) => getrow_less A 2 c B 0 1 2 [2, 97] w hc (by omega) hr (by omega) (by omega) (by decide) (by omega) (by omega)
  have P4 := Lib.hid p4
  clear p1 p2 p3 p4
  go_enter Try.func12, Try.ntmps12
  go_wp2_with (first
    | (go_at_call 9; (refine (P1.out _).mono ?_); rintro e w1 ⟨A1, c1, rfl, ho1, hb1⟩)
    | (go_at_call 14; (refine (P2.out A1 c1 _ ho1.rd ho1.le).mono ?_); rintro e w1' ⟨rfl, rfl⟩)
    | (go_at_call 19; (refine (P3.out _ _ _ _ (rd1 w1) (by simp)).mono ?_); rintro e w3 ⟨A3, c3, rfl, ho3, hb3⟩)
    | (go_at_call 21; (refine (P4.out _ _ _ _ (rd2 w3) (by omega)).mono ?_); rintro e w4 ⟨rfl, rfl⟩; have R1 := (ho1.rd.alloc (Nat.le_refl _) _).below hb3 (by simp); have z3 : w1.heap.size ≤ w3.heap.size := Nat.le_trans (by simp) hb3.size))
  have S5 := same_yes A1 (some ⟨w3.heap.size + 1, 0, none⟩) 2 c1 2 w1.heap.size _ [1, 2] ((w3.alloc (.cells #[.int .u8 2, .int .u8 97] 5)).alloc (.cells #[.int .u8 1, .int .u8 2] 5)) (by omega) ((R1.alloc z3 _).alloc (by simp; omega) _) (rd3 _ (w3.heap.size + 1) (by simp))
  refine S5.mono ?_
  rintro e w5 ⟨rfl, q5, rfl⟩
  clear S5
  go_wp2_with fail
  have S6 := same_yes A3 (some ⟨w3.heap.size + 1 + 1, 0, none⟩) 3 c3 3 w3.heap.size _ [0, 1, 97] ((((w3.alloc (.cells #[.int .u8 2, .int .u8 97] 5)).alloc (.cells #[.int .u8 1, .int .u8 2] 5)).drewN q5).alloc (.cells #[.int .u8 0, .int .u8 1, .int .u8 97] 5)) (by omega)
    ((((ho3.rd.alloc (Nat.le_refl _) _).alloc (by simp) _).drewN q5).alloc (by simp; omega) _) (rd4 _ (w3.heap.size + 1 + 1) (by simp))
  refine S6.mono ?_
  rintro e w6 ⟨rfl, q6, rfl⟩
  clear S6
  go_wp2_with fail
  go_returns
  have B3 : Below w.heap.size w w3 := (hb1.alloc hb1.size _).trans (hb3.mono (Nat.le_trans hb1.size (by simp)))
  refine ⟨rfl, below_drewN ?_ _⟩
  refine Below.alloc (below_drewN ((B3.alloc B3.size _).alloc ?_ _) _) ?_ _
  · have := B3.size; simp; omega
  · have := B3.size; simp; omega
end Go.Proofs.Ytdjalolnngnioaa
