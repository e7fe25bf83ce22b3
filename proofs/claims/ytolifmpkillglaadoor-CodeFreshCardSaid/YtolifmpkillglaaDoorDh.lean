import Derived.Test.YtolifmpkillglaaDoorDg
set_option linter.unusedVariables false
set_option maxRecDepth 100000
namespace Go.Proofs.YtolifmpkillglaaDoor
open Go.RowKit
/-! The layer lives. -/
theorem Rd.alloc {w : World} {B n : Nat} {A : Option Addr} {l : List Int} (h : Rd w B A n l) (hB : B ≤ w.heap.size) (o : Obj) : Rd (w.alloc o) B A n l := h.below ((Below.refl _ _).alloc (Nat.le_refl _) o) hB
theorem OB.alloc {w : World} {base n c : Nat} {A : Option Addr} {l : List Int} (h : OB w base A n c l) (o : Obj) : OB (w.alloc o) base A n c l := h.below ((Below.refl _ _).alloc (Nat.le_refl _) o)
theorem rd_lit (w : World) (zs : List Int) (n : Nat) (hn : zs.length = n) (hm : n ≤ maxLen) (hr : rng zs) : Rd (w.alloc (.cells (BL zs) 5)) (w.heap.size + 1) (some ⟨w.heap.size, 0, none⟩) n zs := by
  have h := (lit_ob w zs n hn hm hr).rd
  simpa using h
theorem rng_lit {l : List Int} (h : l.all (fun x => decide (0 ≤ x ∧ x < 256)) = true) : rng l := fun x hx => by simpa using List.all_eq_true.1 h x hx
theorem rd1 (w : World) : Rd (w.alloc (.cells #[.int .u8 97] 5)) (w.heap.size + 1) (some ⟨w.heap.size, 0, none⟩) 1 [97] := rd_lit w [97] 1 rfl (by simp [maxLen]) (rng_lit rfl)
theorem rd2 (w : World) : Rd (w.alloc (.cells #[.int .u8 2, .int .u8 97] 5)) (w.heap.size + 1) (some ⟨w.heap.size, 0, none⟩) 2 [2, 97] := rd_lit w [2, 97] 2 rfl (by simp [maxLen]) (rng_lit rfl)
theorem rd3 (w : World) (G : Nat) (hG : G = w.heap.size) : Rd (w.alloc (.cells #[.int .u8 1, .int .u8 2] 5)) (w.heap.size + 1) (some ⟨G, 0, none⟩) 2 [1, 2] := by subst hG; exact rd_lit w [1, 2] 2 rfl (by simp [maxLen]) (rng_lit rfl)
theorem rd4 (w : World) (G : Nat) (hG : G = w.heap.size) : Rd (w.alloc (.cells #[.int .u8 0, .int .u8 1, .int .u8 97] 5)) (w.heap.size + 1) (some ⟨G, 0, none⟩) 3 [0, 1, 97] := by subst hG; exact rd_lit w [0, 1, 97] 3 rfl (by simp [maxLen]) (rng_lit rfl)
end Go.Proofs.YtolifmpkillglaaDoor
