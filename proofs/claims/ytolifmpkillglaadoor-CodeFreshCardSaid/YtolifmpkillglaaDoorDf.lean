import Derived.Test.YtolifmpkillglaaDoorDe
set_option linter.unusedVariables false
set_option maxRecDepth 100000
namespace Go.Proofs.YtolifmpkillglaaDoor
open Go.RowKit
/-! Rows. -/
theorem mk_0 (k : Nat) (C : Int) (hC : C = (k : Int)) (hk : k ≤ 140737488355328) (w : World) : (Instr.makeSlice 22 (.int .i64 0) (.int .i64 C)).run Tryd.prog w = .ok (.slice (some ⟨w.heap.size, 0, none⟩) 0 k) (w.alloc (.cells (BL (List.replicate k 0)) 5)) := by
  obtain ⟨i0, hi, hz0, hz1, hz2⟩ := info_parts u8_info
  subst hC
  rw [run_make w _ _ i0 _ Tryd.underlying22 hi hz0 .i64 .i64 0 k (by omega) (by omega) (by rw [hz2]; omega) (by omega)]
  have e : madeCells (Value.cells (.int .u8 0)) ((k : Int).toNat * i0.size) = BL (List.replicate k 0) := by
    rw [hz1, Int.toNat_natCast, Nat.mul_one]
    apply Array.ext
    · simp [madeCells, BL]
    · intro i h1 h2
      simp [madeCells, BL, Value.cells, Nat.mod_one]
  rw [e]
  simp
theorem rng_rep (k : Nat) : rng (List.replicate k 0) := fun x hx => by obtain ⟨_, rfl⟩ := List.mem_replicate.1 hx; exact ⟨by decide, by decide⟩
theorem ob_room (w : World) (k : Nat) (hk : k ≤ maxLen) : OB (w.alloc (.cells (BL (List.replicate k 0)) 5)) w.heap.size (some ⟨w.heap.size, 0, none⟩) 0 k [] := by
  have h := OB.row (w := w.alloc (.cells (BL (List.replicate k 0)) 5)) (base := w.heap.size) (g := w.heap.size) (n := 0) (c := k) (Nat.le_refl _) (heap_alloc_new w _) (by simp) (Nat.zero_le _) hk (rng_rep k)
  simpa using h
end Go.Proofs.YtolifmpkillglaaDoor
