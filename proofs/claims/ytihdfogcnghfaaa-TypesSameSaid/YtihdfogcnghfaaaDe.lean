import Derived.Test.YtihdfogcnghfaaaDd
set_option linter.unusedVariables false
namespace Go.Proofs.Ytihdfogcnghfaaa
open Go.RowKit
/-! Parts in new memory. -/
theorem eq_nil (w : World) (A : Option Addr) (n c : Nat) : (binOp .eql 29 (.slice A n c) (.slice none 0 0)).run Try.prog w = .ok (.bool A.isNone) w := Lib.run_eql_slice_nil w _ _ A n c _ _ Try.underlying29
theorem ob_empty (w : World) : OB (w.alloc (.cells #[] 5)) w.heap.size (some ⟨w.heap.size, 0, none⟩) 0 0 [] := lit_ob w [] 0 rfl (by simp [maxLen]) rng_nil
def cutA (A : Option Addr) (c i : Nat) : Option Addr := if c = i then A else A.map (·.add i)
theorem run_cut2 (w : World) (A : Option Addr) (n c i m : Nat) (h : i + m ≤ c) : (Instr.slice 29 (.slice A n c) (some (.int .i64 (i : Int))) (some (.int .i64 ((i : Int) + (m : Int)))) none).run Try.prog w = .ok (.slice (cutA A c i) m (c - i)) w := by
  have ht := Try.underlying29
  obtain ⟨i0, hi, hz0, hz1, hz2⟩ := info_parts u8_info
  have he : Try.prog.elem 29 = 5 := by simp [Program.elem, ht]
  have ht' : Try.prog.underlying 29 = some (.slice (Try.prog.elem 29)) := by rw [he]; exact ht
  rw [run_slice_lh w 29 A n c ht' .i64 .i64 _ _ (by omega) (by omega) (by omega), he]
  simp [sizeOf, typeInfo, hi, hz1, sliced, cutA]
  omega
theorem copy_any (A : Option Addr) (n c B : Nat) (l : List Int) (w : World) (hn : n ≤ 140737488355328) (hr : Rd w B A n l) (hB : B ≤ w.heap.size) :
    Calls Try.prog 27 #[.slice A n c] w fun e w' => ∃ A' c', e = .returned (.slice A' n c') ∧ OB w' w.heap.size A' n c' l ∧ Below w.heap.size w w' := by
  have H := Lib.hid hr
  clear hr
  go_enter Try.func27, Try.ntmps27
  go_wp2_with (at_builtin; refine wpList_app rfl _ _ rfl w.heap.size none 0 0 [] rfl OB.nil_ B A n c l rfl H.out n (by omega) l (by simp) (by omega) (Nat.le_refl _) ?_; intro A2 c2 w2 ho2 hb2)
  go_returns
  exact ⟨A2, c2, rfl, ho2, hb2⟩
end Go.Proofs.Ytihdfogcnghfaaa
