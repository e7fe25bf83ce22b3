import Derived.Test.YtkdnnoioejfpgaaDd
set_option linter.unusedVariables false
set_option maxRecDepth 100000
namespace Go.Proofs.Ytkdnnoioejfpgaa
open Go.RowKit
/-! Parts in new memory. -/
theorem eq_nil (w : World) (A : Option Addr) (n c : Nat) : (binOp .eql 23 (.slice A n c) (.slice none 0 0)).run Try.prog w = .ok (.bool A.isNone) w := Lib.run_eql_slice_nil w _ _ A n c _ _ Try.underlying23
theorem ob_empty (w : World) : OB (w.alloc (.cells #[] 5)) w.heap.size (some ⟨w.heap.size, 0, none⟩) 0 0 [] := lit_ob w [] 0 rfl (by simp [maxLen]) rng_nil
theorem refpart_arg (A : Option Addr) (n c : Nat) (i m : Int) (w : World) (hn : n ≤ c) (hc : n ≤ 281474976710656) (h : i < 0 ∨ (n : Int) < i ∨ m < 0) :
    Calls Try.prog 30 #[.slice A n c, .int .i64 i, .int .i64 m] w fun e w' => e = .returned (.tuple #[.slice none 0 0, .int .i64 2]) ∧ w = w' := by
  by_cases h1 : i < 0
  · clear h
    go_enter Try.func30, Try.ntmps30
    go_wp2
    go_returns
    exact ⟨rfl, rfl⟩
  · by_cases h2 : (n : Int) < i
    · clear h
      go_enter Try.func30, Try.ntmps30
      go_wp2
      go_returns
      exact ⟨rfl, rfl⟩
    · have h3 : m < 0 := by omega
      clear h
      go_enter Try.func30, Try.ntmps30
      go_wp2
      go_returns
      exact ⟨rfl, rfl⟩
theorem refpart_short (A : Option Addr) (n c : Nat) (i m : Int) (w : World) (hn : n ≤ c) (hc : n ≤ 281474976710656) (h1 : 0 ≤ i) (h2 : i ≤ n) (h3 : 0 ≤ m) (h4 : (n : Int) - i < m) :
    Calls Try.prog 30 #[.slice A n c, .int .i64 i, .int .i64 m] w fun e w' => e = .returned (.tuple #[.slice none 0 0, .int .i64 4]) ∧ w = w' := by
  go_enter Try.func30, Try.ntmps30
  go_wp2
  go_returns
  exact ⟨rfl, rfl⟩
def cutA (A : Option Addr) (c i : Nat) : Option Addr := if c = i then A else A.map (·.add i)
theorem run_cut2 (w : World) (A : Option Addr) (n c i m : Nat) (h : i + m ≤ c) : (Instr.slice 23 (.slice A n c) (some (.int .i64 (i : Int))) (some (.int .i64 ((i : Int) + (m : Int)))) none).run Try.prog w = .ok (.slice (cutA A c i) m (c - i)) w := by
  have ht := Try.underlying23
  obtain ⟨i0, hi, hz0, hz1, hz2⟩ := info_parts u8_info
  have he : Try.prog.elem 23 = 5 := by simp [Program.elem, ht]
  have ht' : Try.prog.underlying 23 = some (.slice (Try.prog.elem 23)) := by rw [he]; exact ht
  rw [run_slice_lh w 23 A n c ht' .i64 .i64 _ _ (by omega) (by omega) (by omega), he]
  simp [sizeOf, typeInfo, hi, hz1, sliced, cutA]
  omega
theorem refpart_ok (A : Option Addr) (n c B i m : Nat) (l : List Int) (w : World) (hn : n ≤ c) (hn2 : n ≤ 140737488355328) (hc : n ≤ 281474976710656) (hr : Rd w B A n l) (hB : B ≤ w.heap.size) (h : i + m ≤ n) :
    Calls Try.prog 30 #[.slice A n c, .int .i64 i, .int .i64 m] w fun e w' => ∃ A' c', e = .returned (.tuple #[.slice A' m c', .int .i64 0]) ∧ OB w' w.heap.size A' m c' ((l.drop i).take m) ∧ Below w.heap.size w w' := by
  have hr2 : Rd w B (cutA A c i) m ((l.drop i).take m) := hr.cut h (fun hm => by unfold cutA; rw [if_neg (by omega)])
  have H := Lib.hid hr2
  have hs := fun w => run_cut2 w A n c i m (by omega)
  clear hr hr2
  go_enter Try.func30, Try.ntmps30
  go_wp2_with (at_builtin; refine wpList_app rfl _ _ rfl w.heap.size none 0 0 [] rfl OB.nil_ B (cutA A c i) m (c - i) ((l.drop i).take m) rfl H.out m (by omega) ((l.drop i).take m) (by simp) (by omega) (Nat.le_refl _) ?_; intro A2 c2 w2 ho2 hb2)
  go_returns
  exact ⟨A2, c2, rfl, ho2, hb2⟩
end Go.Proofs.Ytkdnnoioejfpgaa
