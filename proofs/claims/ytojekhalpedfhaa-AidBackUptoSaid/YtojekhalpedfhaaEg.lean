import Derived.Test.YtojekhalpedfhaaEf
set_option linter.unusedVariables false
namespace Go.Proofs.Ytojekhalpedfhaa
open Go.RowKit
def Boxed (w : World) (a b c d : Int) (w' : World) : Prop :=
  w'.cell? ⟨w.heap.size, 0, none⟩ = some (.int .u8 a) ∧ w'.cell? ⟨w.heap.size, 1, none⟩ = some (.int .u8 b) ∧ w'.cell? ⟨w.heap.size + 1, 0, none⟩ = some (.int .u8 c) ∧ w'.cell? ⟨w.heap.size + 1, 1, none⟩ = some (.int .u8 d) ∧ Below w.heap.size w w'
theorem Boxed.keep {w W W' : World} {a b c d : Int} (h : Boxed w a b c d W) (hb : Below W.heap.size W W') : Boxed w a b c d W' := by
  obtain ⟨h0, h1, h2, h3, h4⟩ := h
  exact ⟨(hb.cell (World.block_lt_of_cell? W _ h0)).trans h0, (hb.cell (World.block_lt_of_cell? W _ h1)).trans h1, (hb.cell (World.block_lt_of_cell? W _ h2)).trans h2, (hb.cell (World.block_lt_of_cell? W _ h3)).trans h3, h4.trans (hb.mono h4.size)⟩
theorem Boxed.start (w : World) (a b c d : Int) (t : TypeId) : Boxed w a b c d ((w.alloc (.cells #[.int .u8 a, .int .u8 b] t)).alloc (.cells #[.int .u8 c, .int .u8 d] t)) := by
  refine ⟨?_, ?_, ?_, ?_, ((Below.refl _ _).alloc (Nat.le_refl _) _).alloc (by simp) _⟩ <;> go_simp
def Tells (f : Nat) (args : Array Value) (w : World) (a b c d : Int) (v : Bool) : Prop :=
  ∀ W, Boxed w a b c d W → Calls Try.prog f args W fun e w' => e = .returned (.bool v) ∧ Below W.heap.size W w'
theorem tells_same {f : Nat} {args : Array Value} {w : World} {a b c d : Int} {v : Bool} (h : ∀ W, Below w.heap.size w W → Calls Try.prog f args W fun e w' => e = .returned (.bool v) ∧ W = w') : Tells f args w a b c d v :=
  fun W hW => (h W hW.2.2.2.2).mono fun e w' ⟨he, hw⟩ => ⟨he, by subst hw; exact Below.refl _ _⟩
theorem tells_drew {f : Nat} {args : Array Value} {w : World} {a b c d : Int} {v : Bool} (h : ∀ W, Below w.heap.size w W → Calls Try.prog f args W fun e w' => e = .returned (.bool v) ∧ ∃ q, w' = W.drewN q) : Tells f args w a b c d v :=
  fun W hW => (h W hW.2.2.2.2).mono fun e w' ⟨he, q, hw⟩ => ⟨he, by subst hw; exact below_drewN' q⟩
set_option maxHeartbeats 1000000 in
set_option maxRecDepth 100000 in
theorem awalk_compares (A1 A2 : Option Addr) (n1 n2 c1 c2 : Nat) (l1 l2 : List Int) (a b c d : Int) (w : World) (hn1 : n1 ≤ 140737488355328) (hn2 : n2 ≤ 140737488355328) (hc1 : n1 ≤ c1) (hc2 : n2 ≤ c2) (hr1 : Rd w w.heap.size A1 n1 l1) (hr2 : Rd w w.heap.size A2 n2 l2) :
    Calls Try.prog 4 #[.slice A1 n1 c1, .slice A2 n2 c2, .agg #[.int .u8 a, .int .u8 b], .agg #[.int .u8 c, .int .u8 d]] w fun e w' => e = .returned (.bool true) ∧ Below w.heap.size w w' := by
  have r1 : ∀ W, Below w.heap.size w W → Rd W w.heap.size A1 n1 l1 := fun W hb => hr1.below hb (Nat.le_refl _)
  have r2 : ∀ W, Below w.heap.size w W → Rd W w.heap.size A2 n2 l2 := fun W hb => hr2.below hb (Nat.le_refl _)
  have T1 : Tells 17 _ w a b c d _ := tells_same fun W hb => aidsame_any A1 A2 n1 n2 c1 c2 _ _ l1 l2 W (r1 W hb) (r2 W hb)
  have T2 : Tells 18 _ w a b c d _ := tells_drew fun W hb => refsame_any A1 A2 n1 n2 c1 c2 _ _ l1 l2 W (by omega) (by omega) (r1 W hb) (r2 W hb)
  have T3 : Tells 19 _ w a b c d _ := tells_drew fun W hb => issuer_any A1 A2 n1 n2 c1 c2 _ _ l1 l2 W hc1 hc2 (by omega) (by omega) (r1 W hb) (r2 W hb)
  have T4 : Tells 20 _ w a b c d _ := tells_drew fun W hb => refissuer_any A1 A2 n1 n2 c1 c2 _ _ l1 l2 W hc1 hc2 (by omega) (by omega) (r1 W hb) (r2 W hb)
  have T5 : Tells 21 _ w a b c d _ := tells_same fun W hb => begins_any A1 A2 n1 n2 c1 c2 _ _ l1 l2 W hc1 (by omega) (by omega) (r1 W hb) (r2 W hb)
  have T6 : Tells 22 _ w a b c d _ := tells_drew fun W hb => refbegins_any A1 A2 n1 n2 c1 c2 _ _ l1 l2 W hc1 (by omega) (by omega) (r1 W hb) (r2 W hb)
  have T7 : Tells 23 _ w a b c d _ := tells_same fun W hb => ahead_any A1 A2 n1 n2 c1 c2 _ _ l1 l2 W (r1 W hb) (r2 W hb)
  have T8 : Tells 24 _ w a b c d _ := tells_drew fun W hb => refahead_any A1 A2 n1 n2 c1 c2 _ _ l1 l2 W (by omega) (by omega) (r1 W hb) (r2 W hb)
  have T9 : Tells 25 _ w a b c d _ := fun W _ => serves_any a b c d W
  have T10 : Tells 26 _ w a b c d _ := fun W _ => refserves_any a b c d W
  have T11 : Tells 16 _ w a b c d _ := fun W _ => works_any W
  generalize decide (l1 = l2) = v1 at T1 T2
  generalize issB n1 n2 l1 l2 = v2 at T3 T4
  generalize (decide (5 ≤ n2) && decide (l1.take n2 = l2)) = v3 at T5 T6
  generalize lessZ l1 l2 = v4 at T7 T8
  generalize servB a b c d = v5 at T9 T10
  have hS := Boxed.start w a b c d 33
  clear r1 r2 hr1 hr2
  have H1 := Lib.hid T1
  have H2 := Lib.hid T2
  have H3 := Lib.hid T3
  have H4 := Lib.hid T4
  have H5 := Lib.hid T5
  have H6 := Lib.hid T6
  have H7 := Lib.hid T7
  have H8 := Lib.hid T8
  have H9 := Lib.hid T9
  have H10 := Lib.hid T10
  have H11 := Lib.hid T11
  have HS := Lib.hid hS
  clear T1 T2 T3 T4 T5 T6 T7 T8 T9 T10 T11 hS
  go_enter Try.func4, Try.ntmps4
  go_wp2_with fail
  have hS := HS.out
  clear HS
  generalize ((w.alloc (.cells #[.int .u8 a, .int .u8 b] 33)).alloc (.cells #[.int .u8 c, .int .u8 d] 33)) = W0 at hS ⊢
  go_region_held3 (fun w' => w'.cell? ⟨w.heap.size, 0, none⟩ = some (.int .u8 a) ∧ w'.cell? ⟨w.heap.size, 1, none⟩ = some (.int .u8 b) ∧ w'.cell? ⟨w.heap.size + 1, 0, none⟩ = some (.int .u8 c) ∧ w'.cell? ⟨w.heap.size + 1, 1, none⟩ = some (.int .u8 d) ∧ Below w.heap.size w w')
    (first | exact Boxed.keep hS (Below.refl _ _).drew | exact Boxed.keep (by assumption) (by assumption))
    (first
      | (go_at_call 17; refine (H1.out _ (by assumption)).mono ?_; rintro e w' ⟨rfl, hb⟩)
      | (go_at_call 18; refine (H2.out _ (by assumption)).mono ?_; rintro e w' ⟨rfl, hb⟩)
      | (go_at_call 19; refine (H3.out _ (by assumption)).mono ?_; rintro e w' ⟨rfl, hb⟩)
      | (go_at_call 20; refine (H4.out _ (by assumption)).mono ?_; rintro e w' ⟨rfl, hb⟩)
      | (go_at_call 21; refine (H5.out _ (by assumption)).mono ?_; rintro e w' ⟨rfl, hb⟩)
      | (go_at_call 22; refine (H6.out _ (by assumption)).mono ?_; rintro e w' ⟨rfl, hb⟩)
      | (go_at_call 23; refine (H7.out _ (by assumption)).mono ?_; rintro e w' ⟨rfl, hb⟩)
      | (go_at_call 24; refine (H8.out _ (by assumption)).mono ?_; rintro e w' ⟨rfl, hb⟩)
      | (go_at_call 25; refine (H9.out _ (by assumption)).mono ?_; rintro e w' ⟨rfl, hb⟩)
      | (go_at_call 26; refine (H10.out _ (by assumption)).mono ?_; rintro e w' ⟨rfl, hb⟩)
      | (go_at_call 16; refine (H11.out _ (by assumption)).mono ?_; rintro e w' ⟨rfl, hb⟩))
  go_wp2
  go_returns
  rename_i hX
  exact ⟨rfl, hX.2.2.2.2⟩
theorem u8_bd {a : Int} (h : (Lit.int .u8 a).wf = true) : 0 ≤ a ∧ a < 256 := by
  have : 0 ≤ a ∧ a ≤ 255 := by simpa [Lit.wf, IntKind.min, IntKind.max, IntKind.signed, IntKind.bits] using h
  omega
end Go.Proofs.Ytojekhalpedfhaa
