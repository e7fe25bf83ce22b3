import Derived.Test.YtolifmpkillglaaGreatDoorDa
set_option linter.unusedVariables false
set_option maxRecDepth 100000
namespace Go.Proofs.YtolifmpkillglaaGreatDoor
open Go.RowKit
theorem ret_int {k : IntKind} {a b : Int} (h : a = b) : Ending.returned (.int k a) = .returned (.int k b) := by rw [h]
/-! The sizes. -/
def noS (s : Int) : Prop := ¬ s = 1 ∧ ¬ s = 2 ∧ ¬ s = 4
theorem greatest_1 (w : World) : Calls Tryz.prog 74 #[.int .i64 1] w fun e w' => e = .returned (.tuple #[.int .u32 255, .bool true]) ∧ w = w' := by
  go_enter Tryz.func74, Tryz.ntmps74
  go_wp2
  go_returns
  exact ⟨rfl, rfl⟩
theorem greatest_2 (w : World) : Calls Tryz.prog 74 #[.int .i64 2] w fun e w' => e = .returned (.tuple #[.int .u32 65535, .bool true]) ∧ w = w' := by
  go_enter Tryz.func74, Tryz.ntmps74
  go_wp2
  go_returns
  exact ⟨rfl, rfl⟩
theorem greatest_4 (w : World) : Calls Tryz.prog 74 #[.int .i64 4] w fun e w' => e = .returned (.tuple #[.int .u32 4294967295, .bool true]) ∧ w = w' := by
  go_enter Tryz.func74, Tryz.ntmps74
  go_wp2
  go_returns
  exact ⟨rfl, rfl⟩
theorem greatest_no (s : Int) (w : World) (h : noS s) : Calls Tryz.prog 74 #[.int .i64 s] w fun e w' => e = .returned (.tuple #[.int .u32 0, .bool false]) ∧ w = w' := by
  obtain ⟨a, b, c⟩ := h
  have q1 : (s == 1) = false := by simpa using a
  have q2 : (s == 2) = false := by simpa using b
  have q4 : (s == 4) = false := by simpa using c
  go_enter Tryz.func74, Tryz.ntmps74
  go_wp2
  go_returns
  exact ⟨rfl, rfl⟩
theorem size_1 (w : World) : Calls Tryz.prog 76 #[.int .i64 1] w fun e w' => e = .returned (.bool true) ∧ w = w' := by
  go_enter Tryz.func76, Tryz.ntmps76
  go_wp2
  go_returns
  exact ⟨rfl, rfl⟩
theorem size_2 (w : World) : Calls Tryz.prog 76 #[.int .i64 2] w fun e w' => e = .returned (.bool true) ∧ w = w' := by
  go_enter Tryz.func76, Tryz.ntmps76
  go_wp2
  go_returns
  exact ⟨rfl, rfl⟩
theorem size_4 (w : World) : Calls Tryz.prog 76 #[.int .i64 4] w fun e w' => e = .returned (.bool true) ∧ w = w' := by
  go_enter Tryz.func76, Tryz.ntmps76
  go_wp2
  go_returns
  exact ⟨rfl, rfl⟩
theorem size_no (s : Int) (w : World) (h : noS s) : Calls Tryz.prog 76 #[.int .i64 s] w fun e w' => e = .returned (.bool false) ∧ w = w' := by
  obtain ⟨a, b, c⟩ := h
  have q1 : (s == 1) = false := by simpa using a
  have q2 : (s == 2) = false := by simpa using b
  have q4 : (s == 4) = false := by simpa using c
  go_enter Tryz.func76, Tryz.ntmps76
  go_wp2
  go_returns
  exact ⟨rfl, rfl⟩
/-! Two lists of the same bytes are the same. -/
theorem same_yes (A1 A2 : Option Addr) (n c1 c2 B1 B2 : Nat) (l : List Int) (w : World) (hn : n ≤ 281474976710656) (h1 : Rd w B1 A1 n l) (h2 : Rd w B2 A2 n l) :
    Calls Tryz.prog 9 #[.slice A1 n c1, .slice A2 n c2] w fun e w' => e = .returned (.bool true) ∧ ∃ q, w' = w.drewN q := by
  by_cases h0 : n = 0
  · subst h0
    clear h1 h2
    go_enter Tryz.func9, Tryz.ntmps9
    go_wp2
    refine wp_loop_rounds 1 ?_
    rw [rounds_succ]
    go_wp2
    go_returns
    exact ⟨rfl, 0, rfl⟩
  · obtain ⟨b1, o1, rfl, _, hc1⟩ := h1.2.2 (by omega)
    obtain ⟨b2, o2, rfl, _, hc2⟩ := h2.2.2 (by omega)
    have hr := h1.rg
    have hneq : ((n : Int) != (n : Int)) = false := by simp
    clear h1 h2
    have HC1 := Lib.hid hc1
    have HC2 := Lib.hid hc2
    have HR := Lib.hid hr
    clear hc1 hc2 hr
    go_enter Tryz.func9, Tryz.ntmps9
    go_wp2
    go_loopw [5] (fun i wr => ∃ k q : Nat, k ≤ n ∧ i = .int .i64 k ∧ wr = w.drewN q) (fun i _ => n - (intOf i).toNat)
    case atStart => exact ⟨0, 0, Nat.zero_le _, rfl, rfl⟩
    case round =>
      obtain ⟨k, q, hk, rfl, rfl⟩ := hrel
      by_cases hlt : k < n
      · have g1 := HC1.out k hlt
        have g2 := HC2.out k hlt
        obtain ⟨x0, x1⟩ := rng_getD HR.out k
        generalize l.getD k 0 = x at g1 g2 x0 x1
        have i0 : (0 : Int) ≤ (k : Int) := by omega
        have i1 : (k : Int) < (n : Int) := by omega
        have hx : (x != x) = false := by simp
        go_wp2
        go_quiet (fail)
        go_wp2
        go_roundw
        case rel => exact ⟨k + 1, _, by omega, by go_num, rfl⟩
        case measure => simp [intOf]; omega
      · have i1 : (n : Int) ≤ (k : Int) := by omega
        go_wp2
        go_returns
        exact ⟨rfl, q, rfl⟩
end Go.Proofs.YtolifmpkillglaaGreatDoor
