import Derived.Test.YtolifmpkillglaaDoorDc
import Derived.Test.YtolifmpkillglaaDoorFa
import Derived.IntWalk
set_option linter.unusedVariables false
set_option maxRecDepth 100000
namespace Go.Proofs.YtolifmpkillglaaDoor
open Go.RowKit
/-! Bytes, words and jumps behind others. -/
theorem appN_any (S : Nat → Prop) (A : Option Addr) (n c s : Nat) (l : List Int) (N : Int) (w : World) (O : OS w S A n c l) (hS : ∀ k, S k → k < w.heap.size) (n0 : 0 ≤ N) (hN : okN N s) (hs : s = 1 ∨ s = 2) (hn : n ≤ 300000) :
    Calls Tryd.prog 63 #[.slice A n c, .int .u32 N, .int .i64 s] w fun e w' => ∃ A' c', e = .returned (.slice A' (n + s) c') ∧ OS w' S A' (n + s) c' (l ++ dig N s) ∧ Kp S w w' := by
  have HP := Lib.hid (put_ok N s w n0 hN)
  have HO := Lib.hid O
  clear O
  go_enter Tryd.func63, Tryd.ntmps63
  go_wp2_with fail
  refine HP.out.mono ?_
  rintro e w1 ⟨A1, c1, rfl, o1, b1⟩
  have HO := Lib.hid (HO.out.below b1)
  have HD := Lib.hid o1
  have HK := Lib.hid (Kp.of_below b1 hS)
  have hz := b1.size
  clear o1 b1
  go_wp2_with (at_builtin; refine wpList_appS rfl _ _ rfl S A n c l rfl HO.out _ A1 s c1 (dig N s) rfl HD.out.rd (n + s) rfl (l ++ dig N s) rfl (by omega) (fun k hk => Nat.lt_of_lt_of_le (hS k hk) hz) ?_; intro A2 c2 w2 ho2 hb2)
  go_returns
  exact ⟨A2, c2, rfl, ho2, HK.out.trans hb2⟩
def wd2 (x : Int) : List Int := [x / 256 % 256, x % 256]
theorem appB_any (S : Nat → Prop) (A : Option Addr) (n c : Nat) (l : List Int) (x : Int) (w : World) (O : OS w S A n c l) (hS : ∀ k, S k → k < w.heap.size) (x0 : 0 ≤ x) (x1 : x < 256) (hn : n ≤ 300000) :
    Calls Tryd.prog 47 #[.slice A n c, .int .u8 x] w fun e w' => ∃ A' c', e = .returned (.slice A' (n + 1) c') ∧ OS w' S A' (n + 1) c' (l ++ [x]) ∧ Kp S w w' := by
  have HP := Lib.hid (appN_any S A n c 1 l x w O hS x0 (.inl ⟨rfl, by omega⟩) (.inl rfl) hn)
  have e : dig x 1 = [x] := by show [x % 256] = [x]; rw [Int.emod_eq_of_lt x0 x1]
  rw [e] at HP
  have hm : x % 4294967296 = x := Int.emod_eq_of_lt x0 (by omega)
  clear O e
  go_enter Tryd.func47, Tryd.ntmps47
  go_wp2_with fail
  refine HP.out.mono ?_
  rintro e w1 ⟨A1, c1, rfl, o1, k1⟩
  have HO := Lib.hid o1
  have HK := Lib.hid k1
  clear o1 k1
  go_wp2_with fail
  go_returns
  exact ⟨A1, c1, rfl, HO.out, HK.out⟩
theorem appW_any (S : Nat → Prop) (A : Option Addr) (n c : Nat) (l : List Int) (x : Int) (w : World) (O : OS w S A n c l) (hS : ∀ k, S k → k < w.heap.size) (x0 : 0 ≤ x) (x1 : x < 65536) (hn : n ≤ 300000) :
    Calls Tryd.prog 48 #[.slice A n c, .int .u16 x] w fun e w' => ∃ A' c', e = .returned (.slice A' (n + 2) c') ∧ OS w' S A' (n + 2) c' (l ++ wd2 x) ∧ Kp S w w' := by
  have HP := Lib.hid (appN_any S A n c 2 l x w O hS x0 (.inr (.inl ⟨rfl, by omega⟩)) (.inr rfl) hn)
  have e : dig x 2 = wd2 x := rfl
  rw [e] at HP
  have hm : x % 4294967296 = x := Int.emod_eq_of_lt x0 (by omega)
  clear O e
  generalize wd2 x = d at HP ⊢
  go_enter Tryd.func48, Tryd.ntmps48
  go_wp2_with fail
  refine HP.out.mono ?_
  rintro e w1 ⟨A1, c1, rfl, o1, k1⟩
  have HO := Lib.hid o1
  have HK := Lib.hid k1
  clear o1 k1
  go_wp2_with fail
  go_returns
  exact ⟨A1, c1, rfl, HO.out, HK.out⟩
/-- How far it is, as a word. -/
def jmpW (f t : Int) : Int := (t - f) % 65536
theorem jmpW_rg (f t : Int) : 0 ≤ jmpW f t ∧ jmpW f t < 65536 := by unfold jmpW; omega
theorem appJ_any (S : Nat → Prop) (A : Option Addr) (n c : Nat) (l : List Int) (f t : Int) (w : World) (O : OS w S A n c l) (hS : ∀ k, S k → k < w.heap.size) (hn : n ≤ 300000) :
    Calls Tryd.prog 49 #[.slice A n c, .int .i64 f, .int .i64 t] w fun e w' => ∃ A' c', e = .returned (.slice A' (n + 2) c') ∧ OS w' S A' (n + 2) c' (l ++ wd2 (jmpW f t)) ∧ Kp S w w' := by
  have hj := jmpW_rg f t
  have HP := Lib.hid (appW_any S A n c l (jmpW f t) w O hS hj.1 hj.2 hn)
  have e1 : (t % 65536 - f % 65536) % 65536 = jmpW f t := by unfold jmpW; omega
  have hw : ∀ x : Int, IntKind.u16.wrap x = x % 65536 := fun x => by simp [IntKind.wrap, IntKind.bits, IntKind.signed]
  have e2 : IntKind.u16.wrap (IntKind.u16.wrap t - IntKind.u16.wrap f) = jmpW f t := by rw [hw, hw, hw, e1]
  clear O hw
  generalize jmpW f t = j at HP hj e1 e2 ⊢
  go_enter Tryd.func49, Tryd.ntmps49
  go_wp2_with fail
  refine HP.out.mono ?_
  rintro e w1 ⟨A1, c1, rfl, o1, k1⟩
  have HO := Lib.hid o1
  have HK := Lib.hid k1
  clear o1 k1
  go_wp2_with fail
  go_returns
  exact ⟨A1, c1, rfl, HO.out, HK.out⟩
end Go.Proofs.YtolifmpkillglaaDoor
