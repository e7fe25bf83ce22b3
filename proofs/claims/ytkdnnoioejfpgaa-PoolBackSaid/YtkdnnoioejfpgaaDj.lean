import Derived.Test.YtkdnnoioejfpgaaDi
set_option linter.unusedVariables false
set_option maxRecDepth 100000
namespace Go.Proofs.Ytkdnnoioejfpgaa
open Go.RowKit
/-! The code's answer and the document's are one, whatever it is. -/
def PutSaid (f : Nat) (N s : Int) (k : Nat) (p : List Int) (E : Int) : Prop :=
  ∀ w : World, Calls Try.prog f #[.int .u32 N, .int .i64 s] w fun e w' => ∃ A c, e = .returned (.tuple #[.slice A k c, .int .i64 E]) ∧ OB w' w.heap.size A k c p ∧ Below w.heap.size w w'
def GetSaid (f : Nat) (n : Nat) (l : List Int) (i s V E : Int) : Prop :=
  ∀ (w : World) (A : Option Addr) (c B : Nat), Rd w B A n l → n ≤ c → Calls Try.prog f #[.slice A n c, .int .i64 i, .int .i64 s] w fun e w' => e = .returned (.tuple #[.int .u32 V, .int .i64 E]) ∧ w = w'
theorem get_both (n : Nat) (l : List Int) (i s : Int) (hn : n ≤ 281474976710656) (hl : l.length = n) : ∃ V E, GetSaid 27 n l i s V E ∧ GetSaid 29 n l i s V E := by
  by_cases h : noS s ∨ i < 0 ∨ (n : Int) < i
  · exact ⟨0, 2, fun w A c B hr hc => get_arg A n c i s w hc hn h, fun w A c B hr hc => refget_arg A n c i s w hc hn h⟩
  · have hs : s = 1 ∨ s = 2 ∨ s = 4 := by unfold noS at h; omega
    by_cases h4 : (n : Int) - i < s
    · exact ⟨0, 4, fun w A c B hr hc => get_short A n c i s w hc hn hs (by omega) (by omega) h4, fun w A c B hr hc => refget_short A n c i s w hc hn hs (by omega) (by omega) h4⟩
    · obtain ⟨k, rfl⟩ : ∃ k : Nat, s = k := ⟨s.toNat, by omega⟩
      obtain ⟨j, rfl⟩ : ∃ j : Nat, i = j := ⟨i.toNat, by omega⟩
      exact ⟨num ((l.drop j).take k), 0, fun w A c B hr hc => get_ok A n c B j k l w hc hn hr (by omega) (by omega), fun w A c B hr hc => refget_ok A n c B j k l w hc hn hr (by omega) (by omega)⟩
def PartSaid (f : Nat) (n : Nat) (l : List Int) (i m : Int) (k : Nat) (p : List Int) (E : Int) : Prop :=
  ∀ (w : World) (A : Option Addr) (c B : Nat), Rd w B A n l → n ≤ c → B ≤ w.heap.size → Calls Try.prog f #[.slice A n c, .int .i64 i, .int .i64 m] w fun e w' => ∃ A' c', e = .returned (.tuple #[.slice A' k c', .int .i64 E]) ∧ OB w' w.heap.size A' k c' p ∧ Below w.heap.size w w'
def RowSaid (f : Nat) (n : Nat) (l : List Int) (s : Int) (k : Nat) (p : List Int) (E : Int) : Prop :=
  ∀ (w : World) (A : Option Addr) (c B : Nat), Rd w B A n l → n ≤ c → B ≤ w.heap.size → Calls Try.prog f #[.slice A n c, .int .i64 s] w fun e w' => ∃ A' c', e = .returned (.tuple #[.slice A' k c', .int .i64 E]) ∧ OB w' w.heap.size A' k c' p ∧ Below w.heap.size w w'
def GetRowSaid (f : Nat) (n : Nat) (l : List Int) (i s : Int) (k : Nat) (p : List Int) (X E : Int) : Prop :=
  ∀ (w : World) (A : Option Addr) (c B : Nat), Rd w B A n l → n ≤ c → B ≤ w.heap.size → Calls Try.prog f #[.slice A n c, .int .i64 i, .int .i64 s] w fun e w' => ∃ A' c', e = .returned (.tuple #[.slice A' k c', .int .i64 X, .int .i64 E]) ∧ OB w' w.heap.size A' k c' p ∧ Below w.heap.size w w'
/-! The laws' walks. -/
end Go.Proofs.Ytkdnnoioejfpgaa
