import Derived.Test.YtojekhalpedfhaaDi
set_option linter.unusedVariables false
namespace Go.Proofs.Ytojekhalpedfhaa
open Go.RowKit
/-! The code's answer and the document's are one, whatever it is. -/
def PutSaid (f : Nat) (N s : Int) (k : Nat) (p : List Int) (E : Int) : Prop :=
  ∀ w : World, Calls Try.prog f #[.int .u32 N, .int .i64 s] w fun e w' => ∃ A c, e = .returned (.tuple #[.slice A k c, .int .i64 E]) ∧ OB w' w.heap.size A k c p ∧ Below w.heap.size w w'
def GetSaid (f : Nat) (n : Nat) (l : List Int) (i s V E : Int) : Prop :=
  ∀ (w : World) (A : Option Addr) (c B : Nat), Rd w B A n l → n ≤ c → Calls Try.prog f #[.slice A n c, .int .i64 i, .int .i64 s] w fun e w' => e = .returned (.tuple #[.int .u32 V, .int .i64 E]) ∧ w = w'
theorem get_both (n : Nat) (l : List Int) (i s : Int) (hn : n ≤ 281474976710656) (hl : l.length = n) : ∃ V E, GetSaid 42 n l i s V E ∧ GetSaid 44 n l i s V E := by
  by_cases h : noS s ∨ i < 0 ∨ (n : Int) < i
  · exact ⟨0, 2, fun w A c B hr hc => get_arg A n c i s w hc hn h, fun w A c B hr hc => refget_arg A n c i s w hc hn h⟩
  · have hs : s = 1 ∨ s = 2 ∨ s = 4 := by unfold noS at h; omega
    by_cases h4 : (n : Int) - i < s
    · exact ⟨0, 4, fun w A c B hr hc => get_short A n c i s w hc hn hs (by omega) (by omega) h4, fun w A c B hr hc => refget_short A n c i s w hc hn hs (by omega) (by omega) h4⟩
    · obtain ⟨k, rfl⟩ : ∃ k : Nat, s = k := ⟨s.toNat, by omega⟩
      obtain ⟨j, rfl⟩ : ∃ j : Nat, i = j := ⟨i.toNat, by omega⟩
      exact ⟨num ((l.drop j).take k), 0, fun w A c B hr hc => get_ok A n c B j k l w hc hn hr (by omega) (by omega), fun w A c B hr hc => refget_ok A n c B j k l w hc hn hr (by omega) (by omega)⟩
def PartSaid (f : Nat) (n : Nat) (l : List Int) (i m : Int) (k : Nat) (p : List Int) (E : Int) : Prop :=
  ∀ (w : World) (A : Option Addr) (c B : Nat), Rd w B A n l → n ≤ c → B ≤ w.heap.size → Calls Try.prog f #[.slice A n c, .int .i64 i, .int .i64 m] w fun e w' => ∃ A' c', e = .returned (.tuple #[.slice A' k c', .int .i64 E]) ∧ OB w' w.heap.size A' k c' p ∧ Below w.heap.size w w'
theorem part_both (n : Nat) (l : List Int) (i m : Int) (hn : n ≤ 140737488355328) (hl : l.length = n) : ∃ k p E, PartSaid 43 n l i m k p E ∧ PartSaid 45 n l i m k p E ∧ k ≤ n := by
  by_cases h : i < 0 ∨ (n : Int) < i ∨ m < 0
  · refine ⟨0, [], 2, fun w A c B hr hc hB => ?_, fun w A c B hr hc hB => ?_, by omega⟩
    · refine (part_arg A n c i m w hc (by omega) h).mono ?_
      rintro e w' ⟨rfl, rfl⟩
      exact ⟨none, 0, rfl, OB.nil_, Below.refl _ _⟩
    · refine (refpart_arg A n c i m w hc (by omega) h).mono ?_
      rintro e w' ⟨rfl, rfl⟩
      exact ⟨none, 0, rfl, OB.nil_, Below.refl _ _⟩
  · by_cases h4 : (n : Int) - i < m
    · refine ⟨0, [], 4, fun w A c B hr hc hB => ?_, fun w A c B hr hc hB => ?_, by omega⟩
      · refine (part_short A n c i m w hc (by omega) (by omega) (by omega) (by omega) h4).mono ?_
        rintro e w' ⟨rfl, rfl⟩
        exact ⟨none, 0, rfl, OB.nil_, Below.refl _ _⟩
      · refine (refpart_short A n c i m w hc (by omega) (by omega) (by omega) (by omega) h4).mono ?_
        rintro e w' ⟨rfl, rfl⟩
        exact ⟨none, 0, rfl, OB.nil_, Below.refl _ _⟩
    · obtain ⟨k, rfl⟩ : ∃ k : Nat, m = k := ⟨m.toNat, by omega⟩
      obtain ⟨j, rfl⟩ : ∃ j : Nat, i = j := ⟨i.toNat, by omega⟩
      exact ⟨k, (l.drop j).take k, 0, fun w A c B hr hc hB => part_ok A n c B j k l w hc hn (by omega) hr hB (by omega), fun w A c B hr hc hB => refpart_ok A n c B j k l w hc hn (by omega) hr hB (by omega), by omega⟩
def RowSaid (f : Nat) (n : Nat) (l : List Int) (s : Int) (k : Nat) (p : List Int) (E : Int) : Prop :=
  ∀ (w : World) (A : Option Addr) (c B : Nat), Rd w B A n l → n ≤ c → B ≤ w.heap.size → Calls Try.prog f #[.slice A n c, .int .i64 s] w fun e w' => ∃ A' c', e = .returned (.tuple #[.slice A' k c', .int .i64 E]) ∧ OB w' w.heap.size A' k c' p ∧ Below w.heap.size w w'
theorem row_both (n : Nat) (l : List Int) (s : Int) (hn : n ≤ 140737488355328) : ∃ k p E, RowSaid 31 n l s k p E ∧ RowSaid 32 n l s k p E ∧ k ≤ 70000 := by
  by_cases h : s = 1 ∨ s = 2
  · by_cases h4 : (s = 1 ∧ 255 < n) ∨ (s = 2 ∧ 65535 < n)
    · refine ⟨0, [], 3, fun w A c B hr hc hB => ?_, fun w A c B hr hc hB => ?_, by omega⟩
      · refine (putrow_limit A n c s w (by omega) h4).mono ?_
        rintro e w' ⟨rfl, rfl⟩
        exact ⟨none, 0, rfl, OB.nil_, Below.refl _ _⟩
      · refine (refputrow_limit A n c s w (by omega) h4).mono ?_
        rintro e w' ⟨rfl, rfl⟩
        exact ⟨none, 0, rfl, OB.nil_, Below.refl _ _⟩
    · obtain ⟨k, rfl⟩ : ∃ k : Nat, s = k := ⟨s.toNat, by omega⟩
      exact ⟨k + n, dig n k ++ l, 0, fun w A c B hr hc hB => putrow_ok A n c B k l w hr hB (by omega), fun w A c B hr hc hB => refputrow_ok A n c B k l w hr hB (by omega), by omega⟩
  · refine ⟨0, [], 2, fun w A c B hr hc hB => ?_, fun w A c B hr hc hB => ?_, by omega⟩
    · refine (putrow_arg A n c s w (by omega) (by omega)).mono ?_
      rintro e w' ⟨rfl, rfl⟩
      exact ⟨none, 0, rfl, OB.nil_, Below.refl _ _⟩
    · refine (refputrow_arg A n c s w (by omega) (by omega)).mono ?_
      rintro e w' ⟨rfl, rfl⟩
      exact ⟨none, 0, rfl, OB.nil_, Below.refl _ _⟩
def GetRowSaid (f : Nat) (n : Nat) (l : List Int) (i s : Int) (k : Nat) (p : List Int) (X E : Int) : Prop :=
  ∀ (w : World) (A : Option Addr) (c B : Nat), Rd w B A n l → n ≤ c → B ≤ w.heap.size → Calls Try.prog f #[.slice A n c, .int .i64 i, .int .i64 s] w fun e w' => ∃ A' c', e = .returned (.tuple #[.slice A' k c', .int .i64 X, .int .i64 E]) ∧ OB w' w.heap.size A' k c' p ∧ Below w.heap.size w w'
theorem getrow_both (n : Nat) (l : List Int) (i s : Int) (hn : n ≤ 140737488355328) (hl : l.length = n) (hr : rng l) : ∃ k p X E, GetRowSaid 33 n l i s k p X E ∧ GetRowSaid 34 n l i s k p X E ∧ k ≤ 70000 := by
  by_cases h : (¬ s = 1 ∧ ¬ s = 2) ∨ i < 0 ∨ (n : Int) < i
  · refine ⟨0, [], 0, 2, fun w A c B hr hc hB => ?_, fun w A c B hr hc hB => ?_, by omega⟩
    · refine (getrow_arg A n c i s w hc (by omega) h).mono ?_
      rintro e w' ⟨rfl, rfl⟩
      exact ⟨none, 0, rfl, OB.nil_, Below.refl _ _⟩
    · refine (refgetrow_arg A n c i s w hc (by omega) h).mono ?_
      rintro e w' ⟨rfl, rfl⟩
      exact ⟨none, 0, rfl, OB.nil_, Below.refl _ _⟩
  · by_cases h4 : (n : Int) - i < s
    · refine ⟨0, [], 0, 4, fun w A c B hr hc hB => ?_, fun w A c B hr hc hB => ?_, by omega⟩
      · refine (getrow_short A n c i s w hc (by omega) (by omega) (by omega) (by omega) h4).mono ?_
        rintro e w' ⟨rfl, rfl⟩
        exact ⟨none, 0, rfl, OB.nil_, Below.refl _ _⟩
      · refine (refgetrow_short A n c i s w hc (by omega) (by omega) (by omega) (by omega) h4).mono ?_
        rintro e w' ⟨rfl, rfl⟩
        exact ⟨none, 0, rfl, OB.nil_, Below.refl _ _⟩
    · obtain ⟨k, rfl⟩ : ∃ k : Nat, s = k := ⟨s.toNat, by omega⟩
      obtain ⟨j, rfl⟩ : ∃ j : Nat, i = j := ⟨i.toNat, by omega⟩
      have hs : k = 1 ∨ k = 2 := by omega
      obtain ⟨m, hm, hm2⟩ := num_2 l j k hr hs
      by_cases h5 : n < j + k + m
      · refine ⟨0, [], 0, 4, fun w A c B hr hc hB => ?_, fun w A c B hr hc hB => ?_, by omega⟩
        · refine (getrow_less A n c B j k m l w hc (by omega) hr hs (by omega) hm hm2 h5).mono ?_
          rintro e w' ⟨rfl, rfl⟩
          exact ⟨none, 0, rfl, OB.nil_, Below.refl _ _⟩
        · refine (refgetrow_less A n c B j k m l w hc (by omega) hr hs (by omega) hm hm2 h5).mono ?_
          rintro e w' ⟨rfl, rfl⟩
          exact ⟨none, 0, rfl, OB.nil_, Below.refl _ _⟩
      · exact ⟨m, (l.drop (j + k)).take m, _, 0, fun w A c B hr hc hB => getrow_ok A n c B j k m l w hc hn (by omega) hr hB hs hm hm2 (by omega), fun w A c B hr hc hB => refgetrow_ok A n c B j k m l w hc hn (by omega) hr hB hs hm hm2 (by omega), by omega⟩
/-! The laws' walks. -/
end Go.Proofs.Ytojekhalpedfhaa
