import Derived.Test.YtojekhalpedfhaaEb
set_option linter.unusedVariables false
namespace Go.Proofs.Ytojekhalpedfhaa
open Go.RowKit
/-! The document's Issuer; versions; names' rows. -/
theorem refissuer_any (A1 A2 : Option Addr) (n1 n2 c1 c2 B1 B2 : Nat) (l1 l2 : List Int) (w : World) (hc1 : n1 ≤ c1) (hc2 : n2 ≤ c2) (hn1 : n1 ≤ 281474976710656) (hn2 : n2 ≤ 281474976710656) (h1 : Rd w B1 A1 n1 l1) (h2 : Rd w B2 A2 n2 l2) :
    Calls Try.prog 20 #[.slice A1 n1 c1, .slice A2 n2 c2] w fun e w' => e = .returned (.bool (issB n1 n2 l1 l2)) ∧ ∃ q, w' = w.drewN q := by
  unfold issB
  have M1 := Lib.hid (fun w => refmay_any A1 n1 c1 w hn1)
  have M2 := Lib.hid (fun w => refmay_any A2 n2 c2 w hn2)
  cases hm1 : mayB n1
  · rw [hm1] at M1
    clear h1 h2
    go_enter Try.func20, Try.ntmps20
    go_wp2
    go_quiet ((with_reducible exact quiet_same (M1.out _)))
    go_wp2
    go_returns
    exact ⟨rfl, _, rfl⟩
  · cases hm2 : mayB n2
    · rw [hm1] at M1
      rw [hm2] at M2
      clear h1 h2
      go_enter Try.func20, Try.ntmps20
      go_wp2
      go_quiet ((first | (with_reducible exact quiet_same (M1.out _)) | (with_reducible exact quiet_same (M2.out _))))
      go_wp2
      go_returns
      exact ⟨rfl, _, rfl⟩
    · have C := Lib.hid (fun q a b => same_any A1 A2 5 5 a b B1 B2 _ _ (w.drewN q) (by omega) (by omega) ((rd_five h1 hm1).drewN q) ((rd_five h2 hm2).drewN q))
      have k1 := mayB_yes hm1
      have k2 := mayB_yes hm2
      have e1 : (5 : Int) ≤ c1 := by omega
      have e2 : (5 : Int) ≤ c2 := by omega
      rw [hm1] at M1
      rw [hm2] at M2
      clear h1 h2
      go_enter Try.func20, Try.ntmps20
      go_wp2
      go_quiet ((first | (with_reducible exact quiet_same (M1.out _)) | (with_reducible exact quiet_same (M2.out _)) | (with_reducible exact Calls.quiet_of (C.out _ _ _))))
      go_wp2
      go_returns
      exact ⟨rfl, _, rfl⟩
def servB (a b c d : Int) : Bool := decide (a = c) && decide (d ≤ b)
theorem serves_any (a b c d : Int) (w : World) :
    Calls Try.prog 25 #[.agg #[.int .u8 a, .int .u8 b], .agg #[.int .u8 c, .int .u8 d]] w fun e w' => e = .returned (.bool (servB a b c d)) ∧ Below w.heap.size w w' := by
  unfold servB
  have hb : Below w.heap.size w ((w.alloc (.cells #[.int .u8 a, .int .u8 b] 33)).alloc (.cells #[.int .u8 c, .int .u8 d] 33)) := ((Below.refl _ _).alloc (Nat.le_refl _) _).alloc (by simp) _
  have HB := Lib.hid hb
  clear hb
  by_cases h1 : a = c
  · have q1 : (a == c) = true := by simpa using h1
    rw [decide_eq_true h1, Bool.true_and]
    clear h1
    by_cases h2 : d ≤ b
    · rw [decide_eq_true h2]
      go_enter Try.func25, Try.ntmps25
      go_wp2
      go_returns
      exact ⟨rfl, HB.out⟩
    · rw [decide_eq_false h2]
      go_enter Try.func25, Try.ntmps25
      go_wp2
      go_returns
      exact ⟨rfl, HB.out⟩
  · have q1 : (a == c) = false := by simpa using h1
    rw [decide_eq_false h1, Bool.false_and]
    clear h1
    go_enter Try.func25, Try.ntmps25
    go_wp2
    go_returns
    exact ⟨rfl, HB.out⟩
theorem refserves_any (a b c d : Int) (w : World) :
    Calls Try.prog 26 #[.agg #[.int .u8 a, .int .u8 b], .agg #[.int .u8 c, .int .u8 d]] w fun e w' => e = .returned (.bool (servB a b c d)) ∧ Below w.heap.size w w' := by
  unfold servB
  have hb : Below w.heap.size w ((w.alloc (.cells #[.int .u8 a, .int .u8 b] 33)).alloc (.cells #[.int .u8 c, .int .u8 d] 33)) := ((Below.refl _ _).alloc (Nat.le_refl _) _).alloc (by simp) _
  have HB := Lib.hid hb
  clear hb
  by_cases h1 : a = c
  · have q1 : (a == c) = true := by simpa using h1
    rw [decide_eq_true h1, Bool.true_and]
    clear h1
    by_cases h2 : d ≤ b
    · rw [decide_eq_true h2]
      go_enter Try.func26, Try.ntmps26
      go_wp2
      go_returns
      exact ⟨rfl, HB.out⟩
    · rw [decide_eq_false h2]
      go_enter Try.func26, Try.ntmps26
      go_wp2
      go_returns
      exact ⟨rfl, HB.out⟩
  · have q1 : (a == c) = false := by simpa using h1
    rw [decide_eq_false h1, Bool.false_and]
    clear h1
    go_enter Try.func26, Try.ntmps26
    go_wp2
    go_returns
    exact ⟨rfl, HB.out⟩
def APutSaid (f : Nat) (n : Nat) (l : List Int) (k : Nat) (p : List Int) (E : Int) : Prop :=
  ∀ (w : World) (A : Option Addr) (c B : Nat), Rd w B A n l → n ≤ c → B ≤ w.heap.size → Calls Try.prog f #[.slice A n c] w fun e w' => ∃ A' c', e = .returned (.tuple #[.slice A' k c', .int .i64 E]) ∧ OB w' w.heap.size A' k c' p ∧ Below w.heap.size w w'
theorem aput_no (n : Nat) (l : List Int) (hn : n ≤ 140737488355328) (hm : mayB n = false) : APutSaid 9 n l 0 [] 2 := by
  intro w A c B hr hc hB
  have M := Lib.hid (may_any A n c w (by omega))
  rw [hm] at M
  clear hm hr
  go_enter Try.func9, Try.ntmps9
  go_wp2_with ((refine M.out.mono ?_); rintro e w' ⟨rfl, rfl⟩)
  go_returns
  exact ⟨none, 0, rfl, OB.nil_, Below.refl _ _⟩
theorem aput_yes (n k : Nat) (l p : List Int) (E : Int) (hn : n ≤ 140737488355328) (hm : mayB n = true) (h : RowSaid 31 n l 1 k p E) : APutSaid 9 n l k p E := by
  intro w A c B hr hc hB
  have M := Lib.hid (may_any A n c w (by omega))
  have R := Lib.hid (h w A c B hr hc hB)
  rw [hm] at M
  clear hm hr h
  go_enter Try.func9, Try.ntmps9
  go_wp2_with fail
  refine M.out.mono ?_
  rintro e w' ⟨rfl, rfl⟩
  go_wp2_with fail
  refine R.out.mono ?_
  rintro e w1 ⟨A1, c1, rfl, ho1, hb1⟩
  go_wp2_with fail
  go_returns
  exact ⟨A1, c1, rfl, ho1, hb1⟩
theorem refaput_no (n : Nat) (l : List Int) (hn : n ≤ 140737488355328) (hm : mayB n = false) : APutSaid 10 n l 0 [] 2 := by
  intro w A c B hr hc hB
  have M := Lib.hid (refmay_any A n c w (by omega))
  rw [hm] at M
  clear hm hr
  go_enter Try.func10, Try.ntmps10
  go_wp2_with ((refine M.out.mono ?_); rintro e w' ⟨rfl, rfl⟩)
  go_returns
  exact ⟨none, 0, rfl, OB.nil_, Below.refl _ _⟩
theorem refaput_yes (n k : Nat) (l p : List Int) (E : Int) (hn : n ≤ 140737488355328) (hm : mayB n = true) (h : RowSaid 32 n l 1 k p E) : APutSaid 10 n l k p E := by
  intro w A c B hr hc hB
  have M := Lib.hid (refmay_any A n c w (by omega))
  have R := Lib.hid (h w A c B hr hc hB)
  rw [hm] at M
  clear hm hr h
  go_enter Try.func10, Try.ntmps10
  go_wp2_with fail
  refine M.out.mono ?_
  rintro e w' ⟨rfl, rfl⟩
  go_wp2_with fail
  refine R.out.mono ?_
  rintro e w1 ⟨A1, c1, rfl, ho1, hb1⟩
  go_wp2_with fail
  go_returns
  exact ⟨A1, c1, rfl, ho1, hb1⟩
theorem aput_both (n : Nat) (l : List Int) (hn : n ≤ 140737488355328) : ∃ k p E, APutSaid 9 n l k p E ∧ APutSaid 10 n l k p E ∧ k ≤ 70000 := by
  cases hm : mayB n
  · exact ⟨0, [], 2, aput_no n l hn hm, refaput_no n l hn hm, by omega⟩
  · obtain ⟨k, p, E, h1, h2, hk⟩ := row_both n l 1 hn
    exact ⟨k, p, E, aput_yes n k l p E hn hm h1, refaput_yes n k l p E hn hm h2, hk⟩
def AGetSaid (f : Nat) (n : Nat) (l : List Int) (i : Int) (k : Nat) (p : List Int) (X E : Int) : Prop :=
  ∀ (w : World) (A : Option Addr) (c B : Nat), Rd w B A n l → n ≤ c → B ≤ w.heap.size → Calls Try.prog f #[.slice A n c, .int .i64 i] w fun e w' => ∃ A' c', e = .returned (.tuple #[.slice A' k c', .int .i64 X, .int .i64 E]) ∧ OB w' w.heap.size A' k c' p ∧ Below w.heap.size w w'
theorem aget_err (n k : Nat) (l p : List Int) (i X E : Int) (hE : ¬ E = 0) (h : GetRowSaid 33 n l i 1 k p X E) : AGetSaid 11 n l i 0 [] 0 E := by
  intro w A c B hr hc hB
  have R := Lib.hid (h w A c B hr hc hB)
  have q : (E != 0) = true := by simpa using hE
  clear hr h hE
  go_enter Try.func11, Try.ntmps11
  go_wp2_with fail
  refine R.out.mono ?_
  rintro e w1 ⟨A1, c1, rfl, ho1, hb1⟩
  go_wp2_with fail
  go_returns
  exact ⟨none, 0, rfl, OB.nil_, hb1⟩
theorem aget_form (n k : Nat) (l p : List Int) (i X : Int) (hk : k ≤ 70000) (hm : mayB k = false) (h : GetRowSaid 33 n l i 1 k p X 0) : AGetSaid 11 n l i 0 [] 0 5 := by
  intro w A c B hr hc hB
  have R := Lib.hid (h w A c B hr hc hB)
  have M := Lib.hid (fun A c w => may_any A k c w (by omega))
  rw [hm] at M
  clear hr h hm
  go_enter Try.func11, Try.ntmps11
  go_wp2_with fail
  refine R.out.mono ?_
  rintro e w1 ⟨A1, c1, rfl, ho1, hb1⟩
  go_wp2_with fail
  refine (M.out _ _ _).mono ?_
  rintro e w' ⟨rfl, rfl⟩
  go_wp2_with fail
  go_returns
  exact ⟨none, 0, rfl, OB.nil_, hb1⟩
theorem aget_ok (n k : Nat) (l p : List Int) (i X : Int) (hk : k ≤ 70000) (hm : mayB k = true) (h : GetRowSaid 33 n l i 1 k p X 0) : AGetSaid 11 n l i k p X 0 := by
  intro w A c B hr hc hB
  have R := Lib.hid (h w A c B hr hc hB)
  have M := Lib.hid (fun A c w => may_any A k c w (by omega))
  rw [hm] at M
  clear hr h hm
  go_enter Try.func11, Try.ntmps11
  go_wp2_with fail
  refine R.out.mono ?_
  rintro e w1 ⟨A1, c1, rfl, ho1, hb1⟩
  go_wp2_with fail
  refine (M.out _ _ _).mono ?_
  rintro e w' ⟨rfl, rfl⟩
  go_wp2_with fail
  go_returns
  exact ⟨A1, c1, rfl, ho1, hb1⟩
theorem refaget_err (n k : Nat) (l p : List Int) (i X E : Int) (hE : ¬ E = 0) (h : GetRowSaid 34 n l i 1 k p X E) : AGetSaid 12 n l i 0 [] 0 E := by
  intro w A c B hr hc hB
  have R := Lib.hid (h w A c B hr hc hB)
  have q : (E != 0) = true := by simpa using hE
  clear hr h hE
  go_enter Try.func12, Try.ntmps12
  go_wp2_with fail
  refine R.out.mono ?_
  rintro e w1 ⟨A1, c1, rfl, ho1, hb1⟩
  go_wp2_with fail
  go_returns
  exact ⟨none, 0, rfl, OB.nil_, hb1⟩
theorem refaget_form (n k : Nat) (l p : List Int) (i X : Int) (hk : k ≤ 70000) (hm : mayB k = false) (h : GetRowSaid 34 n l i 1 k p X 0) : AGetSaid 12 n l i 0 [] 0 5 := by
  intro w A c B hr hc hB
  have R := Lib.hid (h w A c B hr hc hB)
  have M := Lib.hid (fun A c w => refmay_any A k c w (by omega))
  rw [hm] at M
  clear hr h hm
  go_enter Try.func12, Try.ntmps12
  go_wp2_with fail
  refine R.out.mono ?_
  rintro e w1 ⟨A1, c1, rfl, ho1, hb1⟩
  go_wp2_with fail
  refine (M.out _ _ _).mono ?_
  rintro e w' ⟨rfl, rfl⟩
  go_wp2_with fail
  go_returns
  exact ⟨none, 0, rfl, OB.nil_, hb1⟩
theorem refaget_ok (n k : Nat) (l p : List Int) (i X : Int) (hk : k ≤ 70000) (hm : mayB k = true) (h : GetRowSaid 34 n l i 1 k p X 0) : AGetSaid 12 n l i k p X 0 := by
  intro w A c B hr hc hB
  have R := Lib.hid (h w A c B hr hc hB)
  have M := Lib.hid (fun A c w => refmay_any A k c w (by omega))
  rw [hm] at M
  clear hr h hm
  go_enter Try.func12, Try.ntmps12
  go_wp2_with fail
  refine R.out.mono ?_
  rintro e w1 ⟨A1, c1, rfl, ho1, hb1⟩
  go_wp2_with fail
  refine (M.out _ _ _).mono ?_
  rintro e w' ⟨rfl, rfl⟩
  go_wp2_with fail
  go_returns
  exact ⟨A1, c1, rfl, ho1, hb1⟩
theorem aget_both (n : Nat) (l : List Int) (i : Int) (hn : n ≤ 140737488355328) (hl : l.length = n) (hr : rng l) : ∃ k p X E, AGetSaid 11 n l i k p X E ∧ AGetSaid 12 n l i k p X E ∧ k ≤ 70000 := by
  obtain ⟨k, p, X, E, h1, h2, hk⟩ := getrow_both n l i 1 hn hl hr
  by_cases hE : E = 0
  · subst hE
    cases hm : mayB k
    · exact ⟨0, [], 0, 5, aget_form n k l p i X hk hm h1, refaget_form n k l p i X hk hm h2, by omega⟩
    · exact ⟨k, p, X, 0, aget_ok n k l p i X hk hm h1, refaget_ok n k l p i X hk hm h2, hk⟩
  · exact ⟨0, [], 0, E, aget_err n k l p i X E hE h1, refaget_err n k l p i X E hE h2, by omega⟩
end Go.Proofs.Ytojekhalpedfhaa
