import Derived.Test.YtdjalolnngnioaaDj
set_option linter.unusedVariables false
namespace Go.Proofs.Ytdjalolnngnioaa
open Go.RowKit
theorem size_le {W w : World} (h : Below W.heap.size W w) : W.heap.size ≤ w.heap.size := h.size
theorem walk_gets (A : Option Addr) (n c : Nat) (l : List Int) (i s m : Int) (w : World) (hn : n ≤ 140737488355328) (hc : n ≤ c) (hr : Rd w w.heap.size A n l) :
    Calls Try.prog 4 #[.slice A n c, .int .i64 i, .int .i64 s, .int .i64 m] w fun e w' => e = .returned (.bool true) ∧ Below w.heap.size w w' := by
  obtain ⟨V, E, h1, h2⟩ := get_both n l i s (by omega) hr.len
  obtain ⟨k, p, F, h3, h4, hk⟩ := part_both n l i m hn hr.len
  have H1 := Lib.hid h1
  have H2 := Lib.hid h2
  have H3 := Lib.hid h3
  have H4 := Lib.hid h4
  clear h1 h2 h3 h4
  go_enter Try.func4, Try.ntmps4
  go_wp2_with fail
  refine (wide_any A n c _ l _ hn hr (Nat.le_refl _)).mono ?_
  rintro e w1 ⟨A1, rfl, hw1, hb1⟩
  go_wp2_with fail
  refine (H1.out _ _ _ _ hw1.rd (by omega)).mono ?_
  rintro e w1' ⟨rfl, rfl⟩
  go_wp2_with fail
  refine (H2.out _ _ _ _ (hr.below hb1 (Nat.le_refl _)) hc).mono ?_
  rintro e w1' ⟨rfl, rfl⟩
  go_wp2_with fail
  refine (H3.out _ _ _ _ hw1.rd (by omega) (Nat.le_refl _)).mono ?_
  rintro e w2 ⟨A2, c2, rfl, ho2, hb2⟩
  have B2 := hb1.trans (hb2.mono hb1.size)
  go_wp2_with fail
  refine (H4.out _ _ _ _ (hr.below B2 (Nat.le_refl _)) hc B2.size).mono ?_
  rintro e w3 ⟨A3, c3, rfl, ho3, hb3⟩
  have B3 := B2.trans (hb3.mono B2.size)
  go_wp2_with fail
  refine (same_yes A2 A3 k c2 c3 _ _ p w3 (by omega) (ho2.rd.below hb3 (Nat.le_refl _)) ho3.rd).mono ?_
  rintro e w4 ⟨rfl, q, rfl⟩
  go_wp2_with fail
  refine (left_any _ A1 A n c _ l _ hn (((hw1.below hb2).below hb3).below (below_drewN' q)) ((hr.below B3 (Nat.le_refl _)).drewN q)).mono ?_
  rintro e w5 ⟨rfl, q5, rfl⟩
  go_wp2_with fail
  refine (lives_any _).mono ?_
  rintro e w6 ⟨rfl, hb6⟩
  go_wp2_with fail
  go_returns
  exact ⟨rfl, (below_drewN B3 _).trans (hb6.mono B3.size)⟩
theorem walk_rows (A : Option Addr) (n c : Nat) (l : List Int) (i s : Int) (w : World) (hn : n ≤ 140737488355328) (hc : n ≤ c) (hr : Rd w w.heap.size A n l) :
    Calls Try.prog 5 #[.slice A n c, .int .i64 i, .int .i64 s] w fun e w' => e = .returned (.bool true) ∧ Below w.heap.size w w' := by
  obtain ⟨k, p, E, h1, h2, hk⟩ := row_both n l s hn
  obtain ⟨k2, p2, X, F, h3, h4, hk2⟩ := getrow_both n l i s hn hr.len hr.rg
  have H1 := Lib.hid h1
  have H2 := Lib.hid h2
  have H3 := Lib.hid h3
  have H4 := Lib.hid h4
  clear h1 h2 h3 h4
  go_enter Try.func5, Try.ntmps5
  go_wp2_with fail
  refine (wide_any A n c _ l _ hn hr (Nat.le_refl _)).mono ?_
  rintro e w1 ⟨A1, rfl, hw1, hb1⟩
  go_wp2_with fail
  refine (H1.out _ _ _ _ hw1.rd (by omega) (Nat.le_refl _)).mono ?_
  rintro e w2 ⟨A2, c2, rfl, ho2, hb2⟩
  have B2 := hb1.trans (hb2.mono hb1.size)
  go_wp2_with fail
  refine (H2.out _ _ _ _ (hr.below B2 (Nat.le_refl _)) hc B2.size).mono ?_
  rintro e w3 ⟨A3, c3, rfl, ho3, hb3⟩
  have B3 := B2.trans (hb3.mono B2.size)
  go_wp2_with fail
  refine (same_yes A2 A3 k c2 c3 _ _ p w3 (by omega) (ho2.rd.below hb3 (Nat.le_refl _)) ho3.rd).mono ?_
  rintro e w4 ⟨rfl, q, rfl⟩
  have hw3 := ((hw1.below hb2).below hb3).below (below_drewN' q)
  have B4 := below_drewN B3 q
  go_wp2_with fail
  refine (H3.out _ _ _ _ hw3.rd (by omega) (Nat.le_refl _)).mono ?_
  rintro e w5 ⟨A5, c5, rfl, ho5, hb5⟩
  have B5 := B4.trans (hb5.mono B4.size)
  go_wp2_with fail
  refine (H4.out _ _ _ _ (hr.below B5 (Nat.le_refl _)) hc B5.size).mono ?_
  rintro e w6 ⟨A6, c6, rfl, ho6, hb6⟩
  have B6 := B5.trans (hb6.mono B5.size)
  go_wp2_with fail
  refine (same_yes A5 A6 k2 c5 c6 _ _ p2 w6 (by omega) (ho5.rd.below hb6 (Nat.le_refl _)) ho6.rd).mono ?_
  rintro e w7 ⟨rfl, q7, rfl⟩
  go_wp2_with fail
  refine (left_any _ A1 A n c _ l _ hn (((hw3.below hb5).below hb6).below (below_drewN' q7)) ((hr.below B6 (Nat.le_refl _)).drewN q7)).mono ?_
  rintro e w8 ⟨rfl, q8, rfl⟩
  go_wp2_with fail
  refine (lives_any _).mono ?_
  rintro e w9 ⟨rfl, hb9⟩
  go_wp2_with fail
  go_returns
  exact ⟨rfl, (below_drewN B6 _).trans (hb9.mono B6.size)⟩
end Go.Proofs.Ytdjalolnngnioaa
