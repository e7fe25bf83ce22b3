import Derived.Test.YtdjalolnngnioaaDk
set_option linter.unusedVariables false
namespace Go.Proofs.Ytdjalolnngnioaa
open Go.RowKit
theorem dig_num (l : List Int) (hr : rng l) : dig (num l) l.length = l := by
  have H : ∀ m : List Int, rng m.reverse → dig (num m.reverse) m.length = m.reverse := by
    intro m
    induction m with
    | nil => intro _; rfl
    | cons x m ih =>
      intro hr
      rw [List.reverse_cons] at hr ⊢
      have h1 := ih (fun y hy => hr y (List.mem_append.2 (.inl hy)))
      have h2 := hr x (List.mem_append.2 (.inr (by simp)))
      rw [num_snoc, List.length_cons]
      show dig ((256 * num m.reverse + x) / 256) m.length ++ [(256 * num m.reverse + x) % 256] = _
      rw [show (256 * num m.reverse + x) / 256 = num m.reverse by omega, show (256 * num m.reverse + x) % 256 = x by omega, h1]
  have := H l.reverse (by rwa [List.reverse_reverse])
  rwa [List.reverse_reverse, List.length_reverse] at this
theorem num_dig (s : Nat) : ∀ N : Int, 0 ≤ N → N < 256 ^ s → num (dig N s) = N := by
  induction s with
  | zero => intro N h0 h1; simp [dig, num_nil]; omega
  | succ s ih =>
    intro N h0 h1
    show num (dig (N / 256) s ++ [N % 256]) = N
    rw [Int.pow_succ] at h1
    rw [num_snoc, ih (N / 256) (by omega) (by omega)]
    omega
theorem num_ok (l : List Int) (k : Nat) (hl : l.length = k) (hr : rng l) (hk : k = 1 ∨ k = 2 ∨ k = 4) : 0 ≤ num l ∧ num l ≤ 4294967295 ∧ okN (num l) k := by
  have h := num_bd l hr
  rw [hl] at h
  unfold okN
  rcases hk with rfl | rfl | rfl <;> omega
theorem walk_once (A : Option Addr) (n c : Nat) (l : List Int) (i s : Int) (w : World) (hn : n ≤ 140737488355328) (hc : n ≤ c) (hr : Rd w w.heap.size A n l) :
    Calls Try.prog 7 #[.slice A n c, .int .i64 i, .int .i64 s] w fun e w' => e = .returned (.bool true) ∧ Below w.heap.size w w' := by
  by_cases h : noS s ∨ i < 0 ∨ (n : Int) < i
  · have H := Lib.hid (get_arg A n c i s w hc (by omega) h)
    clear h
    go_enter Try.func7, Try.ntmps7
    go_wp2_with fail
    refine H.out.mono ?_
    rintro e w1 ⟨rfl, rfl⟩
    go_wp2_with fail
    refine (lives_any _).mono ?_
    rintro e w2 ⟨rfl, hb⟩
    go_wp2_with fail
    go_returns
    exact ⟨rfl, hb⟩
  · have hs : s = 1 ∨ s = 2 ∨ s = 4 := by unfold noS at h; omega
    by_cases h4 : (n : Int) - i < s
    · have H := Lib.hid (get_short A n c i s w hc (by omega) hs (by omega) (by omega) h4)
      clear h
      go_enter Try.func7, Try.ntmps7
      go_wp2_with fail
      refine H.out.mono ?_
      rintro e w1 ⟨rfl, rfl⟩
      go_wp2_with fail
      refine (lives_any _).mono ?_
      rintro e w2 ⟨rfl, hb⟩
      go_wp2_with fail
      go_returns
      exact ⟨rfl, hb⟩
    · obtain ⟨k, rfl⟩ : ∃ k : Nat, s = k := ⟨s.toNat, by omega⟩
      obtain ⟨j, rfl⟩ : ∃ j : Nat, i = j := ⟨i.toNat, by omega⟩
      have hjk : j + k ≤ n := by omega
      have hp := hr.cut (A' := cutA A c j) hjk (fun hm => by unfold cutA; rw [if_neg (by omega)])
      have h1 := get_ok A n c _ j k l w hc (by omega) hr (by omega) hjk
      obtain ⟨v0, v1, vk⟩ := num_ok _ k hp.len hp.rg (by omega)
      have h2 := fun w => put_ok _ k w v0 vk
      rw [show dig (num ((l.drop j).take k)) k = (l.drop j).take k from by have := dig_num _ hp.rg; rwa [hp.len] at this] at h2
      generalize (l.drop j).take k = p at h1 h2 hp v0 v1
      generalize num p = V at h1 h2 v0 v1
      have H1 := Lib.hid h1
      have H2 := Lib.hid h2
      have HP := Lib.hid hp
      have hcut := fun w => run_cut2 w A n c j k (by omega)
      have i1 : (j : Int) ≤ (n : Int) := by omega
      have i2 : (k : Int) ≤ (n : Int) - (j : Int) := by omega
      have k4 : k ≤ 4 := by omega
      clear h1 h2 hp h h4 hs vk
      go_enter Try.func7, Try.ntmps7
      go_wp2_with fail
      refine H1.out.mono ?_
      rintro e w1 ⟨rfl, rfl⟩
      go_wp2_with fail
      refine (H2.out _).mono ?_
      rintro e w2 ⟨A2, c2, rfl, ho2, hb2⟩
      go_wp2_with fail
      refine (same_yes A2 (cutA A c j) k c2 (c - j) _ _ p w2 (by omega) ho2.rd (HP.out.below hb2 (Nat.le_refl _))).mono ?_
      rintro e w3 ⟨rfl, q, rfl⟩
      go_wp2_with fail
      refine (lives_any _).mono ?_
      rintro e w4 ⟨rfl, hb4⟩
      go_wp2_with fail
      go_returns
      exact ⟨rfl, (below_drewN hb2 q).trans (hb4.mono hb2.size)⟩
theorem walk_fresh (A : Option Addr) (n c : Nat) (l : List Int) (i m : Int) (w : World) (hn : n ≤ 140737488355328) (hc : n ≤ c) (hr : Rd w w.heap.size A n l) :
    Calls Try.prog 8 #[.slice A n c, .int .i64 i, .int .i64 m] w fun e w' => e = .returned (.bool true) ∧ Below w.heap.size w w' := by
  obtain ⟨k, p, F, h3, h4, hk⟩ := part_both n l i m hn hr.len
  have H3 := Lib.hid h3
  have H4 := Lib.hid h4
  have hrow : ∃ k2 p2 E, RowSaid 19 n l 2 k2 p2 E ∧ (n < 65536 ∧ E = 0 ∨ 65536 ≤ n ∧ E = 3) := by
    by_cases h6 : n < 65536
    · exact ⟨2 + n, dig n 2 ++ l, 0, fun w A c B hr hc hB => putrow_ok A n c B 2 l w hr hB (by omega), .inl ⟨h6, rfl⟩⟩
    · refine ⟨0, [], 3, fun w A c B hr hc hB => ?_, .inr ⟨by omega, rfl⟩⟩
      refine (putrow_limit A n c 2 w (by omega) (by omega)).mono ?_
      rintro e w' ⟨rfl, rfl⟩
      exact ⟨none, 0, rfl, OB.nil_, Below.refl _ _⟩
  clear h3 h4
  obtain ⟨k2, p2, E, h5, h6⟩ := hrow
  have H5 := Lib.hid h5
  clear h5
  rcases h6 with ⟨h6, rfl⟩ | ⟨h6, rfl⟩
  all_goals
    first | (have i6 : decide ((n : Int) < 65536) = true := decide_eq_true (by omega)) | (have i6 : decide ((n : Int) < 65536) = false := decide_eq_false (by omega))
    go_enter Try.func8, Try.ntmps8
    go_wp2_with fail
    refine (copy_any A n c _ l w hn hr (Nat.le_refl _)).mono ?_
    rintro e w1 ⟨A1, c1, rfl, ho1, hb1⟩
    go_wp2_with fail
    refine (H3.out _ _ _ _ (hr.below hb1 (Nat.le_refl _)) hc hb1.size).mono ?_
    rintro e w2 ⟨A2, c2, rfl, ho2, hb2⟩
    have B2 := hb1.trans (hb2.mono hb1.size)
    go_wp2_with fail
    refine (spoil_any _ A2 k c2 p 3 w2 ho2 hb2.size (by omega) (by omega)).mono ?_
    rintro e w3 ⟨rfl, hb3⟩
    have B3 := B2.trans (hb3.mono hb1.size)
    have C3 := hb2.trans hb3
    go_wp2_with fail
    refine (H5.out _ _ _ _ (hr.below B3 (Nat.le_refl _)) hc B3.size).mono ?_
    rintro e w4 ⟨A4, c4, rfl, ho4, hb4⟩
    have B4 := B3.trans (hb4.mono B3.size)
    have C4 := C3.trans (hb4.mono C3.size)
    go_wp2_with fail
    refine (spoil_any _ A4 k2 c4 p2 3 w4 ho4 hb4.size (by omega) (by omega)).mono ?_
    rintro e w5 ⟨rfl, hb5⟩
    have B5 := B4.trans (hb5.mono B3.size)
    have C5 := C4.trans (hb5.mono C3.size)
    go_wp2_with fail
    refine (H3.out _ _ _ _ (hr.below B5 (Nat.le_refl _)) hc B5.size).mono ?_
    rintro e w6 ⟨A6, c6, rfl, ho6, hb6⟩
    have B6 := B5.trans (hb6.mono B5.size)
    have C6 := C5.trans (hb6.mono C5.size)
    go_wp2_with fail
    refine (H4.out _ _ _ _ (ho1.rd.below C6 (Nat.le_refl _)) ho1.le C6.size).mono ?_
    rintro e w7 ⟨A7, c7, rfl, ho7, hb7⟩
    have B7 := B6.trans (hb7.mono B6.size)
    have C7 := C6.trans (hb7.mono C6.size)
    go_wp2_with fail
    refine (same_yes A6 A7 k c6 c7 _ _ p w7 (by omega) (ho6.rd.below hb7 (Nat.le_refl _)) ho7.rd).mono ?_
    rintro e w8 ⟨rfl, q8, rfl⟩
    go_wp2_with fail
    refine (same_yes A A1 n c c1 _ _ l _ (by omega) ((hr.below B7 (Nat.le_refl _)).drewN q8) ((ho1.rd.below C7 (Nat.le_refl _)).drewN q8)).mono ?_
    rintro e w9 ⟨rfl, q9, rfl⟩
    go_wp2_with fail
    refine (lives_any _).mono ?_
    rintro e w10 ⟨rfl, hb10⟩
    go_wp2_with fail
    go_returns
    exact ⟨rfl, (below_drewN B7 _).trans (hb10.mono B7.size)⟩
end Go.Proofs.Ytdjalolnngnioaa
