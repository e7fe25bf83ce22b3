import Derived.Test.YtolifmpkillglaaDoorIo
set_option linter.unusedVariables false
set_option maxRecDepth 100000
namespace Go.Proofs.YtolifmpkillglaaDoor
open Go.RowKit
/-! works: the examples that the law asks of. -/
theorem read_lit (l : List Int) (hr : rng l) (hn : l.length ≤ 100) (e : Int) (L : List Ins) (he : (readC l).1 = e) (hL : (readC l).2 = L) (w : World) (T : TE w) :
    Calls Tryd.prog 5 #[.slice (some ⟨w.heap.size, 0, none⟩) l.length l.length] (w.alloc (.cells (BL l) 5)) fun e' w' => ∃ A' c' rs, e' = .returned (.tuple #[.slice A' L.length c', .int .i64 e]) ∧ IV w' w'.heap.size A' L.length rs L ∧ Below w.heap.size w w' := by
  refine (read_any l (w.alloc (.cells (BL l) 5)) (w.heap.size + 1) (some ⟨w.heap.size, 0, none⟩) l.length l.length (T.alloc _) (rd_litc w l hr) (Nat.le_refl _) (by omega) (by simp)).mono ?_
  rintro e' w' ⟨A', c', rs, rfl, N1, b1⟩
  subst he hL
  exact ⟨A', c', rs, rfl, N1.iv, (below_new w _).trans (b1.mono (by simp))⟩
theorem read_nil (e : Int) (L : List Ins) (he : (readC []).1 = e) (hL : (readC []).2 = L) (w : World) (T : TE w) :
    Calls Tryd.prog 5 #[.slice none 0 0] w fun e' w' => ∃ A' c' rs, e' = .returned (.tuple #[.slice A' L.length c', .int .i64 e]) ∧ IV w' w'.heap.size A' L.length rs L ∧ Below w.heap.size w w' := by
  refine (read_any [] w 0 none 0 0 T Rd.none_ (Nat.le_refl _) (by omega) (by omega)).mono ?_
  rintro e' w' ⟨A', c', rs, rfl, N1, b1⟩
  subst he hL
  exact ⟨A', c', rs, rfl, N1.iv, b1⟩
set_option maxHeartbeats 2000000 in
theorem works_any (w : World) (T : TE w) : Calls Tryd.prog 13 #[] w fun e w' => e = .returned (.bool true) ∧ Below w.heap.size w w' := by
  obtain ⟨e1, l1, p1, p2⟩ := w1_ok
  obtain ⟨e2, l2⟩ := w2_ok
  obtain ⟨e3, l3⟩ := w3_ok
  obtain ⟨e4, l4, p4⟩ := w4_ok
  obtain ⟨e5, l5⟩ := w5_ok
  have H1 := Lib.hid (fun W T => read_lit [3, 122] (by intro x hx; simp only [List.mem_cons, List.not_mem_nil, or_false] at hx; omega) (by decide) 0 _ e1 rfl W T)
  have H2 := Lib.hid (fun W T => read_lit [9] (by intro x hx; simp only [List.mem_cons, List.not_mem_nil, or_false] at hx; omega) (by decide) 5 _ e2 rfl W T)
  have H3 := Lib.hid (fun W T => read_lit [16] (by intro x hx; simp only [List.mem_cons, List.not_mem_nil, or_false] at hx; omega) (by decide) 4 _ e3 rfl W T)
  have H4 := Lib.hid (fun W T => read_lit [112, 0, 0] (by intro x hx; simp only [List.mem_cons, List.not_mem_nil, or_false] at hx; omega) (by decide) 0 _ e4 rfl W T)
  have H5 := Lib.hid (fun W T => read_nil 5 _ e5 rfl W T)
  generalize (readC [3, 122]).2 = L1 at H1 l1 p1 p2
  generalize (readC [9]).2 = L2 at H2 l2
  generalize (readC [16]).2 = L3 at H3 l3
  generalize (readC [112, 0, 0]).2 = L4 at H4 l4 p4
  generalize (readC []).2 = L5 at H5 l5
  rw [l1] at H1
  rw [l2] at H2
  rw [l3] at H3
  rw [l4] at H4
  rw [l5] at H5
  have P1 := Lib.hid p1
  have P2 := Lib.hid p2
  have P4 := Lib.hid p4
  have HT := Lib.hid T
  clear e1 e2 e3 e4 e5 l2 l3 l5 l1 l4 p1 p2 p4 T
  go_enter Tryd.func13, Tryd.ntmps13
  go_wp2_with fail
  refine (H1.out _ HT.out).mono ?_
  rintro e w1 ⟨A1, c1, r1, rfl, V1, b1⟩
  have HV1 := Lib.hid V1
  have HB := Lib.hid b1
  have HT := Lib.hid (HT.out.below' b1)
  clear V1 b1
  go_wp2_with fail
  refine (H2.out _ HT.out).mono ?_
  rintro e w2 ⟨A2, c2, r2, rfl, V2, b2⟩
  have HV1 := Lib.hid (HV1.out.below b2 (Nat.le_refl _))
  have HB := Lib.hid (HB.out.trans (b2.mono HB.out.size))
  have HT := Lib.hid (HT.out.below' b2)
  have hz2 := b2.size
  clear V2 b2
  go_wp2_with fail
  refine (H3.out _ HT.out).mono ?_
  rintro e w3 ⟨A3, c3, r3, rfl, V3, b3⟩
  have HV1 := Lib.hid (HV1.out.below b3 hz2)
  have HB := Lib.hid (HB.out.trans (b3.mono HB.out.size))
  have HT := Lib.hid (HT.out.below' b3)
  have hz3 := b3.size
  clear V3 b3
  go_wp2_with fail
  refine (H4.out _ HT.out).mono ?_
  rintro e w4 ⟨A4, c4, r4, rfl, V4, b4⟩
  have HV1 := Lib.hid (HV1.out.below b4 (by omega))
  have HV4 := Lib.hid V4
  have HB := Lib.hid (HB.out.trans (b4.mono HB.out.size))
  have HT := Lib.hid (HT.out.below' b4)
  have hz4 := b4.size
  clear V4 b4
  go_wp2_with fail
  refine (H5.out _ HT.out).mono ?_
  rintro e w5 ⟨A5, c5, r5, rfl, V5, b5⟩
  have HV1 := Lib.hid (HV1.out.below b5 (by omega))
  have HV4 := Lib.hid (HV4.out.below b5 (Nat.le_refl _))
  have HB := Lib.hid (HB.out.trans (b5.mono HB.out.size))
  clear V5 b5
  obtain ⟨b, o, rfl, _, x0, x1, _⟩ := HV1.out.ten 0 (by decide)
  obtain ⟨b', o', hbo, _, y0, _⟩ := HV1.out.ten 1 (by decide)
  cases hbo
  obtain ⟨b6, o6, rfl, _, z0, z1, z2, z3, z4, z5, z6, _⟩ := HV4.out.ten 0 (by decide)
  have q1 := (HV1.out.each 0 (by decide)).sc
  have q2 := (HV1.out.each 1 (by decide)).sc
  have q4 := (HV4.out.each 0 (by decide)).sc
  rw [q1, P1.out] at x1
  rw [q2, P2.out] at y0
  rw [q4, P4.out] at z6
  simp only [Nat.zero_mul, Nat.add_zero, Nat.one_mul] at x1 y0 z6
  clear q1 q2 q4 x0 z0 z1 z2 z3 z4 z5
  go_wp2_with fail
  go_returns
  exact ⟨rfl, HB.out⟩
end Go.Proofs.YtolifmpkillglaaDoor
