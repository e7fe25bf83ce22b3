import Derived.Test.YtojekhalpedfhaaEd
set_option linter.unusedVariables false
namespace Go.Proofs.Ytojekhalpedfhaa
open Go.RowKit
/-! The laws' walks. -/
theorem less_tri : ∀ a b : List Int, (lessZ a b = true ∧ lessZ b a = false ∧ decide (a = b) = false) ∨ (lessZ a b = false ∧ lessZ b a = true ∧ decide (a = b) = false) ∨ (lessZ a b = false ∧ lessZ b a = false ∧ decide (a = b) = true)
  | [], [] => by simp [lessZ, cmpZ]
  | [], _ :: _ => by simp [lessZ, cmpZ]
  | _ :: _, [] => by simp [lessZ, cmpZ]
  | x :: a, y :: b => by
    have ih := less_tri a b
    unfold lessZ at ih ⊢
    by_cases h1 : x < y
    · have h2 : ¬ y < x := by omega
      have h3 : ¬ x = y := by omega
      simp [cmpZ, h1, h2, h3]
    · by_cases h2 : y < x
      · have h3 : ¬ x = y := by omega
        simp [cmpZ, h1, h2, h3]
      · have h3 : x = y := by omega
        subst h3
        simpa [cmpZ] using ih
theorem cmp_lt (x y : Int) (a b : List Int) : cmpZ (x :: a) (y :: b) < 0 ↔ x < y ∨ (x = y ∧ cmpZ a b < 0) := by
  show (if x < y then -1 else if y < x then 1 else cmpZ a b) < 0 ↔ _
  by_cases h1 : x < y
  · rw [if_pos h1]; constructor
    · intro _; exact .inl h1
    · intro _; decide
  · by_cases h2 : y < x
    · rw [if_neg h1, if_pos h2]; omega
    · rw [if_neg h1, if_neg h2]; omega
theorem cmp_trans : ∀ a b c : List Int, cmpZ a b < 0 → cmpZ b c < 0 → cmpZ a c < 0
  | [], [], _, h, _ => by simp [cmpZ] at h
  | [], _ :: _, [], _, h => by simp [cmpZ] at h
  | [], _ :: _, _ :: _, _, _ => by simp [cmpZ]
  | _ :: _, [], _, h, _ => by simp [cmpZ] at h
  | _ :: _, _ :: _, [], _, h => by simp [cmpZ] at h
  | x :: a, y :: b, z :: c, h, k => by
    have ih := cmp_trans a b c
    rw [cmp_lt] at h k ⊢
    rcases h with h | ⟨h1, h2⟩ <;> rcases k with k | ⟨k1, k2⟩
    · left; omega
    · left; omega
    · left; omega
    · exact .inr ⟨by omega, ih h2 k2⟩
theorem less_trans (a b c : List Int) (h : lessZ a b = true) (k : lessZ b c = true) : lessZ a c = true :=
  decide_eq_true (cmp_trans a b c (of_decide_eq_true h) (of_decide_eq_true k))
theorem awalk_puts (A1 A2 : Option Addr) (n1 n2 c1 c2 : Nat) (l1 l2 : List Int) (i : Int) (w : World) (hn1 : n1 ≤ 140737488355328) (hn2 : n2 ≤ 140737488355328) (hc1 : n1 ≤ c1) (hc2 : n2 ≤ c2) (hr1 : Rd w w.heap.size A1 n1 l1) (hr2 : Rd w w.heap.size A2 n2 l2) :
    Calls Try.prog 3 #[.slice A1 n1 c1, .slice A2 n2 c2, .int .i64 i] w fun e w' => e = .returned (.bool true) ∧ Below w.heap.size w w' := by
  obtain ⟨k, p, E, h1, h2, hk⟩ := aput_both n1 l1 hn1
  obtain ⟨j, s, X, F, h3, h4, hj⟩ := aget_both n2 l2 i hn2 hr2.len hr2.rg
  have H1 := Lib.hid h1
  have H2 := Lib.hid h2
  have H3 := Lib.hid h3
  have H4 := Lib.hid h4
  clear h1 h2 h3 h4
  have R1 := Lib.hid hr1
  have R2 := Lib.hid hr2
  clear hr1 hr2
  go_enter Try.func3, Try.ntmps3
  go_wp2_with fail
  refine (H1.out _ _ _ _ R1.out hc1 (Nat.le_refl _)).mono ?_
  rintro e w1 ⟨B1, d1, rfl, ho1, hb1⟩
  go_wp2_with fail
  refine (H2.out _ _ _ _ (R1.out.below hb1 (Nat.le_refl _)) hc1 hb1.size).mono ?_
  rintro e w2 ⟨B2, d2, rfl, ho2, hb2⟩
  have E2 := hb1.trans (hb2.mono hb1.size)
  go_wp2_with fail
  refine (H3.out _ _ _ _ (R2.out.below E2 (Nat.le_refl _)) hc2 E2.size).mono ?_
  rintro e w3 ⟨B3, d3, rfl, ho3, hb3⟩
  have E3 := E2.trans (hb3.mono E2.size)
  go_wp2_with fail
  refine (H4.out _ _ _ _ (R2.out.below E3 (Nat.le_refl _)) hc2 E3.size).mono ?_
  rintro e w4 ⟨B4, d4, rfl, ho4, hb4⟩
  have E4 := E3.trans (hb4.mono E3.size)
  go_wp2_with fail
  refine (may_any _ _ _ _ (by omega)).mono ?_
  rintro e w' ⟨rfl, rfl⟩
  go_wp2_with fail
  refine (refmay_any _ _ _ _ (by omega)).mono ?_
  rintro e w' ⟨rfl, rfl⟩
  go_wp2_with fail
  refine (same_yes B1 B2 k d1 d2 _ _ p w4 (by omega) (((ho1.rd.below hb2 (Nat.le_refl _)).below hb3 hb2.size).below hb4 (Nat.le_trans hb2.size hb3.size)) ((ho2.rd.below hb3 (Nat.le_refl _)).below hb4 hb3.size)).mono ?_
  rintro e w5 ⟨rfl, q5, rfl⟩
  go_wp2_with fail
  refine (same_yes B3 B4 j d3 d4 w3.heap.size w4.heap.size s _ (by omega) ((ho3.rd.below hb4 (Nat.le_refl _)).drewN q5) (ho4.rd.drewN q5)).mono ?_
  rintro e w6 ⟨rfl, q6, rfl⟩
  go_wp2_with fail
  refine (works_any _).mono ?_
  rintro e w7 ⟨rfl, hb7⟩
  go_wp2_with fail
  go_returns
  exact ⟨rfl, (below_drewN E4 _).trans (hb7.mono E4.size)⟩
theorem awalk_order (A1 A2 A3 : Option Addr) (n1 n2 n3 c1 c2 c3 : Nat) (l1 l2 l3 : List Int) (w : World) (hr1 : Rd w w.heap.size A1 n1 l1) (hr2 : Rd w w.heap.size A2 n2 l2) (hr3 : Rd w w.heap.size A3 n3 l3) :
    Calls Try.prog 6 #[.slice A1 n1 c1, .slice A2 n2 c2, .slice A3 n3 c3] w fun e w' => e = .returned (.bool true) ∧ Below w.heap.size w w' := by
  have AB := Lib.hid (ahead_any A1 A2 n1 n2 c1 c2 _ _ l1 l2 w hr1 hr2)
  have BA := Lib.hid (ahead_any A2 A1 n2 n1 c2 c1 _ _ l2 l1 w hr2 hr1)
  have BC := Lib.hid (ahead_any A2 A3 n2 n3 c2 c3 _ _ l2 l3 w hr2 hr3)
  have AC := Lib.hid (ahead_any A1 A3 n1 n3 c1 c3 _ _ l1 l3 w hr1 hr3)
  have SS := Lib.hid (aidsame_any A1 A2 n1 n2 c1 c2 _ _ l1 l2 w hr1 hr2)
  clear hr1 hr2 hr3
  have HT := less_trans l1 l2 l3
  rcases less_tri l1 l2 with ⟨e1, e2, e3⟩ | ⟨e1, e2, e3⟩ | ⟨e1, e2, e3⟩
  · rw [e1] at AB
    rw [e2] at BA
    rw [e3] at SS
    have HT := HT e1
    cases e4 : lessZ l2 l3
    · rw [e4] at BC
      clear HT e1 e2 e3 e4 AC
      go_enter Try.func6, Try.ntmps6
      go_wp2_with fail
      refine AB.out.mono ?_
      rintro e w' ⟨rfl, rfl⟩
      go_wp2_with fail
      refine BA.out.mono ?_
      rintro e w' ⟨rfl, rfl⟩
      go_wp2_with fail
      refine SS.out.mono ?_
      rintro e w' ⟨rfl, rfl⟩
      go_wp2_with fail
      refine AB.out.mono ?_
      rintro e w' ⟨rfl, rfl⟩
      go_wp2_with fail
      refine BC.out.mono ?_
      rintro e w' ⟨rfl, rfl⟩
      go_wp2_with fail
      refine (works_any _).mono ?_
      rintro e w7 ⟨rfl, hb7⟩
      go_wp2_with fail
      go_returns
      exact ⟨rfl, hb7⟩
    · rw [e4] at BC
      rw [HT e4] at AC
      clear HT e1 e2 e3 e4
      go_enter Try.func6, Try.ntmps6
      go_wp2_with fail
      refine AB.out.mono ?_
      rintro e w' ⟨rfl, rfl⟩
      go_wp2_with fail
      refine BA.out.mono ?_
      rintro e w' ⟨rfl, rfl⟩
      go_wp2_with fail
      refine SS.out.mono ?_
      rintro e w' ⟨rfl, rfl⟩
      go_wp2_with fail
      refine AB.out.mono ?_
      rintro e w' ⟨rfl, rfl⟩
      go_wp2_with fail
      refine BC.out.mono ?_
      rintro e w' ⟨rfl, rfl⟩
      go_wp2_with fail
      refine AC.out.mono ?_
      rintro e w' ⟨rfl, rfl⟩
      go_wp2_with fail
      refine (works_any _).mono ?_
      rintro e w7 ⟨rfl, hb7⟩
      go_wp2_with fail
      go_returns
      exact ⟨rfl, hb7⟩
  all_goals
    rw [e1] at AB
    rw [e2] at BA
    rw [e3] at SS
    clear HT e1 e2 e3 AC BC
    go_enter Try.func6, Try.ntmps6
    go_wp2_with fail
    refine AB.out.mono ?_
    rintro e w' ⟨rfl, rfl⟩
    go_wp2_with fail
    refine BA.out.mono ?_
    rintro e w' ⟨rfl, rfl⟩
    go_wp2_with fail
    refine SS.out.mono ?_
    rintro e w' ⟨rfl, rfl⟩
    go_wp2_with fail
    refine AB.out.mono ?_
    rintro e w' ⟨rfl, rfl⟩
    go_wp2_with fail
    refine (works_any _).mono ?_
    rintro e w7 ⟨rfl, hb7⟩
    go_wp2_with fail
    go_returns
    exact ⟨rfl, hb7⟩
def Far (base hi : Nat) (w w' : World) : Prop := Below base w w' ∧ ∀ k, hi ≤ k → w'.heap[k]? = w.heap[k]?
theorem Far.refl (base hi : Nat) (w : World) : Far base hi w w := ⟨Below.refl _ _, fun _ _ => rfl⟩
theorem Far.set {base hi g k : Nat} {w w' : World} {v : Value} (h : Far base hi w w') (hb : base ≤ g) (hg : g < hi) : Far base hi w (w'.setCell ⟨g, k, none⟩ v) :=
  ⟨h.1.setCell hb _, fun j hj => (heap_setCell_other w' ⟨g, k, none⟩ j v (by simp; omega)).trans (h.2 j hj)⟩
theorem OB.far {w w' : World} {base hi b0 n c : Nat} {A : Option Addr} {l : List Int} (h : OB w b0 A n c l) (hf : Far base hi w w') (hb : hi ≤ b0) : OB w' b0 A n c l := h.keep fun g hg _ => hf.2 g (Nat.le_trans hb hg)
theorem OB.below_of {w : World} {base n c : Nat} {A : Option Addr} {l : List Int} (h : OB w base A n c l) : ∀ g off sp, A = some ⟨g, off, sp⟩ → g < w.heap.size := by
  intro g off sp e
  rcases h.2.2.2.2 with ⟨rfl, _⟩ | ⟨g', zs, rfl, _, hh, _⟩
  · cases e
  · cases e; exact lt_heap hh
theorem spoil_far (base hi : Nat) (A : Option Addr) (n c : Nat) (l : List Int) (by_ : Int) (w : World) (hob : OB w base A n c l) (hA : ∀ g off sp, A = some ⟨g, off, sp⟩ → g < hi) (b0 : 0 ≤ by_) (b1 : by_ < 256) :
    Calls Try.prog 29 #[.slice A n c, .int .u8 by_] w fun e w' => e = .returned (.tuple #[]) ∧ Far base hi w w' := by
  obtain ⟨h1, h2, h3, h4, h5⟩ := hob
  unfold maxLen at h4
  by_cases hc0 : c = 0
  · subst hc0
    obtain rfl : n = 0 := by omega
    clear h1 h2 h5 hA
    go_enter Try.func29, Try.ntmps29
    go_wp2
    refine wp_loop_rounds 1 ?_
    rw [rounds_succ]
    go_wp2
    go_returns
    exact ⟨rfl, Far.refl _ _ _⟩
  · rcases h5 with ⟨_, _, h0⟩ | ⟨g, zs, rfl, hg, hh, hz, ht, hrz⟩
    · exact absurd h0 hc0
    · clear h1 h2 ht
      have hlt0 := lt_heap hh
      have hgh := hA _ _ _ rfl
      clear hA
      have HI := Lib.hid (show ∃ zs : List Int, w.heap[g]? = some (.cells (BL zs) 5 (0, 0)) ∧ zs.length = c ∧ rng zs from ⟨zs, hh, hz, hrz⟩)
      clear hh hz hrz
      have e1 : ¬ c = 0 := hc0
      go_enter Try.func29, Try.ntmps29
      go_wp2
      go_loopw [5] (fun i wr => ∃ k : Nat, k ≤ c ∧ i = .int .i64 k ∧ (∃ zs : List Int, wr.heap[g]? = some (.cells (BL zs) 5 (0, 0)) ∧ zs.length = c ∧ rng zs) ∧ Far base hi w wr) (fun i _ => c - (intOf i).toNat)
      case atStart => exact ⟨0, Nat.zero_le _, rfl, HI.out, Far.refl _ _ _⟩
      case round =>
        obtain ⟨k, hk, rfl, ⟨ys, hy, hyl, hyr⟩, hb⟩ := hrel
        have HY := Lib.hid hy
        have HL := Lib.hid hyl
        have HR := Lib.hid hyr
        have HF := Lib.hid hb
        clear hy hyl hyr hb
        by_cases hlt : k < c
        · have g1 : wr.cell? ⟨g, k, none⟩ = some (.int .u8 (ys.getD k 0)) := BL_cell HY.out k (by rw [HL.out]; exact hlt)
          have g2 := froz HY.out k
          obtain ⟨x0, x1⟩ := rng_getD HR.out k
          generalize ys.getD k 0 = x at g1 x0 x1
          have i0 : (0 : Int) ≤ (k : Int) := by omega
          have i1 : (k : Int) < (c : Int) := by omega
          go_wp2
          go_roundw
          case rel =>
            refine ⟨k + 1, by omega, by go_num, ⟨_, heap_put HY.out k _, by rw [List.length_set]; exact HL.out, ?_⟩, HF.out.set hg hgh⟩
            intro y hy
            rcases List.mem_or_eq_of_mem_set hy with h | rfl
            · exact HR.out y h
            · omega
          case measure => simp [intOf]; omega
        · obtain rfl : k = c := by omega
          go_wp2
          go_returns
          exact ⟨rfl, HF.out⟩
theorem awalk_fresh (A : Option Addr) (n c : Nat) (l : List Int) (i : Int) (w : World) (hn : n ≤ 140737488355328) (hc : n ≤ c) (hr : Rd w w.heap.size A n l) :
    Calls Try.prog 8 #[.slice A n c, .int .i64 i] w fun e w' => e = .returned (.bool true) ∧ Below w.heap.size w w' := by
  obtain ⟨k, p, E, h1, _, hk⟩ := aput_both n l hn
  obtain ⟨j, s, X, F, h3, _, hj⟩ := aget_both n l i hn hr.len hr.rg
  have H1 := Lib.hid h1
  have H3 := Lib.hid h3
  have R := Lib.hid hr
  clear h1 h3 hr
  go_enter Try.func8, Try.ntmps8
  go_wp2_with fail
  refine (wide_any A n c _ l _ hn R.out (Nat.le_refl _)).mono ?_
  rintro e w1 ⟨A1, rfl, hw1, hb1⟩
  go_wp2_with fail
  refine (H1.out _ _ _ _ hw1.rd (by omega) (Nat.le_refl _)).mono ?_
  rintro e w2 ⟨A2, c2, rfl, ho2, hb2⟩
  go_wp2_with fail
  refine (H3.out _ _ _ _ (hw1.below hb2).rd (by omega) (Nat.le_refl _)).mono ?_
  rintro e w3 ⟨A3, c3, rfl, ho3, hb3⟩
  have hw3 := (hw1.below hb2).below hb3
  go_wp2_with fail
  refine (spoil_far w1.heap.size w2.heap.size A2 k c2 p 1 _ (ho2.below hb3) ho2.below_of (by omega) (by omega)).mono ?_
  rintro e w4 ⟨rfl, hf4⟩
  have ho4 := ho3.far hf4 (Nat.le_refl _)
  have C4 := hb2.trans ((hb3.mono hb2.size).trans hf4.1)
  go_wp2_with fail
  refine (spoil_far w2.heap.size w4.heap.size A3 j c3 s 1 _ ho4 ho4.below_of (by omega) (by omega)).mono ?_
  rintro e w5 ⟨rfl, hf5⟩
  have C5 := C4.trans (hf5.1.mono hb2.size)
  have B5 : Below w.heap.size w w5 := hb1.trans (C5.mono hb1.size)
  have hw5 := hw1.below C5
  clear hf4 hf5 ho4 ho3 ho2 hb2 hb3 hw3
  go_wp2_with fail
  refine (issuer_any A1 A1 n n (n + 3) (n + 3) _ _ l l w5 (by omega) (by omega) (by omega) (by omega) hw5.rd hw5.rd).mono ?_
  rintro e w6 ⟨rfl, q6, rfl⟩
  go_wp2_with fail
  refine (left_any w.heap.size A1 A n c _ l _ hn (hw5.below (below_drewN' q6)) ((R.out.below B5 (Nat.le_refl _)).drewN q6)).mono ?_
  rintro e w7 ⟨rfl, q7, rfl⟩
  go_wp2_with fail
  refine (works_any _).mono ?_
  rintro e w8 ⟨rfl, hb8⟩
  go_wp2_with fail
  go_returns
  exact ⟨rfl, (below_drewN B5 _).trans (hb8.mono B5.size)⟩
end Go.Proofs.Ytojekhalpedfhaa
