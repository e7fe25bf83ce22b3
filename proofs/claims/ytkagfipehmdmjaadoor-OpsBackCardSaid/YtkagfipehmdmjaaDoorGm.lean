import Derived.Test.YtkagfipehmdmjaaDoorGl
import Derived.StillTailTactics
import Derived.IntWalk
set_option linter.unusedVariables false
namespace Go.Proofs.YtkagfipehmdmjaaDoor
open Go.RowKit
/-! The laws' walks: All, Fresh. -/
theorem nums_rise : ∀ i, i < 102 → 0 < i → numsC.getD (i - 1) 0 < numsC.getD i 0 := by decide +kernel
theorem OO.cell {w : World} {S : Nat → Prop} {A : Option Addr} {n c : Nat} {l : List Int} (h : OO w S A n c l) (hn : 0 < n) : ∃ g, A = some ⟨g, 0, none⟩ ∧ ¬ S g ∧ g < w.heap.size ∧ ∀ i, i < n → w.cell? ⟨g, i, none⟩ = some (.int .u8 (l.getD i 0)) := by
  have ho := OV.out h
  obtain ⟨b, off, e, hb, hc⟩ := (OV.rv h).2.2 hn
  have h5 := h.2.2.2.2
  rcases h5 with ⟨_, h0, _⟩ | ⟨g, zs, hA, hS, hh, _, _, _⟩
  · omega
  · rw [hA] at e
    obtain ⟨rfl, rfl⟩ : g = b ∧ 0 = off := by cases e; exact ⟨rfl, rfl⟩
    refine ⟨g, hA, hS, lt_heap hh, fun i hi => ?_⟩
    have := hc i hi 0 (by decide)
    have e2 : (0 : Nat) + (i * opR.m + 0) = i := by show 0 + (i * 1 + 0) = i; omega
    rw [e2] at this
    exact this
/-! A region that draws its order, its reads one by one in the text's order: each wanted, or not. -/
section
variable {P : Program} {ops : Array Oper} {w : World} {Q : Act → Prop} {a : Act} {o : Oper} {rest : List Oper}
theorem still_skip (hw : Region.wanted o (yielded ops a.tmps) = false) (h : wpStill P ops w Q rest (a.put o.dst undef)) : wpStill P ops w Q (o :: rest) a := by
  unfold wpStill
  rw [if_neg (by rw [hw]; exact Bool.false_ne_true)]
  exact h
theorem still_take (hw : Region.wanted o (yielded ops a.tmps) = true) (h : ∀ K : Act → Prop, (∀ a, wpStill P ops w Q rest a → K a) → o.still P a w K) : wpStill P ops w Q (o :: rest) a := by
  unfold wpStill
  rw [if_pos hw]
  exact h _ (fun _ h => h)
end
set_option maxRecDepth 100000 in
set_option maxHeartbeats 1000000 in
theorem walk_all (n : Nat) (hn : n < 256) (w : World) (T : Tab w) : Calls Tryd.prog 5 #[.int .u8 n] w fun e w' => e = .returned (.bool true) ∧ Below w.heap.size w w' := by
  have h1 := all_any
  have h2 := refall_any
  unfold AllSaid at h1 h2
  rw [numsC_len] at h1 h2
  have H1 := Lib.hid h1
  have H2 := Lib.hid h2
  have H5 := Lib.hid lives_any
  have HT := Lib.hid T
  have HR := Lib.hid nums_rise
  clear h1 h2 T
  obtain ⟨i, hi, hlt⟩ : ∃ i, n % 102 = i ∧ i < 102 := ⟨n % 102, rfl, by omega⟩
  have hm : (n : Int) % 102 = (i : Nat) := by omega
  clear hi
  go_enter Tryd.func5, Tryd.ntmps5
  go_wp2_with fail
  refine (H1.out _ HT.out).mono ?_
  rintro e w1 ⟨A1, c1, rfl, ho1, hb1⟩
  have HB1 := Lib.hid hb1
  have HO1 := Lib.hid ho1
  clear hb1 ho1
  go_wp2_with fail
  refine (H2.out _ (HT.out.below' HB1.out)).mono ?_
  rintro e w2 ⟨A2, c2, rfl, ho2, hb2⟩
  have HB2 := Lib.hid (HB1.out.trans (hb2.mono HB1.out.size))
  obtain ⟨g1, rfl, _, q1, k1⟩ := OO.cell (OV.below HO1.out hb2) (by decide)
  obtain ⟨g2, rfl, _, q2, k2⟩ := OO.cell ho2 (by decide)
  have x1 := k1 i hlt
  have x2 := k2 i hlt
  have x0 := k1 (i - 1) (by omega)
  have HV := Lib.hid (fun h => HR.out i hlt h)
  generalize numsC.getD i 0 = x at x1 x2 HV
  generalize numsC.getD (i - 1) 0 = y at x0 HV
  clear hb2 ho2 k1 k2 HR
  have i0 : (0 : Int) ≤ (i : Int) := by omega
  have i1 : (i : Int) < 102 := by omega
  go_upto_region 5 with (fail)
  simp only [hm]
  clear hm
  by_cases hz : i = 0
  · have z0 : ((i : Int) == 0) = true := by simpa using hz
    clear x0 HV H1 H2 hz
    refine wp_region_still_tail 26 (by kernel_rfl) (by kernel_rfl) ?_
    simp only [List.take_succ_cons, List.take_zero, List.drop_succ_cons, List.drop_zero]
    change wpStill _ _ w2.drew _ _ _
    iterate 13
      with_reducible refine still_take (by kernel_rfl) (fun K hK => ?_)
      go_simp
      refine hK _ ?_
      clear hK K
      try simp only [Act.put, List.setIfInBounds_toArray, List.set_cons_zero, List.set_cons_succ]
    iterate 10
      with_reducible refine still_skip (by kernel_rfl) ?_
      try simp only [Act.put, List.setIfInBounds_toArray, List.set_cons_zero, List.set_cons_succ]
    iterate 3
      with_reducible refine still_take (by kernel_rfl) (fun K hK => ?_)
      go_simp
      refine hK _ ?_
      clear hK K
      try simp only [Act.put, List.setIfInBounds_toArray, List.set_cons_zero, List.set_cons_succ]
    refine wpStill_nil ?_
    change wpList _ _ _ _ _ w2.drew
    have HB3 := Lib.hid HB2.out.drew
    generalize w2.drew = w3 at HB3 ⊢
    go_wp2_with fail
    refine (H5.out _ (HT.out.below' HB3.out)).mono ?_
    rintro e w4 ⟨rfl, hb4⟩
    have HB4 := Lib.hid (HB3.out.trans (hb4.mono HB3.out.size))
    clear hb4
    go_wp2_with fail
    go_returns
    exact ⟨rfl, HB4.out⟩
  · have z0 : ((i : Int) == 0) = false := by simpa using hz
    have hlt2 := HV.out (by omega)
    obtain ⟨j, hj⟩ : ∃ j, i - 1 = j := ⟨_, rfl⟩
    rw [hj] at x0
    have hw : IntKind.i64.wrap ((i : Int) - 1) = (j : Nat) := by rw [IntWalk.i64_in _ (by omega)]; omega
    have j0 : (0 : Int) ≤ (j : Int) := by omega
    have j1 : (j : Int) < 102 := by omega
    clear hj hz HV H1 H2
    refine wp_region_still_tail 26 (by kernel_rfl) (by kernel_rfl) ?_
    simp only [List.take_succ_cons, List.take_zero, List.drop_succ_cons, List.drop_zero]
    change wpStill _ _ w2.drew _ _ _
    iterate 26
      with_reducible refine still_take (by kernel_rfl) (fun K hK => ?_)
      go_simp
      refine hK _ ?_
      clear hK K
      try simp only [Act.put, List.setIfInBounds_toArray, List.set_cons_zero, List.set_cons_succ]
    refine wpStill_nil ?_
    change wpList _ _ _ _ _ w2.drew
    have HB3 := Lib.hid HB2.out.drew
    generalize w2.drew = w3 at HB3 ⊢
    go_wp2_with fail
    refine (H5.out _ (HT.out.below' HB3.out)).mono ?_
    rintro e w4 ⟨rfl, hb4⟩
    have HB4 := Lib.hid (HB3.out.trans (hb4.mono HB3.out.size))
    clear hb4
    go_wp2_with fail
    go_returns
    exact ⟨rfl, HB4.out⟩
end Go.Proofs.YtkagfipehmdmjaaDoor
