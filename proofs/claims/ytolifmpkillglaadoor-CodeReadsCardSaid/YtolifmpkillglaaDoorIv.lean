import Derived.Test.YtolifmpkillglaaDoorIu
import Derived.Test.YtolifmpkillglaaDoorIq
set_option linter.unusedVariables false
set_option maxRecDepth 100000
namespace Go.Proofs.YtolifmpkillglaaDoor
open Go.RowKit
/-! CodeCuts: the walk. -/
theorem IN.rows {w : World} {m n c : Nat} {A : Option Addr} {rs : List RI} {l : List Ins} (h : IN w m A n c rs l) (hl : ∀ x ∈ l, x.tab.length ≤ 65536 ∧ x.mat.length ≤ 65536) : ∀ i, i < n → (rs.getD i RI.zero).tn ≤ 70000 ∧ (rs.getD i RI.zero).mn ≤ 70000 := by
  intro i hi
  have h1 := (h.each i hi).tab.len
  have h2 := (h.each i hi).mat.len
  have hm : l.getD i Ins.zero ∈ l := by
    rw [List.getD_eq_getElem?_getD, List.getElem?_eq_getElem (by rw [h.len]; exact hi)]
    exact List.getElem_mem _
  have := hl _ hm
  omega
theorem readF_rows (l : List Int) (hr : rng l) : ∀ (f i : Nat) (M : List Ins), readF l f i = (0, M) → ∀ x ∈ M, x.tab.length ≤ 65536 ∧ x.mat.length ≤ 65536 := by
  intro f
  induction f with
  | zero =>
    intro i M h x hx
    have : M = [] := (congrArg Prod.snd h).symm
    subst this
    cases hx
  | succ f ih =>
    intro i M h x hx
    by_cases hi : i < l.length
    · obtain ⟨he, M', hM, rfl⟩ := readF_cons l f i M hi h
      have ok := insE_ok l i hr hi he
      rcases List.mem_cons.1 hx with rfl | hx
      · refine ⟨ok.2.2.1, ?_⟩
        obtain ⟨k, cnt, b, b2, h0, hk, h1, hb, hc, h3, hb2, hck, hee⟩ := insE_inv l i hr he
        have hbd := headR_bd k b (by rw [← hb]; exact rng_take (rng_drop hr _) _)
        rw [hee]
        show (matC k b2 cnt).length ≤ 65536
        unfold matC
        split <;> simp
        omega
      · exact ih _ M' hM x hx
    · have e : readF l (f + 1) i = (0, []) := by unfold readF; rw [if_neg hi]
      rw [e] at h
      have : M = [] := (congrArg Prod.snd h).symm
      subst this
      cases hx
theorem readC_rows (l : List Int) (hr : rng l) : ∀ x ∈ (readC l).2, x.tab.length ≤ 65536 ∧ x.mat.length ≤ 65536 := by
  by_cases h : (readC l).1 = 0
  · obtain ⟨_, _, hF, _⟩ := readC_inv l h
    exact readF_rows l hr _ _ _ hF
  · rw [readC_err l h]
    intro x hx
    cases hx
theorem readC_len (l : List Int) (hr : rng l) : (readC l).2.length ≤ 2000 := by
  by_cases h : (readC l).1 = 0
  · obtain ⟨h2, _, hF, _⟩ := readC_inv l h
    have hb : ∀ (f i : Nat) (M : List Ins), readF l f i = (0, M) → i + M.length ≤ l.length ∨ M.length = 0 := by
      intro f
      induction f with
      | zero => intro i M h; have : M = [] := (congrArg Prod.snd h).symm; subst this; exact .inr rfl
      | succ f ih =>
        intro i M h
        by_cases hi : i < l.length
        · obtain ⟨he, M', hM, rfl⟩ := readF_cons l f i M hi h
          have ok := insE_ok l i hr hi he
          rcases ih _ M' hM with h3 | h3
          · left; rw [List.length_cons]; omega
          · left; rw [List.length_cons]; omega
        · have e : readF l (f + 1) i = (0, []) := by unfold readF; rw [if_neg hi]
          rw [e] at h
          have : M = [] := (congrArg Prod.snd h).symm
          subst this
          exact .inr rfl
    rcases hb _ _ _ hF with h3 | h3 <;> omega
  · rw [readC_err l h]
    simp
/-! CodeJoins: the walk. -/
theorem getD_mapsh (d : Int) (M : List Ins) (k : Nat) (h : k < M.length) : (M.map (sh d)).getD k Ins.zero = sh d (M.getD k Ins.zero) := by
  rw [List.getD_eq_getElem?_getD, List.getElem?_map, List.getElem?_eq_getElem h, List.getD_eq_getElem?_getD, List.getElem?_eq_getElem h]
  rfl
theorem getD_behind (L M : List Ins) (k : Nat) : (L ++ M).getD (L.length + k) Ins.zero = M.getD k Ins.zero := by
  rw [List.getD_eq_getElem?_getD, List.getD_eq_getElem?_getD, List.getElem?_append_right (by omega)]
  congr 2
  omega
theorem IV.rows {w : World} {B n : Nat} {A : Option Addr} {rs : List RI} {l : List Ins} (h : IV w B A n rs l) (hl : ∀ x ∈ l, x.tab.length ≤ 65536 ∧ x.mat.length ≤ 65536) : ∀ i, i < n → (rs.getD i RI.zero).tn ≤ 70000 ∧ (rs.getD i RI.zero).mn ≤ 70000 := by
  intro i hi
  have h1 := (h.each i hi).tab.len
  have h2 := (h.each i hi).mat.len
  have hm : l.getD i Ins.zero ∈ l := by
    rw [List.getD_eq_getElem?_getD, List.getElem?_eq_getElem (by rw [h.len]; exact hi)]
    exact List.getElem_mem _
  have := hl _ hm
  omega
end Go.Proofs.YtolifmpkillglaaDoor
