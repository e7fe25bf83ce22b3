import Derived.Test.YtolifmpkillglaaDoorIs
set_option linter.unusedVariables false
set_option maxRecDepth 100000
namespace Go.Proofs.YtolifmpkillglaaDoor
open Go.RowKit
/-! Cuts and joins, as lists. -/
theorem readF_at (l : List Int) (hr : rng l) : ∀ (f i : Nat) (M : List Ins), readF l f i = (0, M) → ∀ x ∈ M, ∃ a : Nat, x.sc.at_ = a ∧ i ≤ a ∧ a < l.length := by
  intro f
  induction f with
  | zero =>
    intro i M h x hx
    have : M = [] := (congrArg Prod.snd h).symm
    subst this
    cases hx
  | succ f ih =>
    intro i M h x hx
    by_cases hi : i < l.length
    · obtain ⟨he, M', hM, rfl⟩ := readF_cons l f i M hi h
      have ok := insE_ok l i hr hi he
      rcases List.mem_cons.1 hx with rfl | hx
      · exact ⟨i, ok.1, Nat.le_refl _, hi⟩
      · obtain ⟨a, h1, h2, h3⟩ := ih _ M' hM x hx
        exact ⟨a, h1, by omega, h3⟩
    · have e : readF l (f + 1) i = (0, []) := by unfold readF; rw [if_neg hi]
      rw [e] at h
      have : M = [] := (congrArg Prod.snd h).symm
      subst this
      cases hx
theorem atL_behind (p : Int) (x : Ins) (R : List Ins) (hx : x.sc.at_ = p) : ∀ (M : List Ins) (i : Nat), (∀ y ∈ M, y.sc.at_ ≠ p) → atL (M ++ x :: R) i p = ((i + M.length : Nat) : Int) := by
  intro M
  induction M with
  | nil => intro i _; show atL (x :: R) i p = _; unfold atL; rw [if_pos hx]; rfl
  | cons y M ih =>
    intro i h
    show atL (y :: (M ++ x :: R)) i p = _
    unfold atL
    rw [if_neg (h y (List.mem_cons_self ..)), ih (i + 1) (fun z hz => h z (List.mem_cons_of_mem _ hz)), List.length_cons]
    congr 1
    omega
theorem cuts_list (l : List Int) (hr : rng l) (m : Nat) (hm : m < l.length) (h1 : (readC l).1 = 0) (h2 : (readC (l.take m)).1 = 0) :
    (readC l).2.take (readC (l.take m)).2.length = (readC (l.take m)).2 ∧ (readC (l.take m)).2.length < (readC l).2.length ∧ atL (readC l).2 0 m = ((readC (l.take m)).2.length : Int) := by
  obtain ⟨_, _, hF, _⟩ := readC_inv l h1
  obtain ⟨_, _, hG, _⟩ := readC_inv _ h2
  generalize (readC l).2 = L at hF
  generalize (readC (l.take m)).2 = M at hG
  have hal : (l.take m).length = m := by rw [List.length_take]; omega
  have hra : rng (l.take m) := rng_take hr m
  have hll : l.take m ++ l.drop m = l := List.take_append_drop m l
  have hdl : (l.drop m).length = l.length - m := List.length_drop
  have hA := readF_app (l.take m) (l.drop m) hra (by rw [hll]; exact hr) (l.take m).length 0 l.length M [] (Nat.zero_le _) (by omega) (by omega) hG
  rw [hll, hF, hal] at hA
  have e0 : goOn [] ((0 : Int), L) = (0, L) := by unfold goOn; rw [if_neg (fun g => g rfl)]; rfl
  rw [e0, List.nil_append] at hA
  have hr2 : (readF l l.length m).1 = 0 := by
    by_cases h : (readF l l.length m).1 = 0
    · exact h
    · unfold goOn at hA
      rw [if_pos h] at hA
      exact absurd (congrArg Prod.fst hA).symm h
  have hL : L = M ++ (readF l l.length m).2 := by
    unfold goOn at hA
    rw [if_neg (fun g => g hr2)] at hA
    exact congrArg Prod.snd hA
  obtain ⟨f, hf⟩ : ∃ f, l.length = f + 1 := ⟨l.length - 1, by omega⟩
  have hr3 : readF l (f + 1) m = (0, (readF l l.length m).2) := by rw [← hf]; exact Prod.ext hr2 rfl
  obtain ⟨he, M', _, hM'⟩ := readF_cons l f m _ hm hr3
  have ok := insE_ok l m hr hm he
  rw [hM'] at hL
  have hat := readF_at (l.take m) hra _ _ M hG
  refine ⟨?_, ?_, ?_⟩
  · rw [hL, List.take_left]
  · rw [hL, List.length_append, List.length_cons]; omega
  · rw [hL, atL_behind (m : Int) _ M' ok.1 M 0 (fun y hy => by obtain ⟨a, h3, _, h5⟩ := hat y hy; rw [h3]; omega), Nat.zero_add]
theorem leadL_sh (d : Int) (x : Ins) : leadL (sh d x) = (leadL x).map (· + d) := by
  unfold leadL
  have e : (sh d x).sc.op = x.sc.op := rfl
  rw [e]
  by_cases h : jmpO x.sc.op = true
  · rw [if_pos h, if_pos h]
    show (if jmpO x.sc.op then x.sc.jump + d else x.sc.jump) :: x.tab.map (· + d) = _
    rw [if_pos h]
    rfl
  · rw [if_neg h, if_neg h]
    rfl
theorem joins_list (a b : List Int) (ha : rng a) (hb : rng b) (h1 : (readC a).1 = 0) (h2 : (readC b).1 = 0) (hn : a.length + b.length ≤ 2000) :
    readC (a ++ b) = (0, (readC a).2 ++ (readC b).2.map (sh a.length)) := by
  obtain ⟨_, a0, hF, wa⟩ := readC_inv a h1
  obtain ⟨_, b0, hG, wb⟩ := readC_inv b h2
  generalize (readC a).2 = L at hF wa ⊢
  generalize (readC b).2 = M at hG wb ⊢
  have hl : (a ++ b).length = a.length + b.length := List.length_append
  have hab : rng (a ++ b) := rng_app ha hb
  have hA := readF_app a b ha hab a.length 0 (a ++ b).length L [] (Nat.zero_le _) (by omega) (by omega) hF
  have hS := readF_sh a b hb b.length 0 M (by omega) hG
  rw [Nat.add_zero] at hS
  rw [readF_fuel (a ++ b) hab (a ++ b).length b.length a.length (by omega) (by omega), hS, List.nil_append] at hA
  have e : goOn L ((0 : Int), M.map (sh a.length)) = (0, L ++ M.map (sh a.length)) := by unfold goOn; rw [if_neg (fun g => g rfl)]
  rw [e] at hA
  obtain ⟨q1, q2⟩ := goOn_nil (a ++ b) (a ++ b).length 0 0 _ hA
  refine readC_mk (a ++ b) _ (by omega) (by omega) (Prod.ext q1 (q2 rfl)) ?_
  unfold waysL at wa wb ⊢
  rw [List.all_append, Bool.and_eq_true]
  constructor
  · rw [List.all_eq_true] at wa ⊢
    intro x hx
    have h3 := wa x hx
    rw [List.all_eq_true] at h3 ⊢
    intro p hp
    have h4 := h3 p hp
    unfold goodP at h4 ⊢
    simp only [Bool.and_eq_true, decide_eq_true_eq] at h4 ⊢
    obtain ⟨⟨h5, h6⟩, h7⟩ := h4
    refine ⟨⟨h5, by omega⟩, ?_⟩
    rw [List.any_append, h7]
    rfl
  · rw [List.all_map, List.all_eq_true]
    rw [List.all_eq_true] at wb
    intro x hx
    have h3 := wb x hx
    simp only [Function.comp]
    rw [leadL_sh, List.all_map, List.all_eq_true]
    rw [List.all_eq_true] at h3
    intro p hp
    have h4 := h3 p hp
    simp only [Function.comp]
    unfold goodP at h4 ⊢
    simp only [Bool.and_eq_true, decide_eq_true_eq] at h4 ⊢
    obtain ⟨⟨h5, h6⟩, h7⟩ := h4
    refine ⟨⟨by omega, by omega⟩, ?_⟩
    rw [List.any_append, List.any_map]
    have h8 : (M.any ((fun y => y.sc.at_ == p + (a.length : Int)) ∘ sh (a.length : Int))) = true := by
      rw [List.any_eq_true] at h7 ⊢
      obtain ⟨y, hy, he⟩ := h7
      refine ⟨y, hy, ?_⟩
      simp only [Function.comp]
      have h9 : y.sc.at_ = p := by simpa using he
      show (y.sc.at_ + (a.length : Int) == p + (a.length : Int)) = true
      rw [h9]
      simp
    rw [h8, Bool.or_true]
end Go.Proofs.YtolifmpkillglaaDoor
