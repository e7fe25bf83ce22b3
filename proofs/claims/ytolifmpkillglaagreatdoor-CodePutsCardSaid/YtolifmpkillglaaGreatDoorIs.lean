import Derived.Test.YtolifmpkillglaaGreatDoorIn
set_option linter.unusedVariables false
set_option maxRecDepth 100000
namespace Go.Proofs.YtolifmpkillglaaGreatDoor
open Go.RowKit
/-! What the code reads, as a function of the bytes: beginnings, and codes behind one another. -/
theorem insE_inv (l : List Int) (i : Nat) (hr : rng l) (h : (insE l i).1 = 0) :
    ∃ (k cnt : Nat) (b b2 : List Int), (ofC (l.getD i 0)).2 = 0 ∧ kO (l.getD i 0) = k ∧ ¬ l.length < i + 1 + hdS k ∧ (l.drop (i + 1)).take (hdS k) = b ∧ headR k b = cnt ∧ ¬ l.length < i + 1 + hdS k + cnt * rwS k ∧ (l.drop (i + 1 + hdS k)).take (cnt * rwS k) = b2 ∧
      chk k (headSc k i b (scI i (l.getD i 0))).a (headSc k i b (scI i (l.getD i 0))).pool (matC k b2 cnt) = true ∧ insE l i = (0, ⟨headSc k i b (scI i (l.getD i 0)), tabC k i b2 cnt, matC k b2 cnt⟩, i + 1 + hdS k + cnt * rwS k) := by
  by_cases hok : (ofC (l.getD i 0)).2 = 0
  · by_cases h1 : l.length < i + 1 + hdS (kO (l.getD i 0))
    · rw [insE_s1 l i hok h1] at h
      exact absurd h (by show ¬ (4 : Int) = 0; decide)
    · obtain ⟨k, hk⟩ : ∃ k, kO (l.getD i 0) = k := ⟨_, rfl⟩
      rw [hk] at h1
      obtain ⟨b, hb⟩ : ∃ b, (l.drop (i + 1)).take (hdS k) = b := ⟨_, rfl⟩
      by_cases hn : headR k b < 0
      · rw [insE_neg l i k b hok hk h1 hb hn] at h
        exact absurd h (by show ¬ (5 : Int) = 0; decide)
      · obtain ⟨cnt, hc⟩ : ∃ cnt : Nat, headR k b = cnt := ⟨(headR k b).toNat, by omega⟩
        by_cases h3 : l.length < i + 1 + hdS k + cnt * rwS k
        · rw [insE_s2 l i k b cnt hok hk h1 hb hc h3] at h
          exact absurd h (by show ¬ (4 : Int) = 0; decide)
        · have he := insE_end l i k b _ cnt hok hk h1 hb hc h3 rfl
          by_cases hck : chk k (headSc k i b (scI i (l.getD i 0))).a (headSc k i b (scI i (l.getD i 0))).pool (matC k ((l.drop (i + 1 + hdS k)).take (cnt * rwS k)) cnt) = true
          · rw [if_pos hck] at he
            exact ⟨k, cnt, b, _, hok, hk, h1, hb, hc, h3, rfl, hck, he⟩
          · rw [if_neg hck] at he
            rw [he] at h
            exact absurd h (by show ¬ (5 : Int) = 0; decide)
  · rw [insE_no l i hok] at h
    exact absurd h (by show ¬ (5 : Int) = 0; decide)
theorem getD_app1 (a b : List Int) (i : Nat) (h : i < a.length) : (a ++ b).getD i 0 = a.getD i 0 := by
  rw [List.getD_eq_getElem?_getD, List.getD_eq_getElem?_getD, List.getElem?_append_left h]
theorem getD_app2 (a b : List Int) (i : Nat) : (a ++ b).getD (a.length + i) 0 = b.getD i 0 := by
  rw [List.getD_eq_getElem?_getD, List.getD_eq_getElem?_getD, List.getElem?_append_right (by omega)]
  congr 2
  omega
theorem cut_app1 (a b : List Int) (i m : Nat) (h : i + m ≤ a.length) : ((a ++ b).drop i).take m = (a.drop i).take m := by
  rw [List.drop_append_of_le_length (by omega), List.take_append_of_le_length (by rw [List.length_drop]; omega)]
theorem drop_app2 (a b : List Int) (i : Nat) : (a ++ b).drop (a.length + i) = b.drop i := by
  rw [← List.drop_drop, List.drop_left]
theorem insE_app (a b : List Int) (i : Nat) (hr : rng a) (hi : i < a.length) (h : (insE a i).1 = 0) : insE (a ++ b) i = insE a i := by
  obtain ⟨k, cnt, c, c2, h0, hk, h1, hb, hc, h3, hb2, hck, he⟩ := insE_inv a i hr h
  rw [he]
  have e := getD_app1 a b i hi
  have hl : (a ++ b).length = a.length + b.length := List.length_append
  have := insE_end (a ++ b) i k c c2 cnt (by rw [e]; exact h0) (by rw [e]; exact hk) (by omega) (by rw [cut_app1 a b _ _ (by omega)]; exact hb) hc (by omega) (by rw [cut_app1 a b _ _ (by omega)]; exact hb2)
  rw [e, if_pos hck] at this
  exact this
/-- An instruction as much further. -/
def sh (d : Int) (x : Ins) : Ins := ⟨{ { x.sc with at_ := x.sc.at_ + d } with jump := if jmpO x.sc.op then x.sc.jump + d else x.sc.jump }, x.tab.map (· + d), x.mat⟩
theorem headSc_sh (k : Nat) (f d : Int) (b : List Int) (o : Int) (hj : jmpO o = (k == 5 || k == 6 || k == 7)) :
    headSc k (f + d) b (scI (f + d) o) = { { headSc k f b (scI f o) with at_ := (headSc k f b (scI f o)).at_ + d } with jump := if jmpO (headSc k f b (scI f o)).op then (headSc k f b (scI f o)).jump + d else (headSc k f b (scI f o)).jump } := by
  have e2 : (headSc k f b (scI f o)).op = o := (headSc_at k f b (scI f o)).2
  rw [e2, hj]
  unfold headSc scI
  split
  all_goals first
    | (simp; done)
    | (simp; omega)
    | (rename_i q1 q2 q3 q4 q5 q6 q7 q8 q9 q10 q11
       have e5 : (k == 5) = false := by simpa using q5
       have e6 : (k == 6) = false := by simpa using q6
       have e7 : (k == 7) = false := by simpa using q7
       simp [e5, e6, e7])
theorem tabC_sh (k : Nat) (f d : Int) (b : List Int) (n : Nat) : tabC k (f + d) b n = (tabC k f b n).map (· + d) := by
  unfold tabC
  rw [List.map_map]
  apply List.map_congr_left
  intro i _
  simp only [Function.comp]
  omega
theorem jmp_k (o : Int) (h0 : 0 ≤ o) (h1 : o < 256) (h : (ofC o).2 = 0) : jmpO o = (kO o == 5 || kO o == 6 || kO o == 7) := by
  obtain ⟨n, rfl⟩ : ∃ n : Nat, o = n := ⟨o.toNat, by omega⟩
  exact (ofC_ok n (by omega) h).2.2.2
theorem insE_sh (a b : List Int) (i : Nat) (hr : rng b) (hi : i < b.length) (h : (insE b i).1 = 0) : insE (a ++ b) (a.length + i) = (0, sh a.length (insE b i).2.1, a.length + (insE b i).2.2) := by
  obtain ⟨k, cnt, c, c2, h0, hk, h1, hb, hc, h3, hb2, hck, he⟩ := insE_inv b i hr h
  rw [he]
  have e := getD_app2 a b i
  have ho := rng_getD hr i
  have hl : (a ++ b).length = a.length + b.length := List.length_append
  have hj : jmpO (b.getD i 0) = (k == 5 || k == 6 || k == 7) := by rw [← hk]; exact jmp_k _ ho.1 ho.2 h0
  have := insE_end (a ++ b) (a.length + i) k c c2 cnt (by rw [e]; exact h0) (by rw [e]; exact hk) (by omega) (by rw [show a.length + i + 1 = a.length + (i + 1) by omega, drop_app2]; exact hb) hc (by omega)
    (by rw [show a.length + i + 1 + hdS k = a.length + (i + 1 + hdS k) by omega, drop_app2]; exact hb2)
  rw [e] at this
  have hf : ((a.length + i : Nat) : Int) = (i : Int) + (a.length : Int) := by omega
  rw [hf, headSc_sh k i a.length c _ hj] at this
  have hck2 : chk k ({ { headSc k i c (scI i (b.getD i 0)) with at_ := (headSc k i c (scI i (b.getD i 0))).at_ + (a.length : Int) } with jump := if jmpO (headSc k i c (scI i (b.getD i 0))).op then (headSc k i c (scI i (b.getD i 0))).jump + (a.length : Int) else (headSc k i c (scI i (b.getD i 0))).jump } : Sc).a ({ { headSc k i c (scI i (b.getD i 0)) with at_ := (headSc k i c (scI i (b.getD i 0))).at_ + (a.length : Int) } with jump := if jmpO (headSc k i c (scI i (b.getD i 0))).op then (headSc k i c (scI i (b.getD i 0))).jump + (a.length : Int) else (headSc k i c (scI i (b.getD i 0))).jump } : Sc).pool (matC k c2 cnt) = true := hck
  rw [if_pos hck2, tabC_sh] at this
  rw [this]
  have hn : a.length + i + 1 + hdS k + cnt * rwS k = a.length + (i + 1 + hdS k + cnt * rwS k) := by omega
  rw [hn]
  rfl
theorem readF_fuel (l : List Int) (hr : rng l) : ∀ (f f' i : Nat), l.length ≤ i + f → l.length ≤ i + f' → readF l f i = readF l f' i := by
  intro f
  induction f with
  | zero =>
    intro f' i h1 h2
    cases f' with
    | zero => rfl
    | succ g => show _ = if i < l.length then _ else _; rw [if_neg (by omega)]; rfl
  | succ f ih =>
    intro f' i h1 h2
    by_cases hi : i < l.length
    · obtain ⟨g, rfl⟩ : ∃ g, f' = g + 1 := ⟨f' - 1, by omega⟩
      unfold readF
      rw [if_pos hi, if_pos hi]
      by_cases he : (insE l i).1 = 0
      · have ok := insE_ok l i hr hi he
        rw [if_neg (c := (insE l i).1 ≠ 0) (fun g => g he), if_neg (c := (insE l i).1 ≠ 0) (fun g => g he), ih g (insE l i).2.2 (by omega) (by omega)]
      · rw [if_pos he, if_pos he]
    · cases f' with
      | zero => unfold readF; rw [if_neg hi]
      | succ g => unfold readF; rw [if_neg hi, if_neg hi]
theorem readF_cons (l : List Int) (f i : Nat) (M : List Ins) (hi : i < l.length) (h : readF l (f + 1) i = (0, M)) : (insE l i).1 = 0 ∧ ∃ M', readF l f (insE l i).2.2 = (0, M') ∧ M = (insE l i).2.1 :: M' := by
  unfold readF at h
  rw [if_pos hi] at h
  by_cases he : (insE l i).1 = 0
  · rw [if_neg (fun g => g he)] at h
    by_cases h2 : (readF l f (insE l i).2.2).1 = 0
    · rw [if_neg (fun g => g h2)] at h
      cases h
      exact ⟨he, (readF l f (insE l i).2.2).2, by rw [← h2], rfl⟩
    · rw [if_pos h2] at h
      exact absurd (congrArg Prod.fst h) h2
  · rw [if_pos he] at h
    exact absurd (congrArg Prod.fst h) he
theorem readF_app (a b : List Int) (ha : rng a) (hab : rng (a ++ b)) : ∀ (f i g : Nat) (M D : List Ins), i ≤ a.length → a.length ≤ i + f → a.length + b.length ≤ i + g → readF a f i = (0, M) → goOn D (readF (a ++ b) g i) = goOn (D ++ M) (readF (a ++ b) g a.length) := by
  intro f
  induction f with
  | zero =>
    intro i g M D h1 h2 h3 h
    obtain rfl : i = a.length := by omega
    have : M = [] := (congrArg Prod.snd h).symm
    subst this
    rw [List.append_nil]
  | succ f ih =>
    intro i g M D h1 h2 h3 h
    have hl : (a ++ b).length = a.length + b.length := List.length_append
    by_cases hi : i < a.length
    · obtain ⟨he, M', hM, rfl⟩ := readF_cons a f i M hi h
      have ok := insE_ok a i ha hi he
      have e := insE_app a b i ha hi he
      obtain ⟨g, rfl⟩ : ∃ q, g = q + 1 := ⟨g - 1, by omega⟩
      rw [goOn_step (a ++ b) D g i (by omega) (by rw [e]; exact he), e, ih _ g M' _ (by omega) (by omega) (by omega) hM, List.append_assoc, readF_fuel (a ++ b) hab g (g + 1) a.length (by omega) (by omega)]
      rfl
    · obtain rfl : i = a.length := by omega
      have e : readF a (f + 1) a.length = (0, []) := by unfold readF; rw [if_neg (by omega)]
      rw [e] at h
      have : M = [] := (congrArg Prod.snd h).symm
      subst this
      rw [List.append_nil]
theorem readF_sh (a b : List Int) (hb : rng b) : ∀ (f i : Nat) (M : List Ins), b.length ≤ i + f → readF b f i = (0, M) → readF (a ++ b) f (a.length + i) = (0, M.map (sh a.length)) := by
  intro f
  have hl : (a ++ b).length = a.length + b.length := List.length_append
  induction f with
  | zero =>
    intro i M h1 h
    have : M = [] := (congrArg Prod.snd h).symm
    subst this
    rfl
  | succ f ih =>
    intro i M h1 h
    by_cases hi : i < b.length
    · obtain ⟨he, M', hM, rfl⟩ := readF_cons b f i M hi h
      have ok := insE_ok b i hb hi he
      have e := insE_sh a b i hb hi he
      unfold readF
      have h0 : (insE (a ++ b) (a.length + i)).1 = 0 := by rw [e]
      rw [if_pos (by omega), if_neg (fun g => g h0), e]
      simp only
      rw [ih _ M' (by omega) hM, if_neg (fun g => g rfl)]
      rfl
    · have e : readF b (f + 1) i = (0, []) := by unfold readF; rw [if_neg hi]
      rw [e] at h
      have : M = [] := (congrArg Prod.snd h).symm
      subst this
      unfold readF
      rw [if_neg (by omega)]
      rfl
theorem readC_inv (l : List Int) (h : (readC l).1 = 0) : l.length ≤ 2000 ∧ l.length ≠ 0 ∧ readF l l.length 0 = (0, (readC l).2) ∧ waysL (readC l).2 l.length = true := by
  unfold readC at h ⊢
  split at h
  · exact absurd h (by show ¬ (3 : Int) = 0; decide)
  · rename_i h1
    rw [if_neg h1]
    unfold readL at h ⊢
    split at h
    · exact absurd h (by show ¬ (5 : Int) = 0; decide)
    · rename_i h2
      rw [if_neg h2]
      split at h
      · rename_i h3
        exact absurd h h3
      · rename_i h3
        rw [if_neg h3]
        split at h
        · rename_i h4
          rw [if_pos h4]
          exact ⟨by omega, h2, Prod.ext (Classical.not_not.1 h3) rfl, h4⟩
        · exact absurd h (by show ¬ (5 : Int) = 0; decide)
theorem readC_err (l : List Int) (h : (readC l).1 ≠ 0) : (readC l).2 = [] := by
  by_cases h2 : 2000 < l.length
  · rw [readC_3 l h2]
  · rw [readC_l l h2] at h ⊢
    rcases readL_c l with h3 | h3 | h3
    · exact absurd h3 h
    · exact h3.2
    · exact h3.2
theorem readC_mk (l : List Int) (L : List Ins) (h1 : l.length ≤ 2000) (h2 : l.length ≠ 0) (h3 : readF l l.length 0 = (0, L)) (h4 : waysL L l.length = true) : readC l = (0, L) := by
  unfold readC
  rw [if_neg (by omega)]
  unfold readL
  rw [if_neg h2, h3, if_neg (fun g => g rfl), if_pos h4]
end Go.Proofs.YtolifmpkillglaaGreatDoor
