import Derived.Test.YtolifmpkillglaaGreatDoorHh
import Derived.Test.YtolifmpkillglaaGreatDoorHe
import Derived.Test.YtolifmpkillglaaGreatDoorIf
import Derived.Test.YtolifmpkillglaaGreatDoorHi
set_option linter.unusedVariables false
set_option maxRecDepth 100000
namespace Go.Proofs.YtolifmpkillglaaGreatDoor
open Go.RowKit
/-! What the document takes off behind a number is what the code reads there. -/
theorem getD_cut (l : List Int) (p m j : Nat) (h : j < m) : ((l.drop p).take m).getD j 0 = l.getD (p + j) 0 := by
  rw [List.getD_eq_getElem?_getD, List.getD_eq_getElem?_getD, List.getElem?_take, if_pos h, List.getElem?_drop]
theorem wd_cut (l : List Int) (p m j : Nat) (h : j + 1 < m) : wd ((l.drop p).take m) j = wd l (p + j) := by
  unfold wd
  rw [getD_cut l p m j (by omega), getD_cut l p m (j + 1) h, Nat.add_assoc]
theorem getV_1 (l : List Int) (a : Nat) (h : a + 1 ≤ l.length) : getV l a 1 = l.getD a 0 := by
  unfold getV
  rw [if_pos h, numh_1 l a (by omega)]
theorem getV_2 (l : List Int) (a : Nat) (h : a + 2 ≤ l.length) : getV l a 2 = wd l a := by
  unfold getV
  rw [if_pos h, numh_2 l a (by omega)]
  rfl
theorem twoV_ok (l : List Int) (a : Nat) (h : a + 2 ≤ l.length) : twoV l a false = wd l a := by
  unfold twoV
  rw [decide_eq_false (by omega)]
  simp only [Bool.or_self, Bool.false_eq_true, if_false]
  exact getV_2 l a h
theorem twoA_ok (n a : Nat) (h : a + 2 ≤ n) : twoA n a false = a + 2 := by
  unfold twoA
  rw [decide_eq_false (by omega)]
  simp
theorem twoS_ok (n a : Nat) (h : a + 2 ≤ n) : twoS n a false = false := by
  unfold twoS
  rw [decide_eq_false (by omega)]
  rfl
theorem twoS_no (n a : Nat) (s : Bool) (h : n < a + 2) : twoS n a s = true := by
  unfold twoS
  rw [decide_eq_true h, Bool.or_true]
theorem twoS_s (n a : Nat) : twoS n a true = true := by unfold twoS; rfl
theorem tabL_s (n : Nat) (l : List Int) (f : Int) (k a : Nat) : tabL n l f k a true = ([], a, true) := by cases k <;> rfl
theorem lookL_s (n : Nat) (l : List Int) (f : Int) (k a : Nat) : lookL n l f k a true = ([], [], a, true) := by cases k <;> rfl
theorem tabL_ok (l : List Int) (f : Int) : ∀ (k a : Nat), a + 2 * k ≤ l.length → tabL l.length l f k a false = ((List.range k).map (fun j => f + worth (wd l (a + 2 * j))), a + 2 * k, false)
  | 0, a, _ => rfl
  | k + 1, a, h => by
    unfold tabL
    simp only [Bool.false_eq_true, if_false]
    rw [twoV_ok l a (by omega), twoA_ok _ a (by omega), twoS_ok _ a (by omega), tabL_ok l f k (a + 2) (by omega), List.range_succ_eq_map, List.map_cons, List.map_map]
    simp only [Nat.mul_zero, Nat.add_zero]
    refine Prod.ext ?_ (Prod.ext ?_ rfl)
    · show _ :: _ = _ :: _
      congr 2
      funext j
      show f + worth (wd l (a + 2 + 2 * j)) = f + worth (wd l (a + 2 * (j + 1)))
      congr 3
      omega
    · show a + 2 + 2 * k = a + 2 * (k + 1)
      omega
theorem tabL_no (l : List Int) (f : Int) : ∀ (k a : Nat), l.length < a + 2 * k → (tabL l.length l f k a false).2.2 = true ∨ k = 0
  | 0, a, _ => .inr rfl
  | k + 1, a, h => by
    left
    unfold tabL
    simp only [Bool.false_eq_true, if_false]
    by_cases h2 : a + 2 ≤ l.length
    · rw [twoA_ok _ a h2, twoS_ok _ a h2]
      rcases tabL_no l f k (a + 2) (by omega) with h3 | h3
      · exact h3
      · subst h3; omega
    · rw [twoS_no _ a _ (by omega), tabL_s]
theorem lookL_ok (l : List Int) (f : Int) : ∀ (k a : Nat), a + 4 * k ≤ l.length → lookL l.length l f k a false = ((List.range k).map (fun j => wd l (a + 4 * j)), (List.range k).map (fun j => f + worth (wd l (a + 4 * j + 2))), a + 4 * k, false)
  | 0, a, _ => rfl
  | k + 1, a, h => by
    unfold lookL
    simp only [Bool.false_eq_true, if_false]
    rw [twoV_ok l a (by omega), twoA_ok _ a (by omega), twoS_ok _ a (by omega), twoV_ok l (a + 2) (by omega), twoA_ok _ (a + 2) (by omega), twoS_ok _ (a + 2) (by omega), lookL_ok l f k (a + 2 + 2) (by omega), List.range_succ_eq_map, List.map_cons, List.map_cons, List.map_map, List.map_map]
    simp only [Nat.mul_zero, Nat.add_zero]
    refine Prod.ext ?_ (Prod.ext ?_ (Prod.ext ?_ rfl))
    · show _ :: _ = _ :: _
      congr 2
      funext j
      show wd l (a + 2 + 2 + 4 * j) = wd l (a + 4 * (j + 1))
      congr 1
      omega
    · show _ :: _ = _ :: _
      congr 2
      funext j
      show f + worth (wd l (a + 2 + 2 + 4 * j + 2)) = f + worth (wd l (a + 4 * (j + 1) + 2))
      congr 3
      omega
    · show a + 2 + 2 + 4 * k = a + 4 * (k + 1)
      omega
theorem lookL_no (l : List Int) (f : Int) : ∀ (k a : Nat), l.length < a + 4 * k → (lookL l.length l f k a false).2.2.2 = true ∨ k = 0
  | 0, a, _ => .inr rfl
  | k + 1, a, h => by
    left
    unfold lookL
    simp only [Bool.false_eq_true, if_false]
    by_cases h2 : a + 2 ≤ l.length
    · rw [twoA_ok _ a h2, twoS_ok _ a h2]
      by_cases h4 : a + 2 + 2 ≤ l.length
      · rw [twoA_ok _ _ h4, twoS_ok _ _ h4]
        rcases lookL_no l f k (a + 2 + 2) (by omega) with h3 | h3
        · exact h3
        · subst h3; omega
      · rw [twoS_no _ (a + 2) _ (by omega), lookL_s]
    · rw [twoS_no _ a _ (by omega), twoS_s, lookL_s]
/-- The contract of every kind: what the document takes off behind the number at a place is what the code reads there. -/
def UniSaid (k : Nat) (l : List Int) (i : Nat) : Prop := ∃ (sc : Sc) (T M : List Int) (at' : Nat) (s' ok : Bool),
  (∀ (w : World) (g h B n c : Nat) (A : Option Addr), TK w g A n c (i + 1) false → BX w h ⟨scI i (l.getD i 0), none, 0, 0, none, 0, 0⟩ → g ≠ h → B ≤ g → B ≤ h → Rd w B A n l → n ≤ c →
    Calls Tryz.prog 31 #[.pointer (some ⟨g, 0, none⟩), .pointer (some ⟨h, 0, none⟩), .int .u8 k] w fun e w' => ∃ A' c' A2 c2, e = .returned (.bool ok) ∧ TK w' g A n c at' s' ∧ BX w' h ⟨sc, A', T.length, c', A2, M.length, c2⟩ ∧
      OV inR 3 w' (Lt w.heap.size) A' T.length c' T ∧ OV woR 24 w' (Lt w.heap.size) A2 M.length c2 M ∧ Kp (Old w.heap.size g h) w w') ∧
  ((s' = true ∧ (insE l i).1 = 4) ∨ (s' = false ∧ at' ≤ l.length ∧ ((ok = false ∧ (insE l i).1 = 5) ∨ (ok = true ∧ insE l i = (0, ⟨sc, T, M⟩, at')))))
theorem uni_of_beh (k : Nat) (l : List Int) (i at' : Nat) (s' ok : Bool) (sc : Sc) (H : BehSaid (k : Int) l.length l ⟨scI i (l.getD i 0), none, 0, 0, none, 0, 0⟩ ⟨sc, none, 0, 0, none, 0, 0⟩ (i + 1) at' false s' ok)
    (hE : (s' = true ∧ (insE l i).1 = 4) ∨ (s' = false ∧ at' ≤ l.length ∧ ((ok = false ∧ (insE l i).1 = 5) ∨ (ok = true ∧ insE l i = (0, ⟨sc, [], []⟩, at'))))) : UniSaid k l i := by
  refine ⟨sc, [], [], at', s', ok, ?_, hE⟩
  intro w g h B n c A X Y hne hg hh hr hc
  obtain rfl := hr.len
  refine (H w g h B c A X Y hne hg hh hr hc).mono ?_
  rintro e w' ⟨rfl, X', Y', K⟩
  exact ⟨none, 0, none, 0, rfl, X', Y', OV.nil_, OV.nil_, K.old⟩
theorem insE_plain (l : List Int) (i k : Nat) (h : (ofC (l.getD i 0)).2 = 0) (hk : kO (l.getD i 0) = k) (h6 : k ≠ 6) (h7 : k ≠ 7) (h1 : i + 1 + hdS k ≤ l.length) (sc : Sc) (hsc : headSc k i ((l.drop (i + 1)).take (hdS k)) (scI i (l.getD i 0)) = sc) :
    insE l i = if chk k sc.a sc.pool [] then (0, ⟨sc, [], []⟩, i + 1 + hdS k) else (5, Ins.zero, 0) := by
  have hR : headR k ((l.drop (i + 1)).take (hdS k)) = ((0 : Nat) : Int) := by
    unfold headR
    split
    · exact absurd rfl h6
    · exact absurd rfl h7
    · rfl
  have := insE_end l i k _ _ 0 h hk (by omega) rfl hR (by omega) rfl
  rw [hsc] at this
  rw [this]
  simp [tabC, matC]
theorem insE_1 (l : List Int) (i k : Nat) (h : (ofC (l.getD i 0)).2 = 0) (hk : kO (l.getD i 0) = k) (h1 : l.length < i + 1 + hdS k) : (insE l i).1 = 4 := by
  rw [insE_s1 l i h (by rw [hk]; exact h1)]
theorem cut1 (l : List Int) (i m j : Nat) (h : j < m) : ((l.drop (i + 1)).take m).getD j 0 = l.getD (i + 1 + j) 0 := getD_cut l (i + 1) m j h
set_option maxHeartbeats 1000000 in
theorem uni_any (l : List Int) (i k : Nat) (hl : l.length ≤ 2000) (hi : i < l.length) (hk : kO (l.getD i 0) = k) (h : (ofC (l.getD i 0)).2 = 0) (hk12 : k < 12) (h6 : k ≠ 6) (h7 : k ≠ 7) : UniSaid k l i := by
  have hn : l.length ≤ 281474976710656 := by omega
  have ha : i + 1 ≤ 281474976710656 := by omega
  have hS : ∀ p m j : Nat, j < m → ((l.drop p).take m).getD j 0 = l.getD (p + j) 0 := getD_cut l
  have hW : ∀ p m j : Nat, j + 1 < m → wd ((l.drop p).take m) j = wd l (p + j) := wd_cut l
  have hp := fun h1 => insE_plain l i k h hk h6 h7 h1
  have hs := insE_1 l i k h hk
  have hcase : k = 0 ∨ k = 1 ∨ k = 2 ∨ k = 3 ∨ k = 4 ∨ k = 5 ∨ k = 8 ∨ k = 9 ∨ k = 10 ∨ k = 11 := by omega
  clear hk h
  rcases hcase with rfl | rfl | rfl | rfl | rfl | rfl | rfl | rfl | rfl | rfl
  · refine uni_of_beh 0 l i _ _ _ _ (beh_none _ l _ (i + 1) false) (.inr ⟨rfl, by omega, .inr ⟨rfl, ?_⟩⟩)
    rw [hp (by show i + 1 + 0 ≤ _; omega) _ rfl]
    rfl
  · refine uni_of_beh 1 l i _ _ _ _ (beh_byte _ l _ (i + 1) false hn ha) ?_
    by_cases h1 : i + 1 + 1 ≤ l.length
    · refine .inr ⟨by simp; omega, by omega, .inr ⟨rfl, ?_⟩⟩
      rw [hp h1 _ rfl, getV_1 l _ h1]
      simp only [headSc, hdS, hS _ _ _ (show 0 < 1 by omega), chk]
      rfl
    · exact .inl ⟨by simp; omega, hs (by show _ < i + 1 + 1; omega)⟩
  · refine uni_of_beh 2 l i _ _ _ _ (beh_short _ l _ (i + 1) false hn ha) ?_
    by_cases h1 : i + 1 + 2 ≤ l.length
    · rw [twoV_ok l _ h1, twoA_ok _ _ h1, twoS_ok _ _ h1]
      refine .inr ⟨rfl, h1, .inr ⟨rfl, ?_⟩⟩
      rw [hp h1 _ rfl]
      simp only [headSc, hdS, hW _ _ _ (show 0 + 1 < 2 by omega), chk]
      rfl
    · exact .inl ⟨twoS_no _ _ _ (by omega), hs (by show _ < i + 1 + 2; omega)⟩
  · refine uni_of_beh 3 l i _ _ _ _ (beh_local _ l _ (i + 1) false hn ha) ?_
    by_cases h1 : i + 1 + 1 ≤ l.length
    · refine .inr ⟨by simp; omega, by omega, .inr ⟨rfl, ?_⟩⟩
      rw [hp h1 _ rfl, getV_1 l _ h1]
      simp only [headSc, hdS, hS _ _ _ (show 0 < 1 by omega), chk]
      rfl
    · exact .inl ⟨by simp; omega, hs (by show _ < i + 1 + 1; omega)⟩
  · refine uni_of_beh 4 l i _ _ _ _ (beh_inc _ l _ (i + 1) false hn ha) ?_
    by_cases h1 : i + 1 + 2 ≤ l.length
    · refine .inr ⟨by simp; omega, by omega, .inr ⟨rfl, ?_⟩⟩
      rw [hp h1 _ rfl, getV_1 l _ (by omega), getV_1 l _ (by omega)]
      simp only [headSc, hdS, hS _ _ _ (show 0 < 2 by omega), hS _ _ _ (show 1 < 2 by omega), chk]
      rfl
    · exact .inl ⟨by simp; omega, hs (by show _ < i + 1 + 2; omega)⟩
  · refine uni_of_beh 5 l i _ _ _ _ (beh_jump _ l _ (i + 1) false hn ha (by show (0 : Int) ≤ (i : Int); omega) (by show (i : Int) ≤ _; omega)) ?_
    by_cases h1 : i + 1 + 2 ≤ l.length
    · rw [twoV_ok l _ h1, twoA_ok _ _ h1, twoS_ok _ _ h1]
      refine .inr ⟨rfl, h1, .inr ⟨rfl, ?_⟩⟩
      rw [hp h1 _ rfl]
      simp only [headSc, hdS, hW _ _ _ (show 0 + 1 < 2 by omega), chk]
      rfl
    · exact .inl ⟨twoS_no _ _ _ (by omega), hs (by show _ < i + 1 + 2; omega)⟩
  · refine uni_of_beh 8 l i _ _ _ _ (beh_pool _ l _ (i + 1) false hn ha) ?_
    by_cases h1 : i + 1 + 2 ≤ l.length
    · rw [twoV_ok l _ h1, twoA_ok _ _ h1, twoS_ok _ _ h1]
      refine .inr ⟨rfl, h1, .inr ⟨rfl, ?_⟩⟩
      rw [hp h1 _ rfl]
      simp only [headSc, hdS, hW _ _ _ (show 0 + 1 < 2 by omega), chk]
      rfl
    · exact .inl ⟨twoS_no _ _ _ (by omega), hs (by show _ < i + 1 + 2; omega)⟩
  · refine uni_of_beh 9 l i _ _ _ _ (beh_iface _ l _ (i + 1) false hn ha) ?_
    by_cases h1 : i + 1 + 4 ≤ l.length
    · have d1 : (false || decide (l.length < i + 1 + 1)) = false := by simp; omega
      rw [d1, twoV_ok l (i + 1 + 1) (by omega), twoA_ok _ (i + 1 + 1) (by omega), twoS_ok _ (i + 1 + 1) (by omega), getV_1 l _ (by omega), getV_1 l _ (by omega)]
      refine .inr ⟨by simp; omega, by omega, .inr ⟨rfl, ?_⟩⟩
      rw [hp h1 _ rfl]
      simp only [headSc, hdS, hS _ _ _ (show 0 < 4 by omega), hS _ _ _ (show 3 < 4 by omega), hW _ _ _ (show 1 + 1 < 4 by omega), chk]
      rfl
    · refine .inl ⟨?_, hs (by show _ < i + 1 + 4; omega)⟩
      by_cases h2 : i + 1 + 1 ≤ l.length
      · have d1 : (false || decide (l.length < i + 1 + 1)) = false := by simp; omega
        rw [d1]
        by_cases h3 : i + 1 + 1 + 2 ≤ l.length
        · rw [twoA_ok _ _ h3, twoS_ok _ _ h3]; simp; omega
        · rw [twoS_no _ _ _ (by omega)]; rfl
      · rw [twoS_no _ _ _ (by omega)]; rfl
  · refine uni_of_beh 10 l i _ _ _ _ (beh_kind _ l _ (i + 1) false hn ha) ?_
    by_cases h1 : i + 1 + 1 ≤ l.length
    · have d1 : (false || decide (l.length < i + 1 + 1)) = false := by simp; omega
      rw [d1, getV_1 l _ h1]
      refine .inr ⟨rfl, by omega, ?_⟩
      rw [hp h1 _ rfl]
      simp only [headSc, hdS, hS _ _ _ (show 0 < 1 by omega), chk, ofNum]
      rw [show i + 1 + 0 = i + 1 by rfl]
      cases hq : (decide (4 ≤ l.getD (i + 1) 0) && decide (l.getD (i + 1) 0 ≤ 6))
      · exact .inl ⟨rfl, rfl⟩
      · exact .inr ⟨rfl, rfl⟩
    · exact .inl ⟨by simp; omega, hs (by show _ < i + 1 + 1; omega)⟩
  · refine uni_of_beh 11 l i _ _ _ _ (beh_cast _ l _ (i + 1) false hn ha) ?_
    by_cases h1 : i + 1 + 3 ≤ l.length
    · have d1 : (false || decide (l.length < i + 1 + 1)) = false := by simp; omega
      rw [d1, twoV_ok l (i + 1 + 1) (by omega), twoA_ok _ (i + 1 + 1) (by omega), twoS_ok _ (i + 1 + 1) (by omega), getV_1 l _ (by omega)]
      refine .inr ⟨rfl, by omega, ?_⟩
      rw [hp h1 _ rfl]
      simp only [headSc, hdS, hS _ _ _ (show 0 < 3 by omega), hW _ _ _ (show 1 + 1 < 3 by omega), chk, ofNum, byCl]
      rw [show i + 1 + 0 = i + 1 by rfl]
      have hq : ∀ (a p : Int), (false || (a == 0 || a == 7 || decide (4 ≤ a) && decide (a ≤ 6) && p == 0)) = (a == 0 || a == 7 || p == 0 && (decide (4 ≤ a) && decide (a ≤ 6))) := fun a p => by
        rw [Bool.false_or, Bool.and_comm (p == 0)]
      rw [hq]
      cases hz : (l.getD (i + 1) 0 == 0 || l.getD (i + 1) 0 == 7 || wd l (i + 1 + 1) == 0 && (decide (4 ≤ l.getD (i + 1) 0) && decide (l.getD (i + 1) 0 ≤ 6)))
      · exact .inl ⟨rfl, rfl⟩
      · exact .inr ⟨rfl, rfl⟩
    · refine .inl ⟨?_, hs (by show _ < i + 1 + 3; omega)⟩
      rw [twoS_no _ _ _ (by omega)]
/-! The bridge: tables and lookups; every kind. -/
theorem tabC_cut6 (l : List Int) (f : Int) (p cnt : Nat) : tabC 6 f ((l.drop p).take (cnt * 2)) cnt = (List.range cnt).map (fun j => f + worth (wd l (p + 2 * j))) := by
  unfold tabC
  apply List.map_congr_left
  intro j hj
  have := List.mem_range.1 hj
  rw [if_neg (by decide), wd_cut l p (cnt * 2) (2 * j) (by omega)]
theorem tabC_cut7 (l : List Int) (f : Int) (p cnt : Nat) : tabC 7 f ((l.drop p).take (cnt * 4)) cnt = (List.range cnt).map (fun j => f + worth (wd l (p + 4 * j + 2))) := by
  unfold tabC
  apply List.map_congr_left
  intro j hj
  have := List.mem_range.1 hj
  rw [if_pos rfl, wd_cut l p (cnt * 4) (4 * j + 2) (by omega), Nat.add_assoc]
theorem matC_cut7 (l : List Int) (p cnt : Nat) : matC 7 ((l.drop p).take (cnt * 4)) cnt = (List.range cnt).map (fun j => wd l (p + 4 * j)) := by
  unfold matC
  rw [if_pos rfl]
  apply List.map_congr_left
  intro j hj
  have := List.mem_range.1 hj
  rw [wd_cut l p (cnt * 4) (4 * j) (by omega)]
theorem twoS_3 (n a : Nat) (h : n < a + 6) : twoS n (twoA n (twoA n a false) (twoS n a false)) (twoS n (twoA n a false) (twoS n a false)) = true := by
  by_cases h1 : a + 2 ≤ n
  · rw [twoA_ok n a h1, twoS_ok n a h1]
    by_cases h2 : a + 2 + 2 ≤ n
    · rw [twoA_ok n _ h2, twoS_ok n _ h2]
      exact twoS_no n _ _ (by omega)
    · rw [twoS_no n (a + 2) _ (by omega), twoS_s]
  · rw [twoS_no n a _ (by omega), twoS_s, twoS_s]
theorem twoS_2 (n a : Nat) (h : n < a + 4) : twoS n (twoA n a false) (twoS n a false) = true := by
  by_cases h1 : a + 2 ≤ n
  · rw [twoA_ok n a h1, twoS_ok n a h1]
    exact twoS_no n _ _ (by omega)
  · rw [twoS_no n a _ (by omega), twoS_s]
theorem uni_of_tab (k : Nat) (l : List Int) (i at' : Nat) (s' ok : Bool) (sc : Sc) (T : List Int) (H : TabSaid (k : Int) l.length l ⟨scI i (l.getD i 0), none, 0, 0, none, 0, 0⟩ sc (i + 1) at' false s' ok T)
    (hE : (s' = true ∧ (insE l i).1 = 4) ∨ (s' = false ∧ at' ≤ l.length ∧ ((ok = false ∧ (insE l i).1 = 5) ∨ (ok = true ∧ insE l i = (0, ⟨sc, T, []⟩, at'))))) : UniSaid k l i := by
  refine ⟨sc, T, [], at', s', ok, ?_, hE⟩
  intro w g h B n c A X Y hne hg hh hr hc
  obtain rfl := hr.len
  refine (H w g h B c A X Y hne hg hh hr hc).mono ?_
  rintro e w' ⟨A', c', rfl, X', Y', O, K⟩
  exact ⟨A', c', none, 0, rfl, X', Y', O, OV.nil_, K⟩
theorem uni_of_look (k : Nat) (l : List Int) (i at' : Nat) (s' ok : Bool) (sc : Sc) (T M : List Int) (H : LookSaid (k : Int) l.length l ⟨scI i (l.getD i 0), none, 0, 0, none, 0, 0⟩ sc (i + 1) at' false s' ok T M)
    (hE : (s' = true ∧ (insE l i).1 = 4) ∨ (s' = false ∧ at' ≤ l.length ∧ ((ok = false ∧ (insE l i).1 = 5) ∨ (ok = true ∧ insE l i = (0, ⟨sc, T, M⟩, at'))))) : UniSaid k l i := by
  refine ⟨sc, T, M, at', s', ok, ?_, hE⟩
  intro w g h B n c A X Y hne hg hh hr hc
  obtain rfl := hr.len
  refine (H w g h B c A X Y hne hg hh hr hc).mono ?_
  rintro e w' ⟨A', c', A2, c2, rfl, X', Y', O, P, K⟩
  exact ⟨A', c', A2, c2, rfl, X', Y', O, P, K⟩
theorem uni_6 (l : List Int) (i : Nat) (hl : l.length ≤ 2000) (hi : i < l.length) (hk : kO (l.getD i 0) = 6) (h : (ofC (l.getD i 0)).2 = 0) : UniSaid 6 l i := by
  have hn : l.length ≤ 281474976710656 := by omega
  have ha : i + 1 ≤ 281474976710656 := by omega
  have H := beh_table l.length l ⟨scI i (l.getD i 0), none, 0, 0, none, 0, 0⟩ (i + 1) false hn ha (by show (0 : Int) ≤ (i : Int); omega) (by show (i : Int) ≤ _; omega) ⟨rfl, rfl, rfl⟩
  by_cases h1 : i + 1 + 6 ≤ l.length
  · have hx := H
    rw [twoA_ok _ (i + 1) (by omega), twoS_ok _ (i + 1) (by omega), twoA_ok _ (i + 1 + 2) (by omega), twoS_ok _ (i + 1 + 2) (by omega), twoA_ok _ (i + 1 + 2 + 2) (by omega), twoS_ok _ (i + 1 + 2 + 2) (by omega), twoV_ok l (i + 1) (by omega), twoV_ok l (i + 1 + 2) (by omega), twoV_ok l (i + 1 + 2 + 2) (by omega)] at hx
    clear H
    have hb0 : wd ((l.drop (i + 1)).take (hdS 6)) 0 = wd l (i + 1) := wd_cut l (i + 1) 6 0 (by omega)
    have hb2 : wd ((l.drop (i + 1)).take (hdS 6)) 2 = wd l (i + 1 + 2) := wd_cut l (i + 1) 6 2 (by omega)
    have hb4 : wd ((l.drop (i + 1)).take (hdS 6)) 4 = wd l (i + 1 + 2 + 2) := wd_cut l (i + 1) 6 4 (by omega)
    have hhR : headR 6 ((l.drop (i + 1)).take (hdS 6)) = rowsT (wd l (i + 1 + 2)) (wd l (i + 1 + 2 + 2)) := by show rowsT (wd _ 2) (wd _ 4) = _; rw [hb2, hb4]
    have hsc : headSc 6 i ((l.drop (i + 1)).take (hdS 6)) (scI i (l.getD i 0)) = { { scI i (l.getD i 0) with jump := (i : Int) + worth (wd l (i + 1)) } with low := wd l (i + 1 + 2) } := by
      simp only [headSc]
      rw [hb0, hb2]
    by_cases hneg : worth (wd l (i + 1 + 2 + 2)) < worth (wd l (i + 1 + 2))
    · have hc0 : (worth (wd l (i + 1 + 2 + 2)) - worth (wd l (i + 1 + 2)) + 1).toNat = 0 := by omega
      rw [hc0] at hx
      refine uni_of_tab 6 l i _ _ _ _ _ hx (.inr ⟨rfl, ?_, .inl ⟨?_, ?_⟩⟩)
      · show i + 1 + 2 + 2 + 2 ≤ _; omega
      · rw [decide_eq_true hneg]; rfl
      · rw [insE_neg l i 6 _ h hk (by show ¬ _ < i + 1 + 6; omega) rfl (by rw [hhR]; unfold rowsT; rw [if_pos hneg]; omega)]
    · obtain ⟨cnt, hcnt⟩ : ∃ cnt : Nat, (worth (wd l (i + 1 + 2 + 2)) - worth (wd l (i + 1 + 2)) + 1).toNat = cnt := ⟨_, rfl⟩
      have hR : headR 6 ((l.drop (i + 1)).take (hdS 6)) = (cnt : Int) := by rw [hhR]; unfold rowsT; rw [if_neg hneg]; omega
      have hc1 : cnt ≠ 0 := by omega
      rw [hcnt] at hx
      by_cases h2 : i + 1 + 6 + cnt * 2 ≤ l.length
      · rw [tabL_ok l _ cnt (i + 1 + 2 + 2 + 2) (by omega)] at hx
        refine uni_of_tab 6 l i _ _ _ _ _ hx (.inr ⟨rfl, ?_, .inr ⟨?_, ?_⟩⟩)
        · show i + 1 + 2 + 2 + 2 + 2 * cnt ≤ _; omega
        · rw [decide_eq_false hneg]; rfl
        · rw [insE_end l i 6 _ _ cnt h hk (by show ¬ _ < i + 1 + 6; omega) rfl hR (by show ¬ _ < i + 1 + 6 + cnt * 2; omega) rfl, hsc]
          rw [show (l.drop (i + 1 + hdS 6)).take (cnt * rwS 6) = (l.drop (i + 1 + 6)).take (cnt * 2) from rfl, tabC_cut6]
          show (0, (⟨_, _, []⟩ : Ins), i + 1 + 6 + cnt * 2) = _
          rw [show i + 1 + 6 + cnt * 2 = i + 1 + 2 + 2 + 2 + 2 * cnt by omega]
          rfl
      · refine uni_of_tab 6 l i _ _ _ _ _ hx (.inl ⟨?_, ?_⟩)
        · rcases tabL_no l (i : Int) cnt (i + 1 + 2 + 2 + 2) (by omega) with h3 | h3
          · exact h3
          · exact absurd h3 hc1
        · rw [insE_s2 l i 6 _ cnt h hk (by show ¬ _ < i + 1 + 6; omega) rfl hR (by show _ < i + 1 + 6 + cnt * 2; omega)]
  · have h3 := twoS_3 l.length (i + 1) (by omega)
    rw [h3, tabL_s] at H
    exact uni_of_tab 6 l i _ _ _ _ _ H (.inl ⟨rfl, insE_1 l i 6 h hk (by show _ < i + 1 + 6; omega)⟩)
theorem uni_7 (l : List Int) (i : Nat) (hr : rng l) (hl : l.length ≤ 2000) (hi : i < l.length) (hk : kO (l.getD i 0) = 7) (h : (ofC (l.getD i 0)).2 = 0) : UniSaid 7 l i := by
  have hn : l.length ≤ 281474976710656 := by omega
  have ha : i + 1 ≤ 281474976710656 := by omega
  have H := beh_lookup l.length l ⟨scI i (l.getD i 0), none, 0, 0, none, 0, 0⟩ (i + 1) false hn ha (by show (0 : Int) ≤ (i : Int); omega) (by show (i : Int) ≤ _; omega) ⟨rfl, rfl, rfl⟩ ⟨rfl, rfl, rfl⟩ _ rfl
  by_cases h1 : i + 1 + 4 ≤ l.length
  · have hx := H
    rw [twoA_ok _ (i + 1) (by omega), twoS_ok _ (i + 1) (by omega), twoA_ok _ (i + 1 + 2) (by omega), twoS_ok _ (i + 1 + 2) (by omega), twoV_ok l (i + 1) (by omega), twoV_ok l (i + 1 + 2) (by omega)] at hx
    clear H
    have hb0 : wd ((l.drop (i + 1)).take (hdS 7)) 0 = wd l (i + 1) := wd_cut l (i + 1) 4 0 (by omega)
    have hb2 : wd ((l.drop (i + 1)).take (hdS 7)) 2 = wd l (i + 1 + 2) := wd_cut l (i + 1) 4 2 (by omega)
    have hw := wd_rg l hr (i + 1 + 2)
    obtain ⟨cnt, hcnt⟩ : ∃ cnt : Nat, (wd l (i + 1 + 2)).toNat = cnt := ⟨_, rfl⟩
    have hR : headR 7 ((l.drop (i + 1)).take (hdS 7)) = (cnt : Int) := by show wd _ 2 = _; rw [hb2]; omega
    have hsc : headSc 7 i ((l.drop (i + 1)).take (hdS 7)) (scI i (l.getD i 0)) = { scI i (l.getD i 0) with jump := (i : Int) + worth (wd l (i + 1)) } := by
      simp only [headSc]
      rw [hb0]
    rw [hcnt] at hx
    by_cases h2 : i + 1 + 4 + cnt * 4 ≤ l.length
    · rw [lookL_ok l _ cnt (i + 1 + 2 + 2) (by omega)] at hx
      refine uni_of_look 7 l i _ _ _ _ _ _ hx (.inr ⟨rfl, ?_, ?_⟩)
      · show i + 1 + 2 + 2 + 4 * cnt ≤ _; omega
      · have hE := insE_end l i 7 _ _ cnt h hk (by show ¬ _ < i + 1 + 4; omega) rfl hR (by show ¬ _ < i + 1 + 4 + cnt * 4; omega) rfl
        rw [show (l.drop (i + 1 + hdS 7)).take (cnt * rwS 7) = (l.drop (i + 1 + 4)).take (cnt * 4) from rfl, tabC_cut7, matC_cut7, hsc] at hE
        have hca : i + 1 + 2 + 2 = i + 1 + 4 := by omega
        rw [hca]
        rw [show i + 1 + hdS 7 + cnt * rwS 7 = i + 1 + 4 + 4 * cnt by show i + 1 + 4 + cnt * 4 = _; omega] at hE
        simp only [chk] at hE
        cases hz : risN ((List.range cnt).map (fun j => wd l (i + 1 + 4 + 4 * j))) ((List.range cnt).map (fun j => wd l (i + 1 + 4 + 4 * j))).length
        · rw [hz, if_neg (by decide)] at hE
          exact .inl ⟨rfl, by rw [hE]⟩
        · rw [hz, if_pos rfl] at hE
          exact .inr ⟨rfl, hE⟩
    · refine uni_of_look 7 l i _ _ _ _ _ _ hx (.inl ⟨?_, ?_⟩)
      · rcases lookL_no l (i : Int) cnt (i + 1 + 2 + 2) (by omega) with h3 | h3
        · exact h3
        · subst h3; omega
      · rw [insE_s2 l i 7 _ cnt h hk (by show ¬ _ < i + 1 + 4; omega) rfl hR (by show _ < i + 1 + 4 + cnt * 4; omega)]
  · have h3 := twoS_2 l.length (i + 1) (by omega)
    rw [h3, lookL_s] at H
    exact uni_of_look 7 l i _ _ _ _ _ _ H (.inl ⟨rfl, insE_1 l i 7 h hk (by show _ < i + 1 + 4; omega)⟩)
theorem uni_all (l : List Int) (i k : Nat) (hr : rng l) (hl : l.length ≤ 2000) (hi : i < l.length) (hk : kO (l.getD i 0) = k) (h : (ofC (l.getD i 0)).2 = 0) (hk12 : k < 12) : UniSaid k l i := by
  by_cases h6 : k = 6
  · subst h6; exact uni_6 l i hl hi hk h
  · by_cases h7 : k = 7
    · subst h7; exact uni_7 l i hr hl hi hk h
    · exact uni_any l i k hl hi hk h hk12 h6 h7
end Go.Proofs.YtolifmpkillglaaGreatDoor
