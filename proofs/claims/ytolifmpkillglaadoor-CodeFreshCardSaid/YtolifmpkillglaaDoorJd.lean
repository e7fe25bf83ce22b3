import Derived.Test.YtolifmpkillglaaDoorIs
import Derived.Test.YtolifmpkillglaaDoorJc
set_option linter.unusedVariables false
set_option maxRecDepth 100000
namespace Go.Proofs.YtolifmpkillglaaDoor
open Go.RowKit
/-! What is read is put as the same bytes, as lists. -/
theorem wd2_wd (b : List Int) (hr : rng b) (p : Nat) : wd2 (wd b p) = [b.getD p 0, b.getD (p + 1) 0] := by
  have h1 := rng_getD hr p
  have h2 := rng_getD hr (p + 1)
  unfold wd2 wd
  have e1 : (256 * b.getD p 0 + b.getD (p + 1) 0) / 256 % 256 = b.getD p 0 := by omega
  have e2 : (256 * b.getD p 0 + b.getD (p + 1) 0) % 256 = b.getD (p + 1) 0 := by omega
  rw [e1, e2]
theorem jmpW_at (f x : Int) (h0 : 0 ≤ x) (h1 : x < 65536) : jmpW f (f + worth x) = x := by
  unfold jmpW worth
  split <;> omega
theorem take_two (b : List Int) (p : Nat) (h : p + 2 ≤ b.length) : b.take (p + 2) = b.take p ++ [b.getD p 0, b.getD (p + 1) 0] := by
  rw [List.take_add, List.drop_eq_getElem_cons (by omega), List.drop_eq_getElem_cons (by omega), List.getD_eq_getElem?_getD, List.getD_eq_getElem?_getD, List.getElem?_eq_getElem (by omega), List.getElem?_eq_getElem (by omega)]
  rfl
theorem tabC_get (k : Nat) (f : Int) (b : List Int) (n j : Nat) (h : j < n) : (tabC k f b n).getD j 0 = f + worth (wd b (if k = 7 then 4 * j + 2 else 2 * j)) := by
  unfold tabC
  rw [List.getD_eq_getElem?_getD, List.getElem?_map, List.getElem?_range h]
  rfl
theorem matC_get (b : List Int) (n j : Nat) (h : j < n) : (matC 7 b n).getD j 0 = wd b (4 * j) := by
  unfold matC
  rw [if_pos rfl, List.getD_eq_getElem?_getD, List.getElem?_map, List.getElem?_range h]
  rfl
theorem rowsL_6 (f : Int) (b : List Int) (hr : rng b) (n : Nat) (hn : b.length = n * 2) : ∀ j, j ≤ n → rowsL f (tabC 6 f b n) (matC 6 b n) j = b.take (2 * j)
  | 0, _ => rfl
  | j + 1, h => by
    have g := wd_rg b hr (2 * j)
    unfold rowsL
    rw [rowsL_6 f b hr n hn j (by omega), if_neg (by rw [matC6]; simp), tabC_get 6 f b n j (by omega), if_neg (by decide), jmpW_at _ _ g.1 g.2, wd2_wd b hr, List.nil_append]
    exact (take_two b (2 * j) (by omega)).symm
theorem rowsL_7 (f : Int) (b : List Int) (hr : rng b) (n : Nat) (hn : b.length = n * 4) : ∀ j, j ≤ n → rowsL f (tabC 7 f b n) (matC 7 b n) j = b.take (4 * j)
  | 0, _ => rfl
  | j + 1, h => by
    have g := wd_rg b hr (4 * j + 2)
    unfold rowsL
    rw [rowsL_7 f b hr n hn j (by omega), if_pos (by rw [matC_len]; omega), tabC_get 7 f b n j (by omega), if_pos rfl, jmpW_at _ _ g.1 g.2, matC_get b n j (by omega), wd2_wd b hr, wd2_wd b hr, ← List.append_assoc, ← take_two b (4 * j) (by omega), show 4 * (j + 1) = 4 * j + 2 + 2 by omega, take_two b (4 * j + 2) (by omega)]
theorem body_eq (k cnt : Nat) (hk : k < 12) (f o : Int) (b b2 : List Int) (hb : b.length = hdS k) (hr : rng b) (hc : headR k b = cnt) (hb2 : b2.length = cnt * rwS k) (hr2 : rng b2) :
    bodyB k ⟨headSc k f b (scI f o), tabC k f b2 cnt, matC k b2 cnt⟩ = b ++ b2 := by
  have h12 : k = 0 ∨ k = 1 ∨ k = 2 ∨ k = 3 ∨ k = 4 ∨ k = 5 ∨ k = 6 ∨ k = 7 ∨ k = 8 ∨ k = 9 ∨ k = 10 ∨ k = 11 := by omega
  have nil2 : ∀ q, rwS q = 0 → k = q → b2 = [] := fun q h1 h2 => by
    subst h2
    rw [h1, Nat.mul_zero] at hb2
    exact List.eq_nil_of_length_eq_zero hb2
  rcases h12 with rfl | rfl | rfl | rfl | rfl | rfl | rfl | rfl | rfl | rfl | rfl | rfl
  · rw [nil2 0 rfl rfl]
    match b, hb with
    | [], _ => rfl
  · rw [nil2 1 rfl rfl]
    match b, hb, hr with
    | [x0], _, hr =>
      have g := rng_getD hr 0
      show [sgn8 x0 % 256] = [x0]
      have g : 0 ≤ x0 ∧ x0 < 256 := g
      have : sgn8 x0 % 256 = x0 := by unfold sgn8; split <;> omega
      rw [this]
  · rw [nil2 2 rfl rfl]
    match b, hb, hr with
    | [x0, x1], _, hr => exact wd2_wd [x0, x1] hr 0
  · rw [nil2 3 rfl rfl]
    match b, hb, hr with
    | [x0], _, hr =>
      have g : 0 ≤ x0 ∧ x0 < 256 := rng_getD hr 0
      show [x0 % 256] = [x0]
      rw [Int.emod_eq_of_lt g.1 g.2]
  · rw [nil2 4 rfl rfl]
    match b, hb, hr with
    | [x0, x1], _, hr =>
      have g : 0 ≤ x0 ∧ x0 < 256 := rng_getD hr 0
      show [x0 % 256] ++ [x1] = [x0, x1]
      rw [Int.emod_eq_of_lt g.1 g.2]
      rfl
  · rw [nil2 5 rfl rfl]
    match b, hb, hr with
    | [x0, x1], _, hr =>
      have g := wd_rg [x0, x1] hr 0
      show wd2 (jmpW f (f + worth (wd [x0, x1] 0))) = [x0, x1]
      rw [jmpW_at _ _ g.1 g.2]
      exact wd2_wd [x0, x1] hr 0
  · match b, hb, hr, hc with
    | [x0, x1, x2, x3, x4, x5], _, hr, hc =>
      have g0 := wd_rg [x0, x1, x2, x3, x4, x5] hr 0
      have g2 := wd_rg [x0, x1, x2, x3, x4, x5] hr 2
      have g4 := wd_rg [x0, x1, x2, x3, x4, x5] hr 4
      have hc : rowsT (wd [x0, x1, x2, x3, x4, x5] 2) (wd [x0, x1, x2, x3, x4, x5] 4) = cnt := hc
      have e0 := wd2_wd _ hr 0
      have e2 := wd2_wd _ hr 2
      have e4 := wd2_wd _ hr 4
      show wd2 (jmpW f (f + worth (wd [x0, x1, x2, x3, x4, x5] 0))) ++ (wd2 (wd [x0, x1, x2, x3, x4, x5] 2) ++ (wd2 ((wd [x0, x1, x2, x3, x4, x5] 2 + ((tabC 6 f b2 cnt).length : Int) - 1) % 65536) ++ rowsL f (tabC 6 f b2 cnt) (matC 6 b2 cnt) (tabC 6 f b2 cnt).length)) = _
      rw [tabC_len, jmpW_at _ _ g0.1 g0.2]
      have e5 : (wd [x0, x1, x2, x3, x4, x5] 2 + (cnt : Int) - 1) % 65536 = wd [x0, x1, x2, x3, x4, x5] 4 := by
        generalize wd [x0, x1, x2, x3, x4, x5] 2 = lo at g2 hc ⊢
        generalize wd [x0, x1, x2, x3, x4, x5] 4 = hi at g4 hc ⊢
        unfold rowsT worth at hc
        split at hc <;> split at hc <;> (try split at hc) <;> omega
      rw [e5, e0, e2, e4, rowsL_6 f b2 hr2 cnt hb2 cnt (Nat.le_refl _), List.take_of_length_le (by have : b2.length = cnt * 2 := hb2; omega)]
      rfl
  · match b, hb, hr, hc with
    | [x0, x1, x2, x3], _, hr, hc =>
      have g0 := wd_rg [x0, x1, x2, x3] hr 0
      have g2 := wd_rg [x0, x1, x2, x3] hr 2
      have hc : wd [x0, x1, x2, x3] 2 = cnt := hc
      have e0 := wd2_wd _ hr 0
      have e2 := wd2_wd _ hr 2
      show wd2 (jmpW f (f + worth (wd [x0, x1, x2, x3] 0))) ++ (wd2 (((tabC 7 f b2 cnt).length : Int) % 65536) ++ rowsL f (tabC 7 f b2 cnt) (matC 7 b2 cnt) (tabC 7 f b2 cnt).length) = _
      rw [tabC_len, jmpW_at _ _ g0.1 g0.2, ← hc, Int.emod_eq_of_lt g2.1 g2.2, e0, e2, rowsL_7 f b2 hr2 cnt hb2 cnt (Nat.le_refl _), List.take_of_length_le (by have : b2.length = cnt * 4 := hb2; omega)]
      rfl
  · rw [nil2 8 rfl rfl]
    match b, hb, hr with
    | [x0, x1], _, hr =>
      have g := wd_rg [x0, x1] hr 0
      show wd2 (wd [x0, x1] 0 % 65536) = [x0, x1]
      rw [Int.emod_eq_of_lt g.1 g.2]
      exact wd2_wd [x0, x1] hr 0
  · rw [nil2 9 rfl rfl]
    match b, hb, hr with
    | [x0, x1, x2, x3], _, hr =>
      have g : 0 ≤ x0 ∧ x0 < 256 := rng_getD hr 0
      have g1 := wd_rg [x0, x1, x2, x3] hr 1
      have e1 := wd2_wd _ hr 1
      show [x0 % 256] ++ (wd2 (wd [x0, x1, x2, x3] 1 % 65536) ++ [x3]) = _
      rw [Int.emod_eq_of_lt g.1 g.2, Int.emod_eq_of_lt g1.1 g1.2, e1]
      rfl
  · rw [nil2 10 rfl rfl]
    match b, hb, hr with
    | [x0], _, hr =>
      have g : 0 ≤ x0 ∧ x0 < 256 := rng_getD hr 0
      show [x0 % 256] = [x0]
      rw [Int.emod_eq_of_lt g.1 g.2]
  · rw [nil2 11 rfl rfl]
    match b, hb, hr with
    | [x0, x1, x2], _, hr =>
      have g : 0 ≤ x0 ∧ x0 < 256 := rng_getD hr 0
      have g1 := wd_rg [x0, x1, x2] hr 1
      have e1 := wd2_wd _ hr 1
      show [x0 % 256] ++ wd2 (wd [x0, x1, x2] 1 % 65536) = _
      rw [Int.emod_eq_of_lt g.1 g.2, Int.emod_eq_of_lt g1.1 g1.2, e1]
      rfl
/-- The bytes of an instruction that was read are those that it was read of. -/
theorem put_eq (l : List Int) (i : Nat) (hr : rng l) (hi : i < l.length) (h : (insE l i).1 = 0) :
    l.take i ++ ((insE l i).2.1.sc.op :: bodyB ((ofC (insE l i).2.1.sc.op).1.imm).toNat (insE l i).2.1) = l.take (insE l i).2.2 := by
  obtain ⟨k, cnt, b, b2, h0, hk, h1, hb, hc, h3, hb2, hck, he⟩ := insE_inv l i hr h
  have ok := insE_ok l i hr hi h
  have ho := rng_getD hr i
  have hk12 : k < 12 := by
    obtain ⟨q, hq⟩ : ∃ q : Nat, l.getD i 0 = q := ⟨(l.getD i 0).toNat, by omega⟩
    rw [hq] at h0 hk
    have := (ofC_ok q (by omega) h0).2.2.1
    omega
  have hkk : ((ofC (insE l i).2.1.sc.op).1.imm).toNat = k := by rw [ok.2.1]; exact hk
  rw [hkk, ok.2.1, he]
  have hbr : rng b := by rw [← hb]; exact rng_take (rng_drop hr _) _
  have hb2r : rng b2 := by rw [← hb2]; exact rng_take (rng_drop hr _) _
  have hbl : b.length = hdS k := by rw [← hb, List.length_take, List.length_drop]; omega
  have hb2l : b2.length = cnt * rwS k := by rw [← hb2, List.length_take, List.length_drop]; omega
  show l.take i ++ (l.getD i 0 :: bodyB k ⟨headSc k i b (scI i (l.getD i 0)), tabC k i b2 cnt, matC k b2 cnt⟩) = l.take (i + 1 + hdS k + cnt * rwS k)
  have e1 : l.take (i + 1) = l.take i ++ [l.getD i 0] := by
    rw [List.take_add, List.drop_eq_getElem_cons hi, List.getD_eq_getElem?_getD, List.getElem?_eq_getElem hi]
    rfl
  have e2 : l.take (i + 1 + hdS k) = l.take (i + 1) ++ b := by rw [List.take_add, hb]
  have e3 : l.take (i + 1 + hdS k + cnt * rwS k) = l.take (i + 1 + hdS k) ++ b2 := by rw [List.take_add, hb2]
  rw [body_eq k cnt hk12 i _ b b2 hbl hbr hc hb2l hb2r, e3, e2, e1, List.append_assoc, List.append_assoc]
  rfl
end Go.Proofs.YtolifmpkillglaaDoor
