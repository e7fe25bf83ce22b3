import Derived.Test.YtkdnnoioejfpgaaKi
set_option linter.unusedVariables false
set_option maxRecDepth 100000
namespace Go.Proofs.Ytkdnnoioejfpgaa
open Go.RowKit
/-! What is put is got; what is got is put as the same bytes. -/
theorem ent_enc (z : En) (hz : enB z) (hm : mayE z = true) : ∃ a b c d, encE z = [a, b, c, d] ∧ entC a b c d = z := by
  obtain ⟨k, cc, t, o, n, i, x⟩ := z
  obtain ⟨⟨k0, k1⟩, ⟨c0, c1⟩, ⟨t0, t1⟩, ⟨n0, n1⟩, ⟨i0, i1⟩, ⟨x0, x1⟩⟩ := hz
  simp only at k0 k1 c0 c1 t0 t1 n0 n1 i0 i1 x0 x1
  rcases kinds7 k with rfl | rfl | rfl | rfl | rfl | rfl | hk
  case inr.inr.inr.inr.inr.inr => rw [mayE_no _ hk] at hm; cases hm
  case inl =>
    simp [mayE] at hm
    obtain ⟨rfl, rfl, rfl, rfl, rfl⟩ := hm
    refine ⟨1, cc / 256, cc % 256, 0, rfl, ?_⟩
    simp [entC]; omega
  case inr.inr.inr.inr.inl | inr.inr.inr.inr.inr.inl =>
    cases o
    · simp [mayE] at hm
      obtain ⟨hi, rfl, rfl⟩ := hm
      refine ⟨_, 128 + i, x, t, rfl, ?_⟩
      unfold entC
      rw [if_pos (by simp), if_neg (by omega), show (128 + i - 128) % 256 = i by omega]
    · simp [mayE] at hm
      obtain ⟨rfl, rfl, rfl, rfl⟩ := hm
      refine ⟨_, 0, n / 256, n % 256, rfl, ?_⟩
      unfold entC
      rw [if_pos (by simp), if_pos rfl, show 256 * (n / 256) + n % 256 = n by omega]
  all_goals
    simp [mayE] at hm
    obtain ⟨rfl, rfl, rfl, rfl⟩ := hm
    refine ⟨_, cc / 256, cc % 256, t, rfl, ?_⟩
    unfold entC
    rw [if_neg (by simp), show 256 * (cc / 256) + cc % 256 = cc by omega]
theorem enc_ent (a b c d : Int) (ha : 0 ≤ a ∧ a < 256) (hb : 0 ≤ b ∧ b < 256) (hc : 0 ≤ c ∧ c < 256) (hd : 0 ≤ d ∧ d < 256) (hm : mayE (entC a b c d) = true) : encE (entC a b c d) = [a, b, c, d] := by
  have h := (mayE_ent a b c d ha hb hc hd).1 hm
  clear hm
  unfold entC
  by_cases h5 : a = 5 ∨ a = 6
  · rw [if_pos h5]
    by_cases h0 : b = 0
    · rw [if_pos h0]
      unfold encE
      simp only [if_pos h5, if_true]
      rw [show (256 * c + d) / 256 = c by omega, show (256 * c + d) % 256 = d by omega, h0]
    · rw [if_neg h0]
      unfold encE
      simp only [if_pos h5, Bool.false_eq_true, if_false]
      rw [show 128 + (b - 128) % 256 = b by omega]
  · rw [if_neg h5]
    unfold encE
    simp only [if_neg h5]
    rw [show (256 * b + c) / 256 = b by omega, show (256 * b + c) % 256 = c by omega]
theorem entA_mid (p r : List Int) (a b c d : Int) : entA (p ++ (a :: b :: c :: d :: r)) p.length = entC a b c d := by
  have g : ∀ (k : Nat), (p ++ (a :: b :: c :: d :: r)).getD (p.length + k) 0 = (a :: b :: c :: d :: r).getD k 0 := fun k => by
    rw [List.getD_eq_getElem?_getD, List.getD_eq_getElem?_getD, List.getElem?_append_right (by omega), Nat.add_sub_cancel_left]
  have g0 := g 0
  have g1 := g 1
  have g2 := g 2
  have g3 := g 3
  rw [Nat.add_zero] at g0
  unfold entA
  rw [g0, g1, g2, g3]
  rfl
theorem gEs_enc : ∀ (l : List En) (p : List Int) (acc : List En), allok enR l → allE l = true → gEs (p ++ l.flatMap encE) acc l.length p.length = ⟨acc ++ l, 0⟩
  | [], p, acc, _, _ => by simp [gEs]
  | z :: l, p, acc, hok, hm => by
    have hz := hok z (by simp)
    have hmz : mayE z = true := by have := hm; simp [allE] at this; exact this.1
    have hml : allE l = true := by have := hm; simp [allE] at this ⊢; exact this.2
    obtain ⟨a, b, c, d, he, hent⟩ := ent_enc z hz hmz
    rw [List.flatMap_cons, he, List.length_cons]
    unfold gEs
    have hlen : ([a, b, c, d] ++ l.flatMap encE).length = 4 + 4 * l.length := by rw [List.length_append, flat_len]; rfl
    rw [if_neg (by rw [List.length_append, hlen]; omega)]
    have hA : entA (p ++ ([a, b, c, d] ++ l.flatMap encE)) p.length = z := by rw [← hent]; exact entA_mid p _ a b c d
    rw [hA, if_pos hmz]
    have ih := gEs_enc l (p ++ [a, b, c, d]) (acc ++ [z]) (fun x hx => hok x (by simp [hx])) hml
    rw [List.length_append, show [a, b, c, d].length = 4 from rfl] at ih
    rw [← List.append_assoc, ih, List.append_assoc]
    rfl
theorem gP_put (l : List En) (hok : allok enR l) (hm : allE l = true) (h255 : l.length ≤ 255) : gP (putB l) = ⟨l, 0⟩ := by
  have hd : dig (l.length : Int) 2 = [0, (l.length : Int)] := by rw [dig_2, show (l.length : Int) / 256 % 256 = 0 by omega, show (l.length : Int) % 256 = l.length by omega]
  have hB : putB l = [0, (l.length : Int)] ++ l.flatMap encE := by unfold putB putL; rw [hd, List.take_of_length_le (Nat.le_refl _)]
  rw [hB]
  have h := gEs_enc l [0, (l.length : Int)] [] hok hm
  unfold gP
  rw [if_neg (by simp)]
  have e0 : ([0, (l.length : Int)] ++ l.flatMap encE).getD 0 0 = 0 := rfl
  have e1 : ([0, (l.length : Int)] ++ l.flatMap encE).getD 1 0 = (l.length : Int) := rfl
  rw [e0, e1, if_neg (by omega), show (256 * (0 : Int) + (l.length : Int)).toNat = l.length by omega]
  exact h
theorem drop_4 (l : List Int) (i : Nat) (h : i + 4 ≤ l.length) : l.drop i = l.getD i 0 :: l.getD (i + 1) 0 :: l.getD (i + 2) 0 :: l.getD (i + 3) 0 :: l.drop (i + 4) := by
  have h1 := take_4 l i h
  have h2 := List.take_append_drop 4 (l.drop i)
  rw [h1, List.drop_drop] at h2
  exact h2.symm
theorem gEs_dec (b : List Int) (hr : rng b) : ∀ (m : Nat) (acc : List En) (i : Nat) (ts : List En), gEs b acc m i = ⟨ts, 0⟩ → i ≤ b.length →
    ∃ zs, ts = acc ++ zs ∧ zs.length = m ∧ allE zs = true ∧ allok enR zs ∧ b.drop i = zs.flatMap encE
  | 0, acc, i, ts, h, hi => by
    unfold gEs at h
    by_cases hl : b.length = i
    · rw [if_pos hl] at h
      cases h
      exact ⟨[], by simp, rfl, rfl, allok_nil enR, by rw [List.drop_of_length_le (by omega)]; rfl⟩
    · rw [if_neg hl] at h; cases h
  | m + 1, acc, i, ts, h, hi => by
    unfold gEs at h
    by_cases h4 : b.length < i + 4
    · rw [if_pos h4] at h; cases h
    · rw [if_neg h4] at h
      by_cases hm : mayE (entA b i) = true
      · rw [if_pos hm] at h
        obtain ⟨zs, h1, h2, h3, h5, h6⟩ := gEs_dec b hr m _ _ _ h (by omega)
        refine ⟨entA b i :: zs, by rw [h1, List.append_assoc]; rfl, by rw [List.length_cons, h2], ?_, ?_, ?_⟩
        · simp only [allE, List.all_cons, Bool.and_eq_true] at h3 ⊢
          exact ⟨hm, h3⟩
        · intro x hx
          rcases List.mem_cons.1 hx with rfl | hx
          · exact entA_ok b i hr
          · exact h5 x hx
        · have he : encE (entA b i) = [b.getD i 0, b.getD (i + 1) 0, b.getD (i + 2) 0, b.getD (i + 3) 0] := enc_ent _ _ _ _ (rng_getD hr _) (rng_getD hr _) (rng_getD hr _) (rng_getD hr _) hm
          rw [List.flatMap_cons, he, ← h6, drop_4 b i (by omega)]
          rfl
      · rw [if_neg hm] at h; cases h
theorem gP_dec (b : List Int) (hr : rng b) (ts : List En) (h : gP b = ⟨ts, 0⟩) : ts.length ≤ 255 ∧ allE ts = true ∧ allok enR ts ∧ putB ts = b := by
  unfold gP at h
  by_cases h2 : b.length < 2
  · rw [if_pos h2] at h; cases h
  · rw [if_neg h2] at h
    by_cases h255 : 255 < 256 * b.getD 0 0 + b.getD 1 0
    · rw [if_pos h255] at h; cases h
    · rw [if_neg h255] at h
      obtain ⟨zs, h1, h3, h4, h5, h6⟩ := gEs_dec b hr _ _ _ _ h (by omega)
      rw [List.nil_append] at h1
      subst h1
      have r0 := rng_getD hr 0
      have r1 := rng_getD hr 1
      have hl : (ts.length : Int) = 256 * b.getD 0 0 + b.getD 1 0 := by omega
      refine ⟨by omega, h4, h5, ?_⟩
      have ht := take_2 b (by omega)
      rw [List.drop_zero] at ht
      unfold putB putL
      rw [List.take_of_length_le (Nat.le_refl _), ← h6, hl, dig_2, show (256 * b.getD 0 0 + b.getD 1 0) / 256 % 256 = b.getD 0 0 by omega, show (256 * b.getD 0 0 + b.getD 1 0) % 256 = b.getD 1 0 by omega, ← ht, List.take_append_drop]
theorem putP_yes {l : List En} (h : allE l = true) (h2 : l.length ≤ 255) : putP l = putB l ∧ putE l = 0 := by
  unfold putP putE
  rw [if_pos h, if_pos h, if_neg (by omega), if_neg (by omega)]
  exact ⟨rfl, rfl⟩
theorem putE_0 {l : List En} (h : putE l = 0) : allE l = true ∧ l.length ≤ 255 := by
  unfold putE at h
  by_cases ha : allE l = true
  · rw [if_pos ha] at h
    by_cases h2 : 255 < l.length
    · rw [if_pos h2] at h; cases h
    · exact ⟨ha, by omega⟩
  · rw [if_neg ha] at h; cases h
theorem ref_spl (r : Int) (r0 : 0 ≤ r) (r1 : r < 65536) : refV (splB r) (splN r) (splT r) = r ∧ refE (splB r) (splN r) (splT r) = 0 := by
  have hb : splN r = (if r < 32768 then r else (r - 32768) / 256) := rfl
  have ht : splT r = (if r < 32768 then 0 else (r - 32768) % 256) := rfl
  by_cases h : r < 32768
  · have h1 : splB r = false := decide_eq_false (by omega)
    rw [if_pos h] at hb ht
    have hok : okRef (splB r) (splN r) (splT r) := by unfold okRef; rw [h1, hb, ht]; simp; omega
    unfold refV refE
    rw [if_pos hok, if_pos hok, h1, hb]
    exact ⟨rfl, rfl⟩
  · have h1 : splB r = true := decide_eq_true (show 32768 ≤ r by omega)
    rw [if_neg h] at hb ht
    have hok : okRef (splB r) (splN r) (splT r) := by unfold okRef; rw [h1, hb, ht]; simp; omega
    unfold refV refE
    rw [if_pos hok, if_pos hok, h1, hb, ht]
    exact ⟨by simp; omega, rfl⟩
end Go.Proofs.Ytkdnnoioejfpgaa
