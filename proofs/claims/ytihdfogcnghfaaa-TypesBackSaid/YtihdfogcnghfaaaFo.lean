import Derived.Test.YtihdfogcnghfaaaFn
set_option linter.unusedVariables false
namespace Go.Proofs.Ytihdfogcnghfaaa
open Go.RowKit
/-! What is put is got, what is got is put. -/
theorem getD_mid (a b : List Int) (x : Int) (j : Nat) (hj : j < b.length) (hx : b.getD j 0 = x) : (a ++ b).getD (a.length + j) 0 = x := by
  rw [← hx, List.getD_eq_getElem?_getD, List.getD_eq_getElem?_getD, List.getElem?_append_right (by omega)]
  congr 2
  omega
theorem mayT_cls {k c : Int} (h : mayT k c = true) : 1 ≤ k ∧ k ≤ 8 ∧ (clsd k = true ∨ c = 0) := by
  unfold mayT at h
  simp only [Bool.and_eq_true, Bool.or_eq_true, decide_eq_true_eq] at h
  exact ⟨h.1.1, h.1.2, h.2⟩
theorem mayR_cls {k c : Int} (h0 : 0 ≤ k) (h : mayR k c = true) : k ≤ 8 ∧ (clsd k = true ∨ c = 0) := by
  unfold mayR at h
  simp only [Bool.or_eq_true, Bool.and_eq_true, decide_eq_true_eq] at h
  rcases h with ⟨h1, h2⟩ | h
  · exact ⟨by omega, .inr h2⟩
  · have := mayT_cls h
    exact ⟨this.2.1, this.2.2⟩
theorem encT_no {k c : Int} (h0 : 0 ≤ k) (h1 : k < 256) (h : clsd k = false) : encT k c = [k] := by
  unfold encT
  rw [h, dig_1, Int.emod_eq_of_lt h0 h1]
  rfl
theorem encT_yes {k c : Int} (hb : tyB k c) (h : clsd k = true) : encT k c = [k, c / 256, c % 256] := by
  obtain ⟨⟨h0, h1⟩, h2, h3⟩ := hb
  unfold encT
  rw [h, dig_1, dig_2, Int.emod_eq_of_lt h0 h1, Int.emod_eq_of_lt (a := c / 256) (by omega) (by omega)]
  rfl
theorem gRet_enc (a b : List Int) (k c : Int) (hb : tyB k c) (h8 : k ≤ 8) (hc : clsd k = true ∨ c = 0) :
    gRet (a ++ (encT k c ++ b)) a.length = ⟨k, c, (a.length : Int) + (encT k c).length, 0⟩ := by
  have hk := hb.1
  have hc2 := hb.2
  cases h : clsd k
  · have hc0 : c = 0 := by
      rcases hc with h1 | h1
      · rw [h] at h1; cases h1
      · exact h1
    subst hc0
    rw [encT_no hk.1 hk.2 h]
    have e1 := getD_mid a ([k] ++ b) k 0 (by simp) rfl
    rw [Nat.add_zero] at e1
    unfold gRet
    rw [if_neg (by simp; omega), if_neg (by simp; omega), Int.toNat_natCast, e1, if_neg (by omega), if_pos h]
    simp
  · rw [encT_yes hb h]
    have e1 := getD_mid a ([k, c / 256, c % 256] ++ b) k 0 (by simp) rfl
    have e2 := getD_mid a ([k, c / 256, c % 256] ++ b) (c / 256) 1 (by simp) rfl
    have e3 := getD_mid a ([k, c / 256, c % 256] ++ b) (c % 256) 2 (by simp) rfl
    rw [Nat.add_zero] at e1
    unfold gRet
    rw [if_neg (by simp; omega), if_neg (by simp; omega), Int.toNat_natCast, e1, if_neg (by omega), if_neg (by rw [h]; decide), if_neg (by simp; omega), e2, e3]
    have e4 : 256 * (c / 256) + c % 256 = c := by omega
    rw [e4]
    simp
theorem gTy_enc (a b : List Int) (k c : Int) (hb : tyB k c) (hm : mayT k c = true) :
    gTy (a ++ (encT k c ++ b)) a.length = ⟨k, c, (a.length : Int) + (encT k c).length, 0⟩ := by
  obtain ⟨h1, h8, hc⟩ := mayT_cls hm
  unfold gTy
  rw [gRet_enc a b k c hb h8 hc, if_neg (fun h => by have : k = 0 := h.2; omega)]
theorem encS_cons (p : Ty) (ps : List Ty) : encS (p :: ps) = encT p.1 p.2 ++ encS ps := rfl
theorem gTs_enc (b : List Int) : ∀ (ps acc : List Ty) (a : List Int), allok tyR ps → allMay ps = true →
    gTs (a ++ (encS ps ++ b)) acc ps.length a.length = ⟨acc ++ ps, (a.length : Int) + (encS ps).length, 0⟩
  | [], acc, a, _, _ => by simp [gTs, encS]
  | p :: ps, acc, a, hok, hm => by
    have hp : tyB p.1 p.2 := hok p (by simp)
    have hm' : mayT p.1 p.2 = true ∧ allMay ps = true := by simpa [allMay] using hm
    have h1 := gTy_enc a (encS ps ++ b) p.1 p.2 hp hm'.1
    rw [List.length_cons, gTs_succ, encS_cons, List.append_assoc, h1, if_pos rfl]
    have h2 := gTs_enc b ps (acc ++ [p]) (a ++ encT p.1 p.2) (fun x hx => hok x (by simp [hx])) hm'.2
    rw [List.length_append, List.append_assoc] at h2
    simp only [Int.natCast_add] at h2
    have e : acc ++ [(p.1, p.2)] = acc ++ [p] := rfl
    simp only [e]
    rw [h2]
    simp only [List.append_assoc, List.singleton_append, List.length_append, Int.natCast_add, Int.add_assoc]
theorem maySB_of {k cl : Int} {l : List Ty} (h : maySB k cl l = true) : mayR k cl = true ∧ l.length ≤ 15 ∧ allMay l = true := by
  unfold maySB at h
  simp only [Bool.and_eq_true, decide_eq_true_eq] at h
  exact ⟨h.1, h.2.1, h.2.2⟩
theorem gSig_enc (a : List Int) (k cl : Int) (ps : List Ty) (hb : tyB k cl) (hok : allok tyR ps) (hm : maySB k cl ps = true) :
    gSig (a ++ sigB k cl ps) a.length = ⟨k, cl, ps, ((a ++ sigB k cl ps).length : Nat), 0⟩ := by
  obtain ⟨h1, h2, h3⟩ := maySB_of hm
  obtain ⟨h8, hc⟩ := mayR_cls hb.1.1 h1
  unfold sigB
  have hr := gRet_enc a (dig ps.length 1 ++ encS ps) k cl hb h8 hc
  have hd : dig (ps.length : Int) 1 = [(ps.length : Int)] := by rw [dig_1, Int.emod_eq_of_lt (by omega) (by omega)]
  have e1 := getD_mid (a ++ encT k cl) ([(ps.length : Int)] ++ encS ps) ps.length 0 (by simp) rfl
  rw [Nat.add_zero, List.length_append, List.append_assoc] at e1
  have e2 := gTs_enc [] ps [] (a ++ encT k cl ++ [(ps.length : Int)]) hok h3
  rw [List.append_nil] at e2
  simp only [List.length_append, List.append_assoc, List.length_singleton, List.nil_append, Int.natCast_add, Int.natCast_one] at e2
  rw [hd] at hr ⊢
  unfold gSig
  rw [hr]
  simp only [if_true]
  have e3 : ((a.length : Int) + ((encT k cl).length : Int)).toNat = a.length + (encT k cl).length := by omega
  rw [if_neg (by simp; omega), e3, e1, if_neg (by omega), Int.toNat_natCast]
  have e4 : (a.length : Int) + ((encT k cl).length : Int) + 1 = (a.length : Int) + (((encT k cl).length : Int) + 1) := by omega
  rw [e4, e2]
  simp only [if_true, List.length_append, List.length_singleton, Int.natCast_add, Int.natCast_one, GotS.mk.injEq, true_and, and_true]
  omega
theorem drop_take1 (l : List Int) (j : Nat) (h : j < l.length) : (l.drop j).take 1 = [l.getD j 0] := by
  rw [List.drop_eq_getElem_cons h, List.getD_eq_getElem?_getD, List.getElem?_eq_getElem h]
  rfl
theorem drop_take3 (l : List Int) (j : Nat) (h : j + 2 < l.length) : (l.drop j).take 3 = [l.getD j 0, l.getD (j + 1) 0, l.getD (j + 2) 0] := by
  rw [List.drop_eq_getElem_cons (by omega), List.drop_eq_getElem_cons (i := j + 1) (by omega), List.drop_eq_getElem_cons (i := j + 1 + 1) (by omega)]
  simp only [List.take_succ_cons, List.take_zero, List.getD_eq_getElem?_getD]
  rw [List.getElem?_eq_getElem (show j < l.length by omega), List.getElem?_eq_getElem (show j + 1 < l.length by omega), List.getElem?_eq_getElem (show j + 2 < l.length by omega)]
  rfl
theorem take_join (l : List Int) (i x y : Nat) (h1 : i ≤ x) (h2 : x ≤ y) : (l.drop i).take (x - i) ++ (l.drop x).take (y - x) = (l.drop i).take (y - i) := by
  have e : y - i = (x - i) + (y - x) := by omega
  rw [e, List.take_add, List.drop_drop]
  congr 3
  omega
theorem mayT_mk {k c : Int} (h1 : 1 ≤ k) (h8 : k ≤ 8) (hc : clsd k = true ∨ c = 0) : mayT k c = true := by
  unfold mayT
  simp only [Bool.and_eq_true, Bool.or_eq_true, decide_eq_true_eq]
  exact ⟨⟨h1, h8⟩, hc⟩
theorem mayR_mk {k c : Int} (h0 : 0 ≤ k) (h8 : k ≤ 8) (hc : clsd k = true ∨ c = 0) : mayR k c = true := by
  unfold mayR
  by_cases hk : k = 0
  · have hc0 : c = 0 := by
      rcases hc with h | h
      · subst hk; cases h
      · exact h
    rw [decide_eq_true hk, decide_eq_true hc0]
    rfl
  · rw [mayT_mk (by omega) h8 hc, Bool.or_true]
theorem gRet_dec (l : List Int) (i : Nat) (hr : rng l) (k c x : Int) (h : gRet l i = ⟨k, c, x, 0⟩) :
    ∃ X : Nat, x = X ∧ i < X ∧ X ≤ l.length ∧ tyB k c ∧ k ≤ 8 ∧ (clsd k = true ∨ c = 0) ∧ (l.drop i).take (X - i) = encT k c := by
  rcases gRet_ways l i hr with ⟨_, he⟩ | ⟨j, hij, hj, ⟨_, he⟩ | ⟨k', h1, hk, k0, k1, ⟨_, he⟩ | ⟨h8, hc, he⟩ | ⟨_, _, _, he⟩ | ⟨h8, hc, h3, h4, he⟩⟩⟩
  · rw [he] at h; simp at h
  · obtain rfl : i = j := by omega
    rw [he] at h; simp at h
  · obtain rfl : i = j := by omega
    rw [he] at h; simp at h
  · obtain rfl : i = j := by omega
    rw [he] at h
    simp only [Got.mk.injEq, and_true] at h
    obtain ⟨rfl, rfl, rfl⟩ := h
    refine ⟨i + 1, by omega, by omega, by omega, ⟨⟨k0, k1⟩, by omega, by omega⟩, h8, .inr rfl, ?_⟩
    rw [encT_no k0 k1 hc, show i + 1 - i = 1 by omega, drop_take1 l i h1, hk]
  · obtain rfl : i = j := by omega
    rw [he] at h; simp at h
  · obtain rfl : i = j := by omega
    rw [he] at h
    simp only [Got.mk.injEq, and_true] at h
    obtain ⟨rfl, rfl, rfl⟩ := h
    refine ⟨i + 3, by omega, by omega, by omega, ⟨⟨k0, k1⟩, h4⟩, h8, .inl hc, ?_⟩
    have h5 := rng_getD hr (i + 1)
    have h6 := rng_getD hr (i + 2)
    rw [encT_yes ⟨⟨k0, k1⟩, h4⟩ hc, show i + 3 - i = 3 by omega, drop_take3 l i (by omega), hk]
    generalize l.getD (i + 1) 0 = a at h5 ⊢
    generalize l.getD (i + 2) 0 = b at h6 ⊢
    rw [show (256 * a + b) / 256 = a by omega, show (256 * a + b) % 256 = b by omega]
theorem gTs_dec (l : List Int) (hr : rng l) : ∀ (m : Nat) (acc : List Ty) (i : Nat) (ts : List Ty) (y : Int), gTs l acc m i = ⟨ts, y, 0⟩ → i ≤ l.length →
    ∃ (ps : List Ty) (Y : Nat), ts = acc ++ ps ∧ ps.length = m ∧ allMay ps = true ∧ allok tyR ps ∧ y = Y ∧ i ≤ Y ∧ Y ≤ l.length ∧ encS ps = (l.drop i).take (Y - i)
  | 0, acc, i, ts, y, h, hi => by
    rw [gTs_zero] at h
    simp only [Gots.mk.injEq, and_true] at h
    obtain ⟨rfl, rfl⟩ := h
    exact ⟨[], i, by simp, rfl, rfl, allok_nil tyR, rfl, Nat.le_refl _, hi, by simp [encS]⟩
  | m + 1, acc, i, ts, y, h, hi => by
    rw [gTs_succ] at h
    by_cases he : (gTy l i).e = 0
    · rw [if_pos he] at h
      obtain ⟨hb, hm, _, _, _, heq⟩ := gTy_ok l i hr he
      rw [heq] at h hb hm he
      have hg : gRet l i = ⟨(gRet l i).k, (gRet l i).c, (gRet l i).x, 0⟩ := by rw [← he]
      obtain ⟨X, hX, h1, h2, _, _, _, h3⟩ := gRet_dec l i hr _ _ _ hg
      rw [hX] at h
      obtain ⟨ps, Y, rfl, h4, h5, h6, h7, h8, h9, h10⟩ := gTs_dec l hr m _ X ts y h h2
      refine ⟨((gRet l i).k, (gRet l i).c) :: ps, Y, by simp, by rw [List.length_cons, h4], by simp [allMay, hm]; simpa [allMay] using h5, ?_, h7, by omega, h9, ?_⟩
      · intro p hp
        rcases List.mem_cons.1 hp with rfl | hp
        · exact hb
        · exact h6 p hp
      · rw [encS_cons, h10, ← h3, take_join l i X Y (by omega) h8]
    · rw [if_neg he] at h
      simp only [Gots.mk.injEq] at h
      exact absurd h.2.2 he
theorem gSig_dec (l : List Int) (hr : rng l) (k cl : Int) (ts : List Ty) (y : Int) (h : gSig l (0 : Nat) = ⟨k, cl, ts, y, 0⟩) :
    ∃ Y : Nat, y = Y ∧ Y ≤ l.length ∧ maySB k cl ts = true ∧ tyB k cl ∧ allok tyR ts ∧ sigB k cl ts = l.take Y := by
  rcases gSig_ways l (0 : Nat) hr with ⟨E, hE, _, hs⟩ | ⟨k', c', x, hg, hty, _, hx, _, _, ⟨_, hs⟩ | ⟨m, h1, hm, h256, ⟨_, hs⟩ | ⟨_, E, hE, _, hs⟩ | ⟨h2, ts', y', ht, hs⟩⟩⟩
  · rw [hs] at h; simp only [GotS.mk.injEq] at h; exact absurd h.2.2.2.2 hE
  · rw [hs] at h; simp at h
  · rw [hs] at h; simp at h
  · rw [hs] at h; simp only [GotS.mk.injEq] at h; exact absurd h.2.2.2.2 hE
  · rw [hs] at h
    simp only [GotS.mk.injEq, and_true] at h
    obtain ⟨rfl, rfl, rfl, rfl⟩ := h
    obtain ⟨X, hX, _, _, hb, h8, hc, henc⟩ := gRet_dec l 0 hr _ _ _ hg
    obtain rfl : x = X := by omega
    have e : ((x : Int) + 1) = ((x + 1 : Nat) : Int) := by omega
    rw [e] at ht
    obtain ⟨ps, Y, hts, hlen, hmay, hok, hy, h9, h10, h11⟩ := gTs_dec l hr m [] (x + 1) ts' y' ht (by omega)
    rw [List.nil_append] at hts
    subst hts
    refine ⟨Y, hy, h10, ?_, hb, hok, ?_⟩
    · unfold maySB
      rw [mayR_mk hb.1.1 h8 hc, hmay, decide_eq_true (by omega)]
      rfl
    · unfold sigB
      have hd : dig (ts'.length : Int) 1 = (l.drop x).take 1 := by
        rw [drop_take1 l x h1, hm, hlen, dig_1, Int.emod_eq_of_lt (by omega) (by omega)]
      have e1 := take_join l x (x + 1) Y (by omega) h9
      rw [show x + 1 - x = 1 by omega] at e1
      have e2 := take_join l 0 x Y (by omega) (by omega)
      rw [Nat.sub_zero, Nat.sub_zero, List.drop_zero] at e2
      rw [Nat.sub_zero, List.drop_zero] at henc
      rw [hd, h11, ← henc, e1, e2]
end Go.Proofs.Ytihdfogcnghfaaa
