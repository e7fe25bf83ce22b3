import Derived.Test.YtkdnnoioejfpgaaKb
set_option linter.unusedVariables false
set_option maxRecDepth 100000
namespace Go.Proofs.Ytkdnnoioejfpgaa
open Go.RowKit
/-! Put. -/
theorem pappnum_any (S : Nat → Prop) (A : Option Addr) (n c : Nat) (l : List Int) (N : Int) (s : Nat) (w : World) (hob : OS w S A n c l) (hS : ∀ k, S k → k < w.heap.size) (ok : okN N s) (hn : n ≤ 70000) (n0 : 0 ≤ N) :
    Calls Try.prog 24 #[.slice A n c, .int .u32 N, .int .i64 s] w fun e w' => ∃ A' c', e = .returned (.slice A' ((n + s : Nat)) c') ∧ OS w' S A' (n + s) c' (l ++ dig N s) ∧ Kp S w w' := by
  have P := Lib.hid (put_ok N s w n0 ok)
  have s1 : s ≤ 4 := by unfold okN at ok; omega
  have HO := Lib.hid hob
  have HS := Lib.hid hS
  clear hob ok hS
  go_enter Try.func24, Try.ntmps24
  go_wp2_with fail
  refine P.out.mono ?_
  rintro e w1 ⟨A1, c1, rfl, ho1, hb1⟩
  go_wp2_with (at_builtin; refine wpList_appS rfl _ _ rfl S A n c l rfl (HO.out.below hb1) _ A1 s c1 (dig N s) rfl ho1.rd (n + s) rfl _ rfl (by omega) (fun k hk => Nat.lt_of_lt_of_le (HS.out k hk) hb1.size) ?_; intro A2 c2 w2 ho2 hb2)
  go_returns
  exact ⟨A2, c2, rfl, ho2, (Kp.of_below hb1 HS.out).trans hb2⟩
theorem RV.en {w : World} {B n : Nat} {A : Option Addr} {l : List En} (h : RV enR w B A n l) (j : Nat) (hj : j < n) :
    ∃ b off, A = some ⟨b, off, none⟩ ∧ b < B ∧ enB (l.getD j en0) ∧ w.cell? ⟨b, off + j * 7, none⟩ = some (.int .u8 (l.getD j en0).k) ∧ w.cell? ⟨b, off + j * 7 + 1, none⟩ = some (.int .u16 (l.getD j en0).c) ∧ w.cell? ⟨b, off + j * 7 + 2, none⟩ = some (.int .u8 (l.getD j en0).t)
      ∧ w.cell? ⟨b, off + j * 7 + 3, none⟩ = some (.bool (l.getD j en0).o) ∧ w.cell? ⟨b, off + j * 7 + 4, none⟩ = some (.int .u16 (l.getD j en0).n) ∧ w.cell? ⟨b, off + j * 7 + 5, none⟩ = some (.int .u8 (l.getD j en0).i) ∧ w.cell? ⟨b, off + j * 7 + 6, none⟩ = some (.int .u8 (l.getD j en0).x) := by
  obtain ⟨b, off, e, hb, hc⟩ := h.2.2 (by omega)
  exact ⟨b, off, e, hb, allok_getD (R := enR) h.2.1 j, hc j hj 0 (by decide), hc j hj 1 (by decide), hc j hj 2 (by decide), hc j hj 3 (by decide), hc j hj 4 (by decide), hc j hj 5 (by decide), hc j hj 6 (by decide)⟩
def allE (l : List En) : Bool := l.all mayE
theorem allE_snoc (l : List En) (j : Nat) (h : j < l.length) : allE (l.take (j + 1)) = (allE (l.take j) && mayE (l.getD j en0)) := by
  rw [List.take_succ_eq_append_getElem h, List.getD_eq_getElem?_getD, List.getElem?_eq_getElem h]
  simp only [allE, List.all_append, List.all_cons, List.all_nil, Bool.and_true, Option.getD_some]
theorem allE_no (l : List En) (j : Nat) (h : j < l.length) (hm : mayE (l.getD j en0) = false) : allE l = false := by
  rw [List.getD_eq_getElem?_getD, List.getElem?_eq_getElem h] at hm
  unfold allE
  rw [List.all_eq_false]
  exact ⟨l[j], List.getElem_mem h, by simpa using hm⟩
theorem allE_at (l : List En) (j : Nat) (h : j < l.length) (hm : allE l = true) : mayE (l.getD j en0) = true := by
  cases h2 : mayE (l.getD j en0)
  · rw [allE_no l j h h2] at hm; cases hm
  · rfl
/-- How many, and the first j entries. -/
def putL (l : List En) (j : Nat) : List Int := dig (l.length : Int) 2 ++ (l.take j).flatMap encE
theorem putL_0 (l : List En) : putL l 0 = dig (l.length : Int) 2 := by simp [putL]
theorem putL_snoc (l : List En) (j : Nat) (h : j < l.length) : putL l (j + 1) = putL l j ++ encE (l.getD j en0) := by
  unfold putL
  rw [List.take_succ_eq_append_getElem h, List.getD_eq_getElem?_getD, List.getElem?_eq_getElem h, List.flatMap_append, List.append_assoc]
  simp
theorem flat_len (l : List En) : (l.flatMap encE).length = 4 * l.length := by
  induction l with
  | nil => rfl
  | cons z l ih => rw [List.flatMap_cons, List.length_append, encE_len, ih, List.length_cons]; omega
theorem putL_len (l : List En) (j : Nat) (h : j ≤ l.length) : (putL l j).length = 2 + 4 * j := by
  unfold putL
  rw [List.length_append, dig_len, flat_len, List.length_take]
  omega
def putB (l : List En) : List Int := putL l l.length
def putP (l : List En) : List Int := if allE l = true then (if 255 < l.length then [] else putB l) else []
def putE (l : List En) : Int := if allE l = true then (if 255 < l.length then 3 else 0) else 2
theorem encE_rng (z : En) (hz : enB z) (hm : mayE z = true) : rng (encE z) := by
  have hk := mayE_kinds z hm
  obtain ⟨⟨k0, k1⟩, ⟨c0, c1⟩, ⟨t0, t1⟩, ⟨n0, n1⟩, ⟨i0, i1⟩, ⟨x0, x1⟩⟩ := hz
  unfold encE
  rcases hk with hk | ⟨hk, ho | ⟨ho, hi⟩⟩
  · rw [if_neg (by omega)]
    intro y hy
    simp at hy
    omega
  · rw [if_pos hk, if_pos ho]
    intro y hy
    simp at hy
    omega
  · rw [if_pos hk, if_neg (by rw [ho]; decide)]
    intro y hy
    simp at hy
    omega
def PutESaid (f : Nat) (n : Nat) (l : List En) (p : List Int) (E : Int) : Prop := ∀ (w : World) (A : Option Addr) (c B : Nat), RV enR w B A n l → B ≤ w.heap.size →
  Calls Try.prog f #[.slice A n c] w fun e w' => ∃ A' c', e = .returned (.tuple #[.slice A' p.length c', .int .i64 E]) ∧ OS w' (Lt w.heap.size) A' p.length c' p ∧ Below w.heap.size w w'
set_option maxHeartbeats 1000000 in
theorem put7_any (n : Nat) (l : List En) (hn : n ≤ 281474976710656) : PutESaid 9 n l (putP l) (putE l) := by
  intro w A c B hr hB
  have HV := Lib.hid hr
  have HL := Lib.hid hr.len
  have hcase : allE l = true ∨ allE l = false := by cases allE l; exact .inr rfl; exact .inl rfl
  have HC := Lib.hid hcase
  clear hr hcase
  go_enter Try.func9, Try.ntmps9
  go_wp2_with fail
  go_loopw [11] (fun i wr => ∃ j : Nat, j ≤ n ∧ i = .int .i64 j ∧ allE (l.take j) = true ∧ Below w.heap.size w wr) (fun i _ => n - (intOf i).toNat)
  case atStart => exact ⟨0, Nat.zero_le _, rfl, rfl, Below.refl _ _⟩
  case round =>
    obtain ⟨j, hj, rfl, ha, hbr⟩ := hrel
    have HA := Lib.hid ha
    have HB := Lib.hid hbr
    clear ha hbr
    have hz := HB.out.size
    by_cases hlt : j < n
    · obtain ⟨b, off, rfl, hbb, qb, q0, q1, q2, q3, q4, q5, q6⟩ := (HV.out.below HB.out hB).en j hlt
      have HS := Lib.hid (allE_snoc l j (by rw [HL.out]; exact hlt))
      have HN := Lib.hid (allE_no l j (by rw [HL.out]; exact hlt))
      have HM := Lib.hid (fun w => may_any (l.getD j en0) w qb)
      generalize l.getD j en0 = z at q0 q1 q2 q3 q4 q5 q6 HS HN HM
      clear qb
      cases hm : mayE z
      · have HX := Lib.hid (HN.out hm)
        rw [hm] at HM
        clear hm HN HS
        obtain ⟨k, cc, t, o, nn, i, x⟩ := z
        unfold En.val at HM
        simp only at q0 q1 q2 q3 q4 q5 q6 HM
        go_wp2_with fail
        refine (HM.out _).mono ?_
        rintro e w2 ⟨rfl, hb2⟩
        go_wp2_with fail
        go_returns
        unfold putP putE
        rw [HX.out]
        exact ⟨none, 0, rfl, OS.nil_, HB.out.trans (((Below.refl _ _).alloc hz _).trans (hb2.mono (by simp; omega)))⟩
      · have HX := Lib.hid hm
        rw [hm] at HM
        clear hm HN
        obtain ⟨k, cc, t, o, nn, i, x⟩ := z
        unfold En.val at HM
        simp only at q0 q1 q2 q3 q4 q5 q6 HM
        go_wp2_with fail
        refine (HM.out _).mono ?_
        rintro e w2 ⟨rfl, hb2⟩
        go_wp2_with fail
        go_roundw
        case rel => exact ⟨j + 1, by omega, by go_num, by rw [HS.out, HA.out, HX.out]; rfl, HB.out.trans (((Below.refl _ _).alloc hz _).trans (hb2.mono (by simp; omega)))⟩
        case measure => simp [intOf]; omega
    · obtain rfl : j = n := by omega
      have hal : allE l = true := by have := HA.out; rwa [List.take_of_length_le (by rw [HL.out]; omega)] at this
      have HAL := Lib.hid hal
      clear hal HA HC
      by_cases h255 : 255 < j
      · have i255 : ((j : Int) > 255) := by omega
        go_wp2_with fail
        go_returns
        unfold putP putE
        rw [HAL.out, if_pos rfl, if_pos rfl, if_pos (by rw [HL.out]; exact h255), if_pos (by rw [HL.out]; exact h255)]
        exact ⟨none, 0, rfl, OS.nil_, HB.out⟩
      · have i255 : ¬ ((j : Int) > 255) := by omega
        have i32 : (j : Int) % 4294967296 = j := Int.emod_eq_of_lt (by omega) (by omega)
        have HP0 := Lib.hid (fun w => pappnum_any (Lt w.heap.size) none 0 0 [] (j : Int) 2 w OS.nil_ (lt_lt w) (.inr (.inl ⟨rfl, by omega⟩)) (by omega) (by omega))
        have HAPP := Lib.hid (fun (S : Nat → Prop) A n c L z w' (hob : OS w' S A n c L) (hS : ∀ k, S k → k < w'.heap.size) (hn : n ≤ 70000) (hz : enB z) (hm : mayE z = true) => pappnum_any S A n c L (num (encE z)) 4 w' hob hS
          (by have := num_ok (encE z) 4 (encE_len z) (encE_rng z hz hm) (by omega); exact this.2.2) hn (by have := num_ok (encE z) 4 (encE_len z) (encE_rng z hz hm) (by omega); exact this.1))
        have z1 := HB.out.size
        go_wp2_with fail
        refine (HP0.out _).mono ?_
        rintro e w1 ⟨A1, c1, rfl, ho1, hb1⟩
        have e0 : ([] : List Int) ++ dig (j : Int) 2 = putL l 0 := by rw [putL_0, HL.out]; rfl
        rw [e0, Nat.zero_add] at ho1
        have HO1 := Lib.hid (ho1.less (S' := Lt w.heap.size) (fun k hk => by unfold Lt at *; omega))
        have HB1 := Lib.hid (HB.out.trans (hb1.below (B := w.heap.size) (fun k hk => by unfold Lt; omega)))
        clear ho1 hb1 e0 z1
        go_wp2_with fail
        go_loopw [6, 28] (fun v i wr => ∃ (m d : Nat) (A' : Option Addr), m ≤ j ∧ i = .int .i64 m ∧ v = .slice A' (2 + 4 * m : Nat) d ∧ OS wr (Lt w.heap.size) A' (2 + 4 * m) d (putL l m) ∧ Below w.heap.size w wr) (fun _ i _ => j - (intOf i).toNat)
        case atStart => exact ⟨0, c1, A1, Nat.zero_le _, rfl, rfl, HO1.out, HB1.out⟩
        case round =>
          obtain ⟨m, d, A', hm, rfl, rfl, hor, hbr⟩ := hrel
          have HO := Lib.hid hor
          have HB := Lib.hid hbr
          clear hor hbr HB1 HO1
          by_cases hlt : m < j
          · obtain ⟨b, off, rfl, hbb, qb, q0, q1, q2, q3, q4, q5, q6⟩ := (HV.out.below HB.out hB).en m hlt
            have HS := Lib.hid (putL_snoc l m (by rw [HL.out]; exact hlt))
            have hmz := allE_at l m (by rw [HL.out]; exact hlt) HAL.out
            have HN := Lib.hid (fun w => number7_any (l.getD m en0) w qb hmz)
            have HA2 := Lib.hid (fun S A n c L w' hob hS hn => HAPP.out S A n c L (l.getD m en0) w' hob hS hn qb hmz)
            have HDN := Lib.hid (show dig (num (encE (l.getD m en0))) 4 = encE (l.getD m en0) by have := dig_num (encE (l.getD m en0)) (encE_rng _ qb hmz); rwa [encE_len] at this)
            generalize l.getD m en0 = z at q0 q1 q2 q3 q4 q5 q6 HS HN HA2 HDN
            clear qb hmz
            have hz := HB.out.size
            have HNz := Lib.hid (fun (W : World) => (show Value.agg #[.int .u8 z.k, .int .u16 z.c, .int .u8 z.t, .bool z.o, .int .u16 z.n, .int .u8 z.i, .int .u8 z.x] = z.val from rfl))
            unfold En.val at HN
            generalize num (encE z) = N at HN HA2 HDN
            generalize encE z = E at HS HDN
            obtain ⟨k, cc, t, o, nn, i, x⟩ := z
            simp only at q0 q1 q2 q3 q4 q5 q6 HN
            clear HNz
            go_wp2_with fail
            refine (HN.out _).mono ?_
            rintro e w2 ⟨rfl, hb2⟩
            have HO2 := Lib.hid ((HO.out.alloc (.cells #[.int .u8 k, .int .u16 cc, .int .u8 t, .bool o, .int .u16 nn, .int .u8 i, .int .u8 x] 45)).below hb2)
            have HB2 := Lib.hid (HB.out.trans (((Below.refl _ _).alloc hz _).trans (hb2.mono (by simp; omega))))
            clear hb2 HO
            go_wp2_with fail
            have z2 := HB2.out.size
            refine (HA2.out _ _ _ _ _ _ HO2.out (fun k hk => by unfold Lt at hk; omega) (by omega)).mono ?_
            rintro e w3 ⟨A3, d3, rfl, ho3, hb3⟩
            rw [HDN.out, ← HS.out] at ho3
            have HB3 := Lib.hid (HB2.out.trans (hb3.below (B := w.heap.size) (fun k hk => by unfold Lt; exact hk)))
            go_wp2_with fail
            go_roundw
            case rel => exact ⟨m + 1, d3, A3, by omega, by go_num, by congr 1, ho3, HB3.out⟩
            case measure => simp [intOf]; omega
          · obtain rfl : m = j := by omega
            go_wp2_with fail
            go_returns
            unfold putP putE
            rw [HAL.out, if_pos rfl, if_pos rfl, if_neg (by rw [HL.out]; exact h255), if_neg (by rw [HL.out]; exact h255)]
            have hl2 : (putB l).length = 2 + 4 * m := by unfold putB; rw [putL_len l _ (Nat.le_refl _), HL.out]
            rw [hl2]
            refine ⟨A', d, rfl, ?_, HB.out⟩
            have := HO.out
            unfold putB
            rw [HL.out]
            exact this
end Go.Proofs.Ytkdnnoioejfpgaa
