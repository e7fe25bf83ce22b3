import Derived.Test.YtkdnnoioejfpgaaKk
set_option linter.unusedVariables false
set_option maxRecDepth 100000
namespace Go.Proofs.Ytkdnnoioejfpgaa
open Go.RowKit
/-! PoolOne's walk. -/
theorem RV.cut1 {w : World} {B n i : Nat} {A : Option Addr} {l : List En} (h : RV enR w B A n l) (hi : i < n) : RV enR w B (A.map (·.add (i * 7))) 1 [l.getD i en0] := by
  obtain ⟨b, off, e, hb, hc⟩ := h.2.2 (by omega)
  refine ⟨rfl, allok_one (allok_getD (R := enR) h.2.1 i), fun _ => ⟨b, off + i * 7, by rw [e]; simp [Addr.add], hb, fun k hk j hj => ?_⟩⟩
  obtain rfl : k = 0 := by omega
  have := hc i hi j hj
  rw [show off + i * 7 + (0 * enR.m + j) = off + (i * enR.m + j) by show off + i * 7 + (0 * 7 + j) = off + (i * 7 + j); omega, this]
  rfl
theorem run_cutE (w : World) (A : Option Addr) (n c i : Nat) (h : i + 1 ≤ c) : (Instr.slice 22 (.slice A n c) (some (.int .i64 (i : Int))) (some (.int .i64 ((i : Int) + 1))) (some (.int .i64 ((i : Int) + 1)))).run Try.prog w = .ok (.slice (A.map (·.add (i * 7))) 1 1) w := by
  have ht := Try.underlying22
  have he : Try.prog.elem 22 = 45 := by simp [Program.elem, ht]
  have ht' : Try.prog.underlying 22 = some (.slice (Try.prog.elem 22)) := by rw [he]; exact ht
  obtain ⟨i0, z0, hi, _, hs, _, _⟩ := enFit.info
  have hs7 : i0.size = 7 := hs
  rw [run_slice_lhm w 22 A n c ht' .i64 .i64 .i64 (i : Int) ((i : Int) + 1) ((i : Int) + 1) (by omega) (by omega) (by omega) (by omega), he]
  have e1 : ((i : Int) + 1).toNat = i + 1 := by omega
  simp [sizeOf, typeInfo, hi, hs7, sliced, e1]
theorem run_cutl2 (w : World) (A : Option Addr) (n c : Nat) (hn : n ≤ c) (h : 2 ≤ n) : (Instr.slice 23 (.slice A n c) (some (.int .i64 2)) none none).run Try.prog w = .ok (.slice (cutA A c 2) (n - 2) (c - 2)) w := by
  have ht := Try.underlying23
  obtain ⟨i0, hi, hz0, hz1, hz2⟩ := info_parts u8_info
  have he : Try.prog.elem 23 = 5 := by simp [Program.elem, ht]
  have ht' : Try.prog.underlying 23 = some (.slice (Try.prog.elem 23)) := by rw [he]; exact ht
  rw [run_slice_l w 23 A n c ht' .i64 2 (by omega) (by omega), he]
  simp [sizeOf, typeInfo, hi, hz1, sliced, cutA]
theorem Rd.from2 {w : World} {B n c : Nat} {A : Option Addr} {l : List Int} (h : Rd w B A n l) (hc : n ≤ c) (h2 : 2 ≤ n) : Rd w B (cutA A c 2) (n - 2) (l.drop 2) := by
  have := h.cut (i := 2) (m := n - 2) (A' := cutA A c 2) (by omega) (fun hm => by unfold cutA; rw [if_neg (by omega)])
  rwa [List.take_of_length_le (by rw [List.length_drop, h.len]; omega)] at this
def partsL (l : List En) (j : Nat) : List Int := ((l.take j).filter mayE).flatMap encE
theorem partsL_len (l : List En) (j : Nat) : (partsL l j).length ≤ 4 * j := by
  unfold partsL
  rw [flat_len]
  have h1 := List.length_filter_le mayE (l.take j)
  rw [List.length_take] at h1
  omega
theorem partsL_yes (l : List En) (j : Nat) (h : j < l.length) (hm : mayE (l.getD j en0) = true) : partsL l (j + 1) = partsL l j ++ encE (l.getD j en0) := by
  unfold partsL
  rw [List.getD_eq_getElem?_getD, List.getElem?_eq_getElem h] at hm ⊢
  rw [List.take_succ_eq_append_getElem h, List.filter_append, List.flatMap_append]
  have hm2 : mayE l[j] = true := hm
  simp [hm2]
theorem partsL_no (l : List En) (j : Nat) (h : j < l.length) (hm : mayE (l.getD j en0) = false) : partsL l (j + 1) = partsL l j := by
  unfold partsL
  rw [List.getD_eq_getElem?_getD, List.getElem?_eq_getElem h] at hm
  rw [List.take_succ_eq_append_getElem h, List.filter_append, List.flatMap_append]
  have hm2 : mayE l[j] = false := hm
  simp [hm2]
theorem partsL_all (l : List En) (hm : allE l = true) : partsL l l.length = l.flatMap encE := by
  unfold partsL
  rw [List.take_of_length_le (Nat.le_refl _), List.filter_eq_self.2 (fun a ha => by have := hm; unfold allE at this; exact List.all_eq_true.1 this a ha)]
theorem putP_one (z : En) : (mayE z = true → putP [z] = [0, 1] ++ encE z ∧ putE [z] = 0) ∧ (mayE z = false → putP [z] = [] ∧ putE [z] = 2) := by
  constructor
  · intro h
    have h1 : allE [z] = true := by simp [allE, h]
    obtain ⟨e1, e2⟩ := putP_yes h1 (by simp)
    rw [e1, e2]
    refine ⟨?_, rfl⟩
    unfold putB putL
    simp [dig_2]
  · intro h
    have h1 : ¬ allE [z] = true := by simp [allE, h]
    unfold putP putE
    rw [if_neg h1, if_neg h1]
    exact ⟨rfl, rfl⟩
set_option maxHeartbeats 2000000 in
theorem pwalk_one (A : Option Addr) (n c : Nat) (l : List En) (w : World) (hn : n * 10 ≤ 140737488351232) (hc : n ≤ c) (hr : RV enR w w.heap.size A n l) :
    Calls Try.prog 7 #[.slice A n c] w fun e w' => e = .returned (.bool true) ∧ Below w.heap.size w w' := by
  have P1 := Lib.hid (put7_any n l (by omega))
  have HR := Lib.hid hr
  have HLn := Lib.hid hr.len
  have PZ := Lib.hid (fun z => put7_any 1 [z] (by omega))
  clear hr
  obtain ⟨E, hE⟩ : ∃ E, E = putE l := ⟨_, rfl⟩
  obtain ⟨p, hp⟩ : ∃ p, p = putP l := ⟨_, rfl⟩
  rw [← hE, ← hp] at P1
  have HEE := Lib.hid hE
  have HPP := Lib.hid hp
  clear hE hp
  obtain ⟨k, hk⟩ : ∃ k, k = p.length := ⟨_, rfl⟩
  unfold PutESaid at P1
  rw [← hk] at P1
  have HK := Lib.hid hk
  clear hk
  go_enter Try.func7, Try.ntmps7
  go_wp2_with fail
  refine (P1.out _ _ _ _ HR.out (Nat.le_refl _)).mono ?_
  rintro e w1 ⟨A1, d1, rfl, ho1, hb1⟩
  have HO1 := Lib.hid ho1
  have HB1 := Lib.hid hb1
  clear ho1 hb1 P1
  have z1 := HB1.out.size
  go_wp2_with fail
  go_loopw [5, 6, 7] (fun a v i wr => ∃ (j d : Nat) (A' : Option Addr), j ≤ n ∧ a = .bool (allE (l.take j)) ∧ v = .slice A' (partsL l j).length d ∧ i = .int .i64 j ∧ OS wr (Lt w1.heap.size) A' (partsL l j).length d (partsL l j) ∧ Below w1.heap.size w1 wr) (fun _ _ i _ => n - (intOf i).toNat)
  case atStart => exact ⟨0, 0, none, Nat.zero_le _, rfl, rfl, rfl, OS.nil_, Below.refl _ _⟩
  case round =>
    obtain ⟨j, d, A', hj, rfl, rfl, rfl, hor, hbr⟩ := hrel
    have HO := Lib.hid hor
    have HB := Lib.hid hbr
    clear hor hbr
    have hlp := partsL_len l j
    by_cases hlt : j < n
    · have hjl : j < l.length := by rw [HLn.out]; exact hlt
      have hs := fun w => run_cutE w A n c j (by omega)
      have hRz := Lib.hid (RV.cut1 (HR.out.below (HB1.out.trans (HB.out.mono z1)) (Nat.le_refl _)) hlt)
      have HSa := Lib.hid (allE_snoc l j hjl)
      have HZ1 := putP_one (l.getD j en0)
      have HY := Lib.hid (partsL_yes l j hjl)
      have HNo := Lib.hid (partsL_no l j hjl)
      have PZ1 := PZ.out (l.getD j en0)
      generalize l.getD j en0 = z at HSa HZ1 HY HNo PZ1 hRz
      cases hm : mayE z
      · obtain ⟨e1, e2⟩ := HZ1.2 hm
        rw [e1, e2] at PZ1
        have HP := Lib.hid PZ1
        have e3 := HNo.out hm
        have HE3 := Lib.hid e3
        have e4 := HSa.out
        rw [hm, Bool.and_false] at e4
        have HE4 := Lib.hid e4
        clear e1 e2 e3 e4 hm HZ1 PZ1 HSa HY HNo
        go_wp2_with fail
        refine (HP.out _ _ _ _ hRz.out (by have := HB.out.size; omega)).mono ?_
        rintro e w2 ⟨A2, d2, rfl, -, hb2⟩
        have HB2 := Lib.hid (HB.out.trans (hb2.mono HB.out.size))
        have HO2 := Lib.hid (HO.out.below hb2)
        clear hb2
        go_wp2_with fail
        go_roundw
        case rel => exact ⟨j + 1, d, A', by omega, by rw [HE4.out], by rw [HE3.out], by go_num, by rw [HE3.out]; exact HO2.out, HB2.out⟩
        case measure => simp [intOf]; omega
      · obtain ⟨e1, e2⟩ := HZ1.1 hm
        rw [e1, e2] at PZ1
        have hl6 : ([0, 1] ++ encE z).length = 6 := by rw [List.length_append, encE_len]; rfl
        unfold PutESaid at PZ1
        rw [hl6] at PZ1
        have HP := Lib.hid PZ1
        have e3 := HY.out hm
        have HE3 := Lib.hid e3
        have hl3 : (partsL l (j + 1)).length = (partsL l j).length + 4 := by rw [e3, List.length_append, encE_len]
        have e4 := HSa.out
        rw [hm, Bool.and_true] at e4
        have HE4 := Lib.hid e4
        have HL3 := Lib.hid hl3
        have HDr := Lib.hid (show ([0, 1] ++ encE z).drop 2 = encE z from rfl)
        clear e1 e2 e3 e4 hm HZ1 PZ1 HSa HY HNo hl6 hl3
        go_wp2_with fail
        refine (HP.out _ _ _ _ hRz.out (by have := HB.out.size; omega)).mono ?_
        rintro e w2 ⟨A2, d2, rfl, ho2, hb2⟩
        have HB2 := Lib.hid (HB.out.trans (hb2.mono HB.out.size))
        have HO2 := Lib.hid (HO.out.below hb2)
        have hs2 := fun w => run_cutl2 w A2 6 d2 ho2.le (by omega)
        have hR2 := ho2.rd.from2 ho2.le (by omega)
        rw [HDr.out] at hR2
        have HR2 := Lib.hid hR2
        have z2 := HB2.out.size
        clear hb2 ho2 hR2
        go_wp2_with (at_builtin; refine wpList_appS rfl _ _ rfl (Lt w1.heap.size) A' (partsL l j).length d (partsL l j) rfl HO2.out _ (cutA A2 d2 2) 4 (d2 - 2) (encE z) rfl HR2.out (partsL l (j + 1)).length HL3.out (partsL l (j + 1)) HE3.out (by omega) (fun i hi => by unfold Lt at hi; omega) ?_; intro A4 d4 w4 ho4 hb4)
        go_roundw
        case rel => exact ⟨j + 1, d4, A4, by omega, by rw [HE4.out], rfl, by go_num, ho4, HB2.out.trans (hb4.below fun _ h => h)⟩
        case measure => simp [intOf]; omega
    · obtain rfl : j = n := by omega
      have hB := HB1.out.trans (HB.out.mono z1)
      have HBw := Lib.hid hB
      have htl : l.take j = l := List.take_of_length_le (by rw [HLn.out]; omega)
      have hEE := HEE.out
      unfold putE at hEE
      clear hB
      rw [htl]
      cases ha : allE l
      · rw [if_neg (by rw [ha]; decide)] at hEE
        subst hEE
        clear ha
        go_wp2_with fail
        refine (pworks_any _).mono ?_
        rintro e w4 ⟨rfl, hb4⟩
        go_wp2_with fail
        go_returns
        exact ⟨rfl, HBw.out.trans (hb4.mono HBw.out.size)⟩
      · rw [if_pos ha] at hEE
        by_cases h255 : 255 < j
        · rw [if_pos (by rw [HLn.out]; exact h255)] at hEE
          subst hEE
          have i255 : (j : Int) > 255 := by omega
          clear ha
          go_wp2_with fail
          refine (pworks_any _).mono ?_
          rintro e w4 ⟨rfl, hb4⟩
          go_wp2_with fail
          go_returns
          exact ⟨rfl, HBw.out.trans (hb4.mono HBw.out.size)⟩
        · rw [if_neg (by rw [HLn.out]; exact h255)] at hEE
          subst hEE
          have i255 : ¬ (j : Int) > 255 := by omega
          have hp : p = putB l := by rw [HPP.out]; exact (putP_yes ha (by rw [HLn.out]; omega)).1
          have hkl : k = 2 + 4 * j := by rw [HK.out, hp]; unfold putB; rw [putL_len l _ (Nat.le_refl _), HLn.out]
          have hpa := partsL_all l ha
          rw [HLn.out] at hpa
          have hdr : p.drop 2 = partsL l j := by
            rw [hp, hpa]
            unfold putB putL
            rw [List.take_of_length_le (Nat.le_refl _), List.drop_append_of_le_length (by simp [dig_len]), List.drop_of_length_le (by simp [dig_len]), List.nil_append]
          have hpl : (partsL l j).length = 4 * j := by rw [hpa, flat_len, HLn.out]
          have hX := HO1.out.below HB.out
          have hs2 := fun w => run_cutl2 w A1 k d1 hX.le (by omega)
          have hR := hX.rd.from2 hX.le (by omega)
          rw [hdr] at hR
          have hk4 : k - 2 = 4 * j := by omega
          rw [hk4] at hR hs2
          have hO := HO.out.rd
          rw [hpl] at hO
          have HSS := Lib.hid (same_yes (cutA A1 d1 2) A' (4 * j) (d1 - 2) d _ _ (partsL l j) wr (by omega) hR hO)
          have hk2 : (k : Int) ≥ 2 := by omega
          rw [hpl]
          clear ha hp hkl hpa hdr hX hR hO hpl hk4 htl HO HEE HPP HK
          go_wp2_with fail
          refine HSS.out.mono ?_
          rintro e w3 ⟨rfl, q, rfl⟩
          go_wp2_with fail
          refine (pworks_any _).mono ?_
          rintro e w4 ⟨rfl, hb4⟩
          go_wp2_with fail
          go_returns
          exact ⟨rfl, (below_drewN HBw.out q).trans (hb4.mono HBw.out.size)⟩
end Go.Proofs.Ytkdnnoioejfpgaa
