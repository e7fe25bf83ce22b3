import Derived.Test.YtnigipaebpddfaaDoorIv
set_option linter.unusedVariables false
set_option maxRecDepth 100000
namespace Go.Proofs.YtnigipaebpddfaaDoor
open Go.RowKit
/-! CodeJoins: the walk. -/
theorem getD_mapsh (d : Int) (M : List Ins) (k : Nat) (h : k < M.length) : (M.map (sh d)).getD k Ins.zero = sh d (M.getD k Ins.zero) := by
  rw [List.getD_eq_getElem?_getD, List.getElem?_map, List.getElem?_eq_getElem h, List.getD_eq_getElem?_getD, List.getElem?_eq_getElem h]
  rfl
theorem getD_behind (L M : List Ins) (k : Nat) : (L ++ M).getD (L.length + k) Ins.zero = M.getD k Ins.zero := by
  rw [List.getD_eq_getElem?_getD, List.getD_eq_getElem?_getD, List.getElem?_append_right (by omega)]
  congr 2
  omega
theorem IV.rows {w : World} {B n : Nat} {A : Option Addr} {rs : List RI} {l : List Ins} (h : IV w B A n rs l) (hl : ∀ x ∈ l, x.tab.length ≤ 65536 ∧ x.mat.length ≤ 65536) : ∀ i, i < n → (rs.getD i RI.zero).tn ≤ 70000 ∧ (rs.getD i RI.zero).mn ≤ 70000 := by
  intro i hi
  have h1 := (h.each i hi).tab.len
  have h2 := (h.each i hi).mat.len
  have hm : l.getD i Ins.zero ∈ l := by
    rw [List.getD_eq_getElem?_getD, List.getElem?_eq_getElem (by rw [h.len]; exact hi)]
    exact List.getElem_mem _
  have := hl _ hm
  omega
set_option maxHeartbeats 4000000 in
theorem walk_joins (A1 A2 : Option Addr) (n1 n2 c1 c2 : Nat) (l1 l2 : List Int) (w : World) (T : TE w) (hf1 : n1 ≤ 140737488355328) (hf2 : n2 ≤ 140737488355328) (hn1 : n1 ≤ c1) (hn2 : n2 ≤ c2) (h1 : Rd w w.heap.size A1 n1 l1) (h2 : Rd w w.heap.size A2 n2 l2) :
    Calls Tryd.prog 6 #[.slice A1 n1 c1, .slice A2 n2 c2] w fun e w' => e = .returned (.bool true) ∧ Below w.heap.size w w' := by
  have hl1 := h1.len
  have hl2 := h2.len
  have hr1 := h1.rg
  have hr2 := h2.rg
  have HA := Lib.hid (read_any l1 w w.heap.size A1 n1 c1 T h1 hn1 (by omega) (Nat.le_refl _))
  have HBR := Lib.hid (fun W (T : TE W) (h : Rd W w.heap.size A2 n2 l2) (hb : w.heap.size ≤ W.heap.size) => read_any l2 W w.heap.size A2 n2 c2 T h hn2 (by omega) hb)
  have HT := Lib.hid T
  have HW := Lib.hid works_any
  have HR1 := Lib.hid h1
  have HR2 := Lib.hid h2
  have hj := joins_list l1 l2 hr1 hr2
  have hrw := readC_rows l1 hr1
  have hLb := readC_len l1 hr1
  have hMb := readC_len l2 hr2
  by_cases e1 : (readC l1).1 = 0
  · by_cases e2 : (readC l2).1 = 0
    · rw [e1] at HA
      rw [e2] at HBR
      have hj := hj e1 e2
      obtain ⟨_, _, hG2, _⟩ := readC_inv l2 e2
      have hat := readF_at l2 hr2 _ _ _ hG2
      generalize (readC l1).2 = L at HA hj hrw hLb
      generalize (readC l2).2 = M at HBR hj hMb hat
      have HAT : Hid (∀ k, k < M.length → ∃ a : Nat, (M.getD k Ins.zero).sc.at_ = a ∧ a < l2.length) := Lib.hid (fun k hk => by
        have hm : M.getD k Ins.zero ∈ M := by
          rw [List.getD_eq_getElem?_getD, List.getElem?_eq_getElem hk]
          exact List.getElem_mem _
        obtain ⟨a, ha, _, hb⟩ := hat _ hm
        exact ⟨a, ha, hb⟩)
      clear e1 e2 T h1 h2 hG2 hat
      by_cases hs : n1 + n2 ≤ 2000
      · have hj := hj (by omega)
        have hs1 : ¬ ((n1 : Int) + (n2 : Int) > 2000) := by omega
        obtain ⟨N, hN⟩ : ∃ N, (L ++ M.map (sh l1.length)).length = N := ⟨_, rfl⟩
        have hNN : N = L.length + M.length := by rw [← hN, List.length_append, List.length_map]
        have HRA := Lib.hid (fun W A c (T : TE W) (h : Rd W W.heap.size A (n1 + n2) (l1 ++ l2)) (hc : n1 + n2 ≤ c) => read_any (l1 ++ l2) W W.heap.size A (n1 + n2) c T h hc (by omega) (Nat.le_refl _))
        rw [hj] at HRA
        simp only [hN] at HRA
        have HG1 := Lib.hid (getD_behind L (M.map (sh l1.length)))
        have HG2 := Lib.hid (getD_mapsh l1.length M)
        have hTK : (L ++ M.map (sh l1.length)).take L.length = L := List.take_left
        have HTK := Lib.hid hTK
        have HRW := Lib.hid hrw
        have hLN : L.length ≤ N := by omega
        have hNb : ((N : Int) != (L.length : Int) + (M.length : Int)) = false := by rw [bne_eq_false_iff_eq]; omega
        have HNN := Lib.hid hNN
        clear hNN
        clear hj hN hrw hTK
        go_enter Tryd.func6, Tryd.ntmps6
        go_wp2_with fail
        refine HA.out.mono ?_
        rintro e w1 ⟨A3, c3, r1, rfl, N1, b1⟩
        have HN1 := Lib.hid N1
        have HB := Lib.hid b1
        have HT := Lib.hid (HT.out.below' b1)
        have hz1 := b1.size
        have HR1 := Lib.hid (HR1.out.below b1 (Nat.le_refl _))
        have HR2 := Lib.hid (HR2.out.below b1 (Nat.le_refl _))
        clear N1 b1
        go_wp2_with fail
        refine (HBR.out _ HT.out HR2.out hz1).mono ?_
        rintro e w2 ⟨A4, c4, r2, rfl, N2, b2⟩
        have HN1 := Lib.hid (HN1.out.below b2)
        have HN2 := Lib.hid N2
        have HB := Lib.hid (HB.out.trans (b2.mono hz1))
        have HT := Lib.hid (HT.out.below' b2)
        have HR1 := Lib.hid (HR1.out.below b2 hz1)
        have HR2 := Lib.hid (HR2.out.below b2 hz1)
        have hz2 := b2.size
        clear N2 b2
        go_wp2_with fail
        refine (copy_any A1 n1 c1 w.heap.size l1 w2 hf1 HR1.out (by omega)).mono ?_
        rintro e w3 ⟨A5, c5, rfl, o3, b3⟩
        have HV1 := Lib.hid (HN1.out.iv.below b3 (Nat.le_refl _))
        have HV2 := Lib.hid (HN2.out.iv.below b3 (Nat.le_refl _))
        have HT2 := Lib.hid HT.out
        have HT := Lib.hid (HT.out.below' b3)
        have HR2 := Lib.hid (HR2.out.below b3 (by omega))
        have HO3 := Lib.hid o3
        have HB := Lib.hid (HB.out.trans (b3.mono (by omega)))
        have hz3 := b3.size
        clear o3 b3
        go_wp2_with (at_builtin; refine wpList_app rfl _ _ rfl w2.heap.size A5 n1 c5 l1 rfl HO3.out w.heap.size A2 n2 c2 l2 rfl HR2.out (n1 + n2) rfl (l1 ++ l2) rfl (by omega) hz3 ?_; intro A6 c6 w4 ho4 hb4)
        have HV1 := Lib.hid (HV1.out.below hb4 (Nat.le_refl _))
        have HV2 := Lib.hid (HV2.out.below hb4 (Nat.le_refl _))
        have hsz2 := HT2.out.sz
        have HT := Lib.hid (HT.out.below hb4 hsz2)
        have HB := Lib.hid (HB.out.trans (hb4.mono (by omega)))
        have hz4 := hb4.size
        have HO4 := Lib.hid ho4
        clear ho4 hb4
        go_wp2_with fail
        refine (HRA.out w4 A6 c6 HT.out HO4.out.rd HO4.out.le).mono ?_
        rintro e w5 ⟨A7, c7, r3, rfl, N3, b5⟩
        have HN3 := Lib.hid N3
        have HV1 := Lib.hid (HV1.out.below b5 (by omega))
        have HV2 := Lib.hid (HV2.out.below b5 (by omega))
        have HT := Lib.hid (HT.out.below' b5)
        have HB := Lib.hid (HB.out.trans (b5.mono (by omega)))
        have hz5 := b5.size
        clear N3 b5
        have hc7 : L.length ≤ c7 := by have := HN3.out.rv.le; omega
        have hcI := fun W => run_cutI W A7 N c7 L.length hc7
        have HIV : Hid (IV w5 w5.heap.size A7 L.length (r3.take L.length) L) := Lib.hid (by
          have := HN3.out.iv.take hLN
          rwa [HTK.out] at this)
        go_wp2_with fail
        refine (instrs_eq L w5 A7 A3 L.length L.length c3 w5.heap.size w2.heap.size (r3.take L.length) r1 HIV.out HV1.out (Nat.le_refl _) (by omega) (by omega) (HIV.out.rows HRW.out)).mono ?_
        rintro e w6 ⟨rfl, b6⟩
        have HV3 := Lib.hid (HN3.out.iv.below b6 (Nat.le_refl _))
        have HV2 := Lib.hid (HV2.out.below b6 (by omega))
        have HT := Lib.hid (HT.out.below' b6)
        have HB := Lib.hid (HB.out.trans (b6.mono (by omega)))
        clear b6 HV1 HIV hcI
        go_wp2_with fail
        go_loopw [12] (fun i wr => ∃ k q : Nat, k ≤ M.length ∧ i = .int .i64 k ∧ wr = w6.drewN q) (fun i _ => M.length - (intOf i).toNat)
        case atStart => exact ⟨0, 0, Nat.zero_le _, rfl, rfl⟩
        case round =>
          obtain ⟨k, q, hk, rfl, rfl⟩ := hrel
          have i0 : (0 : Int) ≤ (k : Int) := by omega
          by_cases hlt : (k : Int) < (M.length : Int)
          · obtain ⟨b, o, hA7, _, x0, x1, _⟩ := HV3.out.ten (L.length + k) (by have := HNN.out; omega)
            obtain ⟨b', o', hA4, _, y0, y1, _⟩ := HV2.out.ten k (by omega)
            have s3 := (HV3.out.each (L.length + k) (by have := HNN.out; omega)).sc
            have s2 := (HV2.out.each k (by omega)).sc
            rw [HG1.out k, HG2.out k (by omega)] at s3
            rw [s3] at x0 x1
            rw [s2] at y0 y1
            obtain ⟨a, ha, ha2⟩ := HAT.out k (by omega)
            replace x0 : w6.cell? ⟨b, o + (L.length + k) * 10, none⟩ = some (.int .i64 ((M.getD k Ins.zero).sc.at_ + (l1.length : Int))) := x0
            replace x1 : w6.cell? ⟨b, o + (L.length + k) * 10 + 1, none⟩ = some (.int .u8 (M.getD k Ins.zero).sc.op) := x1
            rw [ha, hl1] at x0
            rw [ha] at y0
            generalize (M.getD k Ins.zero).sc.op = op at x1 y1
            have j1 : (L.length : Int) + (k : Int) < (N : Int) := by have := HNN.out; omega
            have j0 : (0 : Int) ≤ (L.length : Int) + (k : Int) := by omega
            have jw : IntKind.i64.wrap ((L.length : Int) + (k : Int)) = (L.length : Int) + (k : Int) := IntWalk.i64_in _ (by omega)
            have jo : (op != op) = false := by simp
            have jw2 : IntKind.i64.wrap ((a : Int) + (n1 : Int)) = (a : Int) + (n1 : Int) := IntWalk.i64_in _ (by omega)
            have jo2 : (((a : Int) + (n1 : Int)) != ((a : Int) + (n1 : Int))) = false := by simp
            have jt : ((L.length : Int) + (k : Int)).toNat = L.length + k := by omega
            subst hA7 hA4
            clear s3 s2 ha
            go_wp2_with fail
            go_quiet (fail)
            go_wp2_with fail
            go_roundw
            case rel => exact ⟨k + 1, _, by omega, by go_num, rfl⟩
            case measure => simp [intOf]; omega
          · obtain rfl : k = M.length := by omega
            go_wp2_with fail
            refine (HW.out _ (HT.out.drewN q)).mono ?_
            rintro e w7 ⟨rfl, b7⟩
            have HB := Lib.hid ((below_drewN HB.out q).trans (b7.mono HB.out.size))
            clear b7
            go_wp2_with fail
            go_returns
            exact ⟨rfl, HB.out⟩
      · have hs1 : ((n1 : Int) + (n2 : Int) > 2000) := by omega
        clear hj hrw
        go_enter Tryd.func6, Tryd.ntmps6
        go_wp2_with fail
        refine HA.out.mono ?_
        rintro e w1 ⟨A3, c3, r1, rfl, N1, b1⟩
        have HB := Lib.hid b1
        have HT := Lib.hid (HT.out.below' b1)
        have hz1 := b1.size
        have HR2 := Lib.hid (HR2.out.below b1 (Nat.le_refl _))
        clear N1 b1
        go_wp2_with fail
        refine (HBR.out _ HT.out HR2.out hz1).mono ?_
        rintro e w2 ⟨A4, c4, r2, rfl, N2, b2⟩
        have HB := Lib.hid (HB.out.trans (b2.mono hz1))
        have HT := Lib.hid (HT.out.below' b2)
        clear N2 b2
        go_wp2_with fail
        refine (HW.out _ HT.out).mono ?_
        rintro e w5 ⟨rfl, b5⟩
        have HB := Lib.hid (HB.out.trans (b5.mono HB.out.size))
        clear b5
        go_wp2_with fail
        go_returns
        exact ⟨rfl, HB.out⟩
    · generalize readC l2 = R2 at HBR e2
      obtain ⟨f2, M⟩ := R2
      simp only at HBR e2
      rw [e1] at HA
      have h21 : (f2 != 0) = true := by simpa using e2
      clear hj hrw hMb e2 T h1 h2
      go_enter Tryd.func6, Tryd.ntmps6
      go_wp2_with fail
      refine HA.out.mono ?_
      rintro e w1 ⟨A3, c3, r1, rfl, N1, b1⟩
      have HB := Lib.hid b1
      have HT := Lib.hid (HT.out.below' b1)
      have hz1 := b1.size
      have HR2 := Lib.hid (HR2.out.below b1 (Nat.le_refl _))
      clear N1 b1
      go_wp2_with fail
      refine (HBR.out _ HT.out HR2.out hz1).mono ?_
      rintro e w2 ⟨A4, c4, r2, rfl, N2, b2⟩
      have HB := Lib.hid (HB.out.trans (b2.mono hz1))
      have HT := Lib.hid (HT.out.below' b2)
      clear N2 b2
      go_wp2_with fail
      refine (HW.out _ HT.out).mono ?_
      rintro e w5 ⟨rfl, b5⟩
      have HB := Lib.hid (HB.out.trans (b5.mono HB.out.size))
      clear b5
      go_wp2_with fail
      go_returns
      exact ⟨rfl, HB.out⟩
  · generalize readC l1 = R1 at HA e1
    obtain ⟨f1, L⟩ := R1
    simp only at HA e1
    have h21 : (f1 != 0) = true := by simpa using e1
    clear hj hrw hMb hLb e1 T h1 h2
    go_enter Tryd.func6, Tryd.ntmps6
    go_wp2_with fail
    refine HA.out.mono ?_
    rintro e w1 ⟨A3, c3, r1, rfl, N1, b1⟩
    have HB := Lib.hid b1
    have HT := Lib.hid (HT.out.below' b1)
    have hz1 := b1.size
    have HR2 := Lib.hid (HR2.out.below b1 (Nat.le_refl _))
    clear N1 b1
    go_wp2_with fail
    refine (HBR.out _ HT.out HR2.out hz1).mono ?_
    rintro e w2 ⟨A4, c4, r2, rfl, N2, b2⟩
    have HB := Lib.hid (HB.out.trans (b2.mono hz1))
    have HT := Lib.hid (HT.out.below' b2)
    clear N2 b2
    go_wp2_with fail
    refine (HW.out _ HT.out).mono ?_
    rintro e w5 ⟨rfl, b5⟩
    have HB := Lib.hid (HB.out.trans (b5.mono HB.out.size))
    clear b5
    go_wp2_with fail
    go_returns
    exact ⟨rfl, HB.out⟩
end Go.Proofs.YtnigipaebpddfaaDoor
