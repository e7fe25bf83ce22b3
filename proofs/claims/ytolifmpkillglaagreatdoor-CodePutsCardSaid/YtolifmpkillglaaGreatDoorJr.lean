import Derived.Test.YtolifmpkillglaaGreatDoorJm
import Derived.Test.YtolifmpkillglaaGreatDoorIq
set_option linter.unusedVariables false
set_option maxRecDepth 100000
namespace Go.Proofs.YtolifmpkillglaaGreatDoor
open Go.RowKit
/-! Instrs of whatever instructions. Printed by tools/genJr.py. -/
set_option maxHeartbeats 8000000 in
theorem instrs_u (l1 l2 : List Ins) (w : World) (A1 A2 : Option Addr) (n1 n2 c1 c2 B1 B2 : Nat) (rs1 rs2 : List RI) (h1 : IV w B1 A1 n1 rs1 l1) (h2 : IV w B2 A2 n2 rs2 l2) (hB1 : B1 ≤ w.heap.size) (hB2 : B2 ≤ w.heap.size) (hn : n1 ≤ 281474976710656) (hn2 : n2 ≤ 281474976710656)
    (ht : ∀ i, i < n1 → (rs1.getD i RI.zero).tn ≤ 70000 ∧ (rs1.getD i RI.zero).mn ≤ 70000) (ht2 : ∀ i, i < n2 → (rs2.getD i RI.zero).tn ≤ 70000 ∧ (rs2.getD i RI.zero).mn ≤ 70000) :
    Calls Tryz.prog 16 #[.slice A1 n1 c1, .slice A2 n2 c2] w fun e w' => EqT e (l1 = l2) ∧ Below w.heap.size w w' := by
  by_cases hne : n1 = n2
  case neg =>
    have hnn : ((n1 : Int) != (n2 : Int)) = true := by rw [bne_iff_ne]; omega
    clear h1 h2 ht ht2
    go_enter Tryz.func16, Tryz.ntmps16
    go_wp2_with fail
    go_returns
    exact ⟨.no rfl, Below.refl _ _⟩
  subst hne
  have hnn : ((n1 : Int) != (n1 : Int)) = false := by simp
  have H1 := Lib.hid h1
  have H2 := Lib.hid h2
  have HT1 := Lib.hid ht
  have HT2 := Lib.hid ht2
  clear h1 h2 ht ht2
  go_enter Tryz.func16, Tryz.ntmps16
  go_wp2_with fail
  go_loopw [5] (fun i wr => ∃ k : Nat, k ≤ n1 ∧ i = .int .i64 k ∧ l1.take k = l2.take k ∧ Below w.heap.size w wr) (fun i _ => n1 - (intOf i).toNat)
  case atStart => exact ⟨0, Nat.zero_le _, rfl, rfl, Below.refl _ _⟩
  case round =>
    obtain ⟨k, hk, rfl, htk, hb⟩ := hrel
    have i0 : (0 : Int) ≤ (k : Int) := by omega
    by_cases hlt : (k : Int) < (n1 : Int)
    · have V1 := H1.out.below hb hB1
      have V2 := H2.out.below hb hB2
      obtain ⟨b, o, hA, hbB, c0, c1, c2, c3, c4, c5, c6, c7, c8, c9⟩ := V1.ten k (by omega)
      obtain ⟨b', o', hA', hbB', d0, d1, d2, d3, d4, d5, d6, d7, d8, d9⟩ := V2.ten k (by omega)
      have R1 := V1.each k (by omega)
      have R2 := V2.each k (by omega)
      have ht1 := HT1.out k (by omega)
      have ht2 := HT2.out k (by omega)
      have hst : l1.getD k Ins.zero = l2.getD k Ins.zero → l1.take (k + 1) = l2.take (k + 1) := fun h => by
        rw [ins_take l1 k (by have := H1.out.len; omega), ins_take l2 k (by have := H2.out.len; omega), htk, h]
      generalize rs1.getD k RI.zero = r1 at c0 c1 c2 c3 c4 c5 c6 c7 c8 c9 R1 ht1
      generalize rs2.getD k RI.zero = r2 at d0 d1 d2 d3 d4 d5 d6 d7 d8 d9 R2 ht2
      generalize l1.getD k Ins.zero = x1 at R1 hst
      generalize l2.getD k Ins.zero = x2 at R2 hst
      obtain ⟨hsc1, t1, m1, _, _⟩ := R1
      obtain ⟨hsc2, t2, m2, _, _⟩ := R2
      obtain ⟨⟨s0, s1, s2, s3, s4, s5, s6, s7⟩, tA, tn, tc, mA, mn, mc⟩ := r1
      obtain ⟨⟨u0, u1, u2, u3, u4, u5, u6, u7⟩, tA2, tn2, tc2, mA2, mn2, mc2⟩ := r2
      obtain ⟨_, tab, mat⟩ := x1
      obtain ⟨_, tab2, mat2⟩ := x2
      simp only at c0 c1 c2 c3 c4 c5 c6 c7 c8 c9 d0 d1 d2 d3 d4 d5 d6 d7 d8 d9 hsc1 hsc2 t1 m1 t2 m2 ht1 ht2
      subst hsc1 hsc2
      have HB := Lib.hid hb
      have HST := Lib.hid hst
      have hnt : tn ≤ 281474976710656 ∧ mn ≤ 281474976710656 := by omega
      have hnt2 : tn2 ≤ 281474976710656 ∧ mn2 ≤ 281474976710656 := by omega
      have HIT := Lib.hid (fun W (b : Below wr.heap.size wr W) => ints_any tA tA2 tn tn2 tc tc2 B1 B2 tab tab2 W hnt.1 hnt2.1 (t1.below b (Nat.le_trans hB1 hb.size)) (t2.below b (Nat.le_trans hB2 hb.size)))
      have HWT := Lib.hid (fun W (b : Below wr.heap.size wr W) => words_any mA mA2 mn mn2 mc mc2 B1 B2 mat mat2 W hnt.2 hnt2.2 (m1.below b (Nat.le_trans hB1 hb.size)) (m2.below b (Nat.le_trans hB2 hb.size)))
      have hbs : b < wr.heap.size := by have := hb.size; omega
      have hbs' : b' < wr.heap.size := by have := hb.size; omega
      have hkn : k < n1 := by omega
      subst hA hA'
      clear V1 V2 hb t1 t2 m1 m2 hst htk ht1 ht2 hnt hnt2
      go_upto_region 6 with (fail)
      go_cut [6, 7] from 13 to 96 (fun p q wx => ∃ g h : Nat, p = .pointer (some ⟨g, 0, none⟩) ∧ q = .pointer (some ⟨h, 0, none⟩) ∧ Blk wx g #[.int .i64 s0, .int .u8 s1, .int .i64 s2, .int .u8 s3, .int .u16 s4, .int .i64 s5, .int .i64 s6, .slice tA tn tc, .slice mA mn mc, .int .u16 s7] 28 ∧ Blk wx h #[.int .i64 u0, .int .u8 u1, .int .i64 u2, .int .u8 u3, .int .u16 u4, .int .i64 u5, .int .i64 u6, .slice tA2 tn2 tc2, .slice mA2 mn2 mc2, .int .u16 u7] 28 ∧ Below wr.heap.size wr wx)
      case first =>
        clear HIT HWT
        go_region_law (fail)
        all_goals
          clear c0 c1 c2 c3 c4 c5 c6 c7 c8 c9 d0 d1 d2 d3 d4 d5 d6 d7 d8 d9
          go_wp2_with fail
          go_meet
          first
            | exact ⟨_, _, rfl, rfl, (two_new _ _ _ _).1, (two_new _ _ _ _).2.1, (two_new _ _ _ _).2.2.drew⟩
            | exact ⟨_, _, rfl, rfl, (two_new _ _ _ _).2.1, (two_new _ _ _ _).1, (two_new _ _ _ _).2.2.drew⟩
      case rest =>
        obtain ⟨g, h, rfl, rfl, X, Y, bx⟩ := hcut
        have hzw := HB.out.size
        have HBX := Lib.hid (HB.out.trans (bx.mono hzw))
        have HI := Lib.hid (HIT.out wc bx)
        have HW := Lib.hid (fun q => HWT.out (wc.drewN q) (below_drewN bx q))
        clear bx HB HIT HWT c0 c1 c2 c3 c4 c5 c6 c7 c8 c9 d0 d1 d2 d3 d4 d5 d6 d7 d8 d9
        have x0 : wc.cell? ⟨g, 0, none⟩ = some _ := X.cell 0
        have z0 : wc.cell? ⟨h, 0, none⟩ = some _ := Y.cell 0
        have x1 : wc.cell? ⟨g, 1, none⟩ = some _ := X.cell 1
        have z1 : wc.cell? ⟨h, 1, none⟩ = some _ := Y.cell 1
        have x2 : wc.cell? ⟨g, 2, none⟩ = some _ := X.cell 2
        have z2 : wc.cell? ⟨h, 2, none⟩ = some _ := Y.cell 2
        have x3 : wc.cell? ⟨g, 3, none⟩ = some _ := X.cell 3
        have z3 : wc.cell? ⟨h, 3, none⟩ = some _ := Y.cell 3
        have x4 : wc.cell? ⟨g, 4, none⟩ = some _ := X.cell 4
        have z4 : wc.cell? ⟨h, 4, none⟩ = some _ := Y.cell 4
        have x5 : wc.cell? ⟨g, 5, none⟩ = some _ := X.cell 5
        have z5 : wc.cell? ⟨h, 5, none⟩ = some _ := Y.cell 5
        have x6 : wc.cell? ⟨g, 6, none⟩ = some _ := X.cell 6
        have z6 : wc.cell? ⟨h, 6, none⟩ = some _ := Y.cell 6
        have x7 : wc.cell? ⟨g, 7, none⟩ = some _ := X.cell 7
        have z7 : wc.cell? ⟨h, 7, none⟩ = some _ := Y.cell 7
        have x8 : wc.cell? ⟨g, 8, none⟩ = some _ := X.cell 8
        have z8 : wc.cell? ⟨h, 8, none⟩ = some _ := Y.cell 8
        have x9 : wc.cell? ⟨g, 9, none⟩ = some _ := X.cell 9
        have z9 : wc.cell? ⟨h, 9, none⟩ = some _ := Y.cell 9
        clear X Y
        by_cases e0 : s0 = u0
        case neg =>
          have b0 : (s0 != u0) = true := by simpa using e0
          clear e0 HI HW
          go_wp2_with fail
          go_returns
          exact ⟨.no rfl, by first | exact HBX.out | exact below_drewN HBX.out _⟩
        subst e0
        by_cases e1 : s1 = u1
        case neg =>
          have b1 : (s1 != u1) = true := by simpa using e1
          clear e1 HI HW
          go_wp2_with fail
          go_returns
          exact ⟨.no rfl, by first | exact HBX.out | exact below_drewN HBX.out _⟩
        subst e1
        by_cases e2 : s2 = u2
        case neg =>
          have b2 : (s2 != u2) = true := by simpa using e2
          clear e2 HI HW
          go_wp2_with fail
          go_returns
          exact ⟨.no rfl, by first | exact HBX.out | exact below_drewN HBX.out _⟩
        subst e2
        by_cases e3 : s3 = u3
        case neg =>
          have b3 : (s3 != u3) = true := by simpa using e3
          clear e3 HI HW
          go_wp2_with fail
          go_returns
          exact ⟨.no rfl, by first | exact HBX.out | exact below_drewN HBX.out _⟩
        subst e3
        by_cases e4 : s4 = u4
        case neg =>
          have b4 : (s4 != u4) = true := by simpa using e4
          clear e4 HI HW
          go_wp2_with fail
          go_returns
          exact ⟨.no rfl, by first | exact HBX.out | exact below_drewN HBX.out _⟩
        subst e4
        by_cases e5 : s5 = u5
        case neg =>
          have b5 : (s5 != u5) = true := by simpa using e5
          clear e5 HI HW
          go_wp2_with fail
          go_returns
          exact ⟨.no rfl, by first | exact HBX.out | exact below_drewN HBX.out _⟩
        subst e5
        by_cases e6 : s6 = u6
        case neg =>
          have b6 : (s6 != u6) = true := by simpa using e6
          clear e6 HI HW
          go_wp2_with fail
          go_returns
          exact ⟨.no rfl, by first | exact HBX.out | exact below_drewN HBX.out _⟩
        subst e6
        by_cases e7 : s7 = u7
        case neg =>
          have b7 : (s7 != u7) = true := by simpa using e7
          clear e7 HI HW
          go_wp2_with fail
          go_returns
          exact ⟨.no rfl, by first | exact HBX.out | exact below_drewN HBX.out _⟩
        subst e7
        go_upto_region 7 with (fail)
        by_cases et : tab = tab2
        case neg =>
          rw [decide_eq_false et] at HI
          clear HW et
          go_wp2_with ((with_reducible refine HI.out.mono ?_); rintro e w5 ⟨rfl, q5, rfl⟩)
          go_returns
          exact ⟨.no rfl, by first | exact HBX.out | exact below_drewN HBX.out _⟩
        rw [decide_eq_true et] at HI
        have HET := Lib.hid et
        clear et
        by_cases em : mat = mat2
        case neg =>
          rw [decide_eq_false em] at HW
          clear em
          go_wp2_with (first | ((with_reducible refine HI.out.mono ?_); rintro e w5 ⟨rfl, q5, rfl⟩) | ((with_reducible refine (HW.out _).mono ?_); rintro e w6 ⟨rfl, q6, rfl⟩))
          go_returns
          exact ⟨.no rfl, by first | exact HBX.out | exact below_drewN HBX.out _ | exact below_drewN (below_drewN HBX.out _) _⟩
        rw [decide_eq_true em] at HW
        have HEM := Lib.hid em
        clear em
        go_wp2_with (first | ((with_reducible refine HI.out.mono ?_); rintro e w5 ⟨rfl, q5, rfl⟩) | ((with_reducible refine (HW.out _).mono ?_); rintro e w6 ⟨rfl, q6, rfl⟩))
        go_roundw
        case rel => exact ⟨k + 1, by omega, by go_num, HST.out (by rw [HET.out, HEM.out]), by first | exact below_drewN HBX.out _ | exact below_drewN (below_drewN HBX.out _) _⟩
        case measure => simp [intOf]; omega
    · obtain rfl : k = n1 := by omega
      have hE : l1 = l2 := by
        rwa [List.take_of_length_le (by rw [H1.out.len]; exact Nat.le_refl _), List.take_of_length_le (by rw [H2.out.len]; exact Nat.le_refl _)] at htk
      have HE := Lib.hid hE
      clear hE htk
      go_wp2_with fail
      go_returns
      exact ⟨.yes rfl HE.out, hb⟩
end Go.Proofs.YtolifmpkillglaaGreatDoor
