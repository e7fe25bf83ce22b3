import Derived.Test.YtolifmpkillglaaGreatDoorIo
import Derived.Test.YtolifmpkillglaaGreatDoorHb
import Derived.Deep.CutRange
import Derived.Deep.RegionLaw
set_option linter.unusedVariables false
set_option maxRecDepth 100000
namespace Go.Proofs.YtolifmpkillglaaGreatDoor
open Go.RowKit
/-! Instrs, of the same instructions. -/
theorem two_new (w : World) (c1 c2 : Array Value) (t : TypeId) : Blk ((w.alloc (.cells c1 t)).alloc (.cells c2 t)) w.heap.size c1 t ∧ Blk ((w.alloc (.cells c1 t)).alloc (.cells c2 t)) (w.heap.size + 1) c2 t ∧ Below w.heap.size w ((w.alloc (.cells c1 t)).alloc (.cells c2 t)) := by
  have h := Blk.new (w.alloc (.cells c1 t)) c2 t
  have e : (w.alloc (.cells c1 t)).heap.size = w.heap.size + 1 := by simp
  rw [e] at h
  exact ⟨(Blk.new w c1 t).alloc _, h, (below_new w _).alloc (by simp) _⟩
set_option maxHeartbeats 4000000 in
theorem instrs_eq (l : List Ins) (w : World) (A1 A2 : Option Addr) (n c1 c2 B1 B2 : Nat) (rs1 rs2 : List RI) (h1 : IV w B1 A1 n rs1 l) (h2 : IV w B2 A2 n rs2 l) (hB1 : B1 ≤ w.heap.size) (hB2 : B2 ≤ w.heap.size) (hn : n ≤ 281474976710656)
    (ht : ∀ i, i < n → (rs1.getD i RI.zero).tn ≤ 70000 ∧ (rs1.getD i RI.zero).mn ≤ 70000) :
    Calls Tryz.prog 16 #[.slice A1 n c1, .slice A2 n c2] w fun e w' => e = .returned (.bool true) ∧ Below w.heap.size w w' := by
  have hnn : ((n : Int) != (n : Int)) = false := by simp
  have H1 := Lib.hid h1
  have H2 := Lib.hid h2
  clear h1 h2
  go_enter Tryz.func16, Tryz.ntmps16
  go_wp2_with fail
  go_loopw [5] (fun i wr => ∃ k : Nat, k ≤ n ∧ i = .int .i64 k ∧ Below w.heap.size w wr) (fun i _ => n - (intOf i).toNat)
  case atStart => exact ⟨0, Nat.zero_le _, rfl, Below.refl _ _⟩
  case round =>
    obtain ⟨k, hk, rfl, hb⟩ := hrel
    have i0 : (0 : Int) ≤ (k : Int) := by omega
    by_cases hlt : (k : Int) < (n : Int)
    · have V1 := H1.out.below hb hB1
      have V2 := H2.out.below hb hB2
      obtain ⟨b, o, hA, hbB, c0, c1, c2, c3, c4, c5, c6, c7, c8, c9⟩ := V1.ten k (by omega)
      obtain ⟨b', o', hA', hbB', d0, d1, d2, d3, d4, d5, d6, d7, d8, d9⟩ := V2.ten k (by omega)
      have R1 := V1.each k (by omega)
      have R2 := V2.each k (by omega)
      have hsc := R1.sc.trans R2.sc.symm
      have hht := ht k (by omega)
      generalize rs1.getD k RI.zero = r1 at c0 c1 c2 c3 c4 c5 c6 c7 c8 c9 R1 hsc hht
      generalize rs2.getD k RI.zero = r2 at d0 d1 d2 d3 d4 d5 d6 d7 d8 d9 R2 hsc
      obtain ⟨⟨s0, s1, s2, s3, s4, s5, s6, s7⟩, tA, tn, tc, mA, mn, mc⟩ := r1
      obtain ⟨sc2, tA2, tn2, tc2, mA2, mn2, mc2⟩ := r2
      simp only at hsc
      subst hsc
      simp only at c0 c1 c2 c3 c4 c5 c6 c7 c8 c9 d0 d1 d2 d3 d4 d5 d6 d7 d8 d9
      have HB := Lib.hid hb
      have hht : tn ≤ 70000 ∧ mn ≤ 70000 := hht
      have HHT := Lib.hid hht
      clear hht
      have HR1 := Lib.hid R1
      have HR2 := Lib.hid R2
      subst hA hA'
      clear V1 V2 hb R1 R2
      go_upto_region 6 with (fail)
      have hbs : b < wr.heap.size := by have := HB.out.size; omega
      have hbs' : b' < wr.heap.size := by have := HB.out.size; omega
      have hkn : k < n := by omega
      obtain ⟨hnt, hnm⟩ : tn ≤ 281474976710656 ∧ mn ≤ 281474976710656 := by have h3 := HHT.out; omega
      go_cut [6, 7] from 13 to 96 (fun p q wx => ∃ g h : Nat, p = .pointer (some ⟨g, 0, none⟩) ∧ q = .pointer (some ⟨h, 0, none⟩) ∧ Blk wx g #[.int .i64 s0, .int .u8 s1, .int .i64 s2, .int .u8 s3, .int .u16 s4, .int .i64 s5, .int .i64 s6, .slice tA tn tc, .slice mA mn mc, .int .u16 s7] 28 ∧ Blk wx h #[.int .i64 s0, .int .u8 s1, .int .i64 s2, .int .u8 s3, .int .u16 s4, .int .i64 s5, .int .i64 s6, .slice tA2 tn2 tc2, .slice mA2 mn2 mc2, .int .u16 s7] 28 ∧ Below wr.heap.size wr wx)
      case first =>
        go_region_law (fail)
        all_goals
          clear c0 c1 c2 c3 c4 c5 c6 c7 c8 c9 d0 d1 d2 d3 d4 d5 d6 d7 d8 d9
          go_wp2_with fail
          go_meet
          first
            | exact ⟨_, _, rfl, rfl, (two_new _ _ _ _).1, (two_new _ _ _ _).2.1, (two_new _ _ _ _).2.2.drew⟩
            | exact ⟨_, _, rfl, rfl, (two_new _ _ _ _).2.1, (two_new _ _ _ _).1, (two_new _ _ _ _).2.2.drew⟩
      case rest =>
        obtain ⟨g, h, rfl, rfl, X, Y, bx⟩ := hcut
        have hz := bx.size
        have hzw := HB.out.size
        have HBX := Lib.hid (HB.out.trans (bx.mono hzw))
        obtain ⟨xt1, xm1⟩ : RV inR wc B1 tA tn (l.getD k Ins.zero).tab ∧ RV woR wc B1 mA mn (l.getD k Ins.zero).mat := ⟨HR1.out.tab.below bx (by omega), HR1.out.mat.below bx (by omega)⟩
        obtain ⟨xt2, xm2⟩ : RV inR wc B2 tA2 tn2 (l.getD k Ins.zero).tab ∧ RV woR wc B2 mA2 mn2 (l.getD k Ins.zero).mat := ⟨HR2.out.tab.below bx (by omega), HR2.out.mat.below bx (by omega)⟩
        have e1 : tn2 = tn := by rw [← xt1.len, ← xt2.len]
        have e2 : mn2 = mn := by rw [← xm1.len, ← xm2.len]
        subst e1 e2
        have HI := Lib.hid (ints_any tA tA2 _ _ tc tc2 B1 B2 _ _ wc hnt hnt xt1 xt2)
        have HW := Lib.hid (fun q => words_any mA mA2 _ _ mc mc2 B1 B2 _ _ (wc.drewN q) hnm hnm (xm1.drewN q) (xm2.drewN q))
        simp only [decide_true] at HI HW
        clear xt1 xt2 xm1 xm2 bx HR1 HR2 HB c0 c1 c2 c3 c4 c5 c6 c7 c8 c9 d0 d1 d2 d3 d4 d5 d6 d7 d8 d9
        have x0 : wc.cell? ⟨g, 0, none⟩ = some _ := X.cell 0
        have z0 : wc.cell? ⟨h, 0, none⟩ = some _ := Y.cell 0
        have x1 : wc.cell? ⟨g, 1, none⟩ = some _ := X.cell 1
        have z1 : wc.cell? ⟨h, 1, none⟩ = some _ := Y.cell 1
        have x2 : wc.cell? ⟨g, 2, none⟩ = some _ := X.cell 2
        have z2 : wc.cell? ⟨h, 2, none⟩ = some _ := Y.cell 2
        have x3 : wc.cell? ⟨g, 3, none⟩ = some _ := X.cell 3
        have z3 : wc.cell? ⟨h, 3, none⟩ = some _ := Y.cell 3
        have x4 : wc.cell? ⟨g, 4, none⟩ = some _ := X.cell 4
        have z4 : wc.cell? ⟨h, 4, none⟩ = some _ := Y.cell 4
        have x5 : wc.cell? ⟨g, 5, none⟩ = some _ := X.cell 5
        have z5 : wc.cell? ⟨h, 5, none⟩ = some _ := Y.cell 5
        have x6 : wc.cell? ⟨g, 6, none⟩ = some _ := X.cell 6
        have z6 : wc.cell? ⟨h, 6, none⟩ = some _ := Y.cell 6
        have x7 : wc.cell? ⟨g, 7, none⟩ = some _ := X.cell 7
        have z7 : wc.cell? ⟨h, 7, none⟩ = some _ := Y.cell 7
        have x8 : wc.cell? ⟨g, 8, none⟩ = some _ := X.cell 8
        have z8 : wc.cell? ⟨h, 8, none⟩ = some _ := Y.cell 8
        have x9 : wc.cell? ⟨g, 9, none⟩ = some _ := X.cell 9
        have z9 : wc.cell? ⟨h, 9, none⟩ = some _ := Y.cell 9
        clear X Y
        go_upto_region 7 with (fail)
        go_wp2_with (first | ((with_reducible refine HI.out.mono ?_); rintro e w5 ⟨rfl, q5, rfl⟩) | ((with_reducible refine (HW.out _).mono ?_); rintro e w6 ⟨rfl, q6, rfl⟩))
        go_roundw
        case rel => exact ⟨k + 1, by omega, by go_num, below_drewN HBX.out _⟩
        case measure => simp [intOf]; omega
    · obtain rfl : k = n := by omega
      go_wp2_with fail
      go_returns
      exact ⟨rfl, hb⟩
end Go.Proofs.YtolifmpkillglaaGreatDoor
