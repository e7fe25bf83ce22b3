import Derived.Test.YtolifmpkillglaaGreatDoorGi
import Derived.Deep.CutRange
set_option linter.unusedVariables false
set_option maxRecDepth 100000
namespace Go.Proofs.YtolifmpkillglaaGreatDoor
open Go.RowKit
/-! The document's Of. -/
def jmpD (n : Int) : Bool := decide (96 ≤ n ∧ n ≤ 113 ∨ n = 115 ∨ n = 117)
def endD (n : Int) : Bool := decide (n = 112 ∨ n = 114 ∨ n = 115 ∨ n = 117 ∨ n = 119 ∨ n = 120 ∨ n = 122 ∨ n = 147)
def ofD (n : Nat) : Inf × Int :=
  if 150 ≤ n then (Inf.zero, 6) else if nms.getD n [] = [45] then (Inf.zero, 6) else (⟨n, nms.getD n [], immD n, (wordsD n).1, (wordsD n).2, jmpD n, endD n⟩, 0)
theorem below_da (w : World) (o : Obj) : Below w.heap.size w (w.drew.alloc o) := ((Below.refl _ _).drew).alloc (Nat.le_refl _) o
theorem below_ad (w : World) (o : Obj) : Below w.heap.size w (w.alloc o).drew := ((Below.refl _ _).alloc (Nat.le_refl _) o).drew
theorem below_d (w : World) : Below w.heap.size w w.drew := (Below.refl _ _).drew
abbrev NmS (g n : Nat) (s : ByteArray) (w0 W : World) : Prop := W.cell? ⟨g + 1, n, none⟩ = some (.string s) ∧ Blk W g #[.int .u8 0, .string ⟨#[]⟩, .int .u8 0, .int .i64 0, .int .i64 0, .bool false, .bool false] 46 ∧ Below w0.heap.size w0 W
theorem NmS.keep' {g n : Nat} {s : ByteArray} {w0 W W' : World} (h : NmS g n s w0 W) (hb : Below W.heap.size W W') : NmS g n s w0 W' := by
  obtain ⟨h0, h1, h2⟩ := h
  have hg : g + 1 < W.heap.size := World.block_lt_of_cell? W ⟨g + 1, n, none⟩ h0
  exact ⟨(hb.cell (p := ⟨g + 1, n, none⟩) hg).trans h0, h1.below hb, h2.trans (hb.mono h2.size)⟩
theorem classes (n : Nat) : n = 112 ∨ n = 114 ∨ n = 115 ∨ n = 117 ∨ n = 119 ∨ n = 120 ∨ n = 122 ∨ n = 147 ∨ (96 ≤ n ∧ n ≤ 113 ∧ n ≠ 112) ∨ (n < 96) ∨ (113 < n ∧ n ≠ 114 ∧ n ≠ 115 ∧ n ≠ 117 ∧ n ≠ 119 ∧ n ≠ 120 ∧ n ≠ 122 ∧ n ≠ 147) := by omega
theorem Blk.drew {w : World} {g : Nat} {cs : Array Value} {t : TypeId} (h : Blk w g cs t) : Blk w.drew g cs t := h
/-- The end of the document's Of: what lies in the result's block is answered. -/
theorem refof_end (w W : World) (a : Act) (v0 v1 v2 v3 v4 v5 v6 : Value) (hd : a.defers = []) (h2 : a.tmps[2]?.getD undef = .pointer (some ⟨w.heap.size, 0, none⟩)) (h3 : a.tmps[3]?.getD undef = .int .i64 0)
    (X : Blk W w.heap.size #[v0, v1, v2, v3, v4, v5, v6] 46) (B : Below w.heap.size w W) (x : Inf) (hx : x.val = .agg #[v0, v1, v2, v3, v4, v5, v6]) :
    bodyPost Tryz.prog Tryz.f28 (fun e w' => e = .returned (.tuple #[x.val, .int .i64 0]) ∧ Below w.heap.size w w') Exit.ret a W := by
  obtain ⟨d0, d1, d2, d3, d4, d5, d6⟩ := X.cells7
  rw [hx]
  exact bodyPost_ret (v := .tuple #[.agg #[v0, v1, v2, v3, v4, v5, v6], .int .i64 0]) (by simp [results, Tryz.results28, go_sem, d0, d1, d2, d3, d4, d5, d6, h2, h3]) hd ⟨rfl, B⟩
set_option maxRecDepth 100000 in
set_option maxHeartbeats 4000000 in
theorem refof_any (n : Nat) (hn : n < 256) : OfSaid 28 n (ofD n) := by
  intro w T
  clear T
  have HN := Lib.hid names_any
  unfold ofD
  by_cases h150 : 150 ≤ n
  · rw [if_pos h150]
    have i0 : decide (150 ≤ (n : Int)) = true := by rw [decide_eq_true_eq]; omega
    go_enter Tryz.func28, Tryz.ntmps28
    go_wp2_with fail
    refine (HN.out _).mono ?_
    rintro e w1 ⟨rfl, hr, hb⟩
    obtain ⟨X1, z1, B1⟩ := Blk.box hb
    obtain ⟨y0, y1, y2, y3, y4, y5, y6⟩ := X1.cells7
    have f0 := X1.froz 0
    have f1 := X1.froz 1
    have f2 := X1.froz 2
    have f3 := X1.froz 3
    have f4 := X1.froz 4
    have f5 := X1.froz 5
    have f6 := X1.froz 6
    have HX := Lib.hid X1
    have HB := Lib.hid B1
    clear X1 B1 hb hr
    go_wp2_with fail
    have X3 := HX.out.all7 (.int .u8 0) (.string ⟨#[]⟩) (.int .u8 0) (.int .i64 0) (.int .i64 0) (.bool false) (.bool false)
    have B3 := Below.all7 HB.out (g := w.heap.size) (Nat.le_refl _) (.int .u8 0) (.string ⟨#[]⟩) (.int .u8 0) (.int .i64 0) (.int .i64 0) (.bool false) (.bool false)
    clear y0 y1 y2 y3 y4 y5 y6
    generalize (((((((w1).setCell ⟨w.heap.size, 0, none⟩ (.int .u8 0)).setCell ⟨w.heap.size, 1, none⟩ (.string ⟨#[]⟩)).setCell ⟨w.heap.size, 2, none⟩ (.int .u8 0)).setCell ⟨w.heap.size, 3, none⟩ (.int .i64 0)).setCell ⟨w.heap.size, 4, none⟩ (.int .i64 0)).setCell ⟨w.heap.size, 5, none⟩ (.bool false)).setCell ⟨w.heap.size, 6, none⟩ (.bool false) = W at X3 B3 ⊢
    obtain ⟨d0, d1, d2, d3, d4, d5, d6⟩ := X3.cells7
    exact bodyPost_ret (v := .tuple #[.agg #[.int .u8 0, .string ⟨#[]⟩, .int .u8 0, .int .i64 0, .int .i64 0, .bool false, .bool false], .int .i64 6]) (by simp [results, Tryz.results28, go_sem, d0, d1, d2, d3, d4, d5, d6]) rfl ⟨rfl, B3⟩
  · rw [if_neg h150]
    by_cases hm : nms.getD n [] = [45]
    · rw [if_pos hm]
      have i0 : (0 : Int) ≤ (n : Int) := by omega
      have i1 : (n : Int) < 150 := by omega
      have i2 : decide (150 ≤ (n : Int)) = false := by rw [decide_eq_false_iff_not]; omega
      have HM := Lib.hid hm
      clear hm
      go_enter Tryz.func28, Tryz.ntmps28
      go_wp2_with fail
      refine (HN.out _).mono ?_
      rintro e w1 ⟨rfl, hr, hb⟩
      obtain ⟨X1, z1, B1⟩ := Blk.box hb
      obtain ⟨y0, y1, y2, y3, y4, y5, y6⟩ := X1.cells7
      have f0 := X1.froz 0
      have f1 := X1.froz 1
      have f2 := X1.froz 2
      have f3 := X1.froz 3
      have f4 := X1.froz 4
      have f5 := X1.froz 5
      have f6 := X1.froz 6
      have HX := Lib.hid X1
      have HB := Lib.hid B1
      have gs := hr.str n (by omega)
      rw [HM.out, Nat.zero_add] at gs
      have gs2 : w1.cell? ⟨w.heap.size + 1, n, none⟩ = some (.string ⟨#[45]⟩) := by simpa using gs
      clear X1 B1 hb hr gs
      go_wp2_with fail
      have X3 := HX.out.all7 (.int .u8 0) (.string ⟨#[]⟩) (.int .u8 0) (.int .i64 0) (.int .i64 0) (.bool false) (.bool false)
      have B3 := Below.all7 HB.out (g := w.heap.size) (Nat.le_refl _) (.int .u8 0) (.string ⟨#[]⟩) (.int .u8 0) (.int .i64 0) (.int .i64 0) (.bool false) (.bool false)
      clear y0 y1 y2 y3 y4 y5 y6
      generalize (((((((w1).setCell ⟨w.heap.size, 0, none⟩ (.int .u8 0)).setCell ⟨w.heap.size, 1, none⟩ (.string ⟨#[]⟩)).setCell ⟨w.heap.size, 2, none⟩ (.int .u8 0)).setCell ⟨w.heap.size, 3, none⟩ (.int .i64 0)).setCell ⟨w.heap.size, 4, none⟩ (.int .i64 0)).setCell ⟨w.heap.size, 5, none⟩ (.bool false)).setCell ⟨w.heap.size, 6, none⟩ (.bool false) = W at X3 B3 ⊢
      obtain ⟨d0, d1, d2, d3, d4, d5, d6⟩ := X3.cells7
      exact bodyPost_ret (v := .tuple #[.agg #[.int .u8 0, .string ⟨#[]⟩, .int .u8 0, .int .i64 0, .int .i64 0, .bool false, .bool false], .int .i64 6]) (by simp [results, Tryz.results28, go_sem, d0, d1, d2, d3, d4, d5, d6]) rfl ⟨rfl, B3⟩
    · rw [if_neg hm]
      have i0 : (0 : Int) ≤ (n : Int) := by omega
      have i1 : (n : Int) < 150 := by omega
      have i2 : decide (150 ≤ (n : Int)) = false := by rw [decide_eq_false_iff_not]; omega
      have hi := fun w => imm_any (n : Int) w
      have hw := fun w => wordsG_any (n : Int) w
      have b2 : (nms.getD n [] == [45]) = false := by simpa using hm
      have hgs : ∀ (w1 : World) (B g : Nat), RV strR w1 B (some ⟨g, 0, none⟩) 150 nms → w1.cell? ⟨g, 0 + n, none⟩ = some (.string ⟨(nms.getD n []).toArray⟩) := fun w1 B g h => h.str n (by omega)
      generalize nms.getD n [] = nm at b2 hgs ⊢
      generalize immD (n : Int) = im at hi ⊢
      generalize wordsD (n : Int) = wd at hw ⊢
      obtain ⟨tk, lv⟩ := wd
      have HI := Lib.hid hi
      have HW := Lib.hid hw
      clear hi hw hm
      go_enter Tryz.func28, Tryz.ntmps28
      go_wp2_with fail
      refine (HN.out _).mono ?_
      rintro e w1 ⟨rfl, hr, hb⟩
      obtain ⟨X1, z1, B1⟩ := Blk.box hb
      obtain ⟨y0, y1, y2, y3, y4, y5, y6⟩ := X1.cells7
      have f0 := X1.froz 0
      have f1 := X1.froz 1
      have f2 := X1.froz 2
      have f3 := X1.froz 3
      have f4 := X1.froz 4
      have f5 := X1.froz 5
      have f6 := X1.froz 6
      have HX := Lib.hid X1
      have HB := Lib.hid B1
      have gs := hgs _ _ _ hr
      rw [Nat.zero_add] at gs
      have gs2 : w1.cell? ⟨w.heap.size + 1, n, none⟩ = some (.string ⟨nm.toArray⟩) := by simpa using gs
      have zz : w.heap.size + 1 < w1.heap.size := World.block_lt_of_cell? w1 ⟨w.heap.size + 1, n, none⟩ gs2
      have hS : NmS w.heap.size n ⟨nm.toArray⟩ w w1 := ⟨gs2, HX.out, HB.out⟩
      clear X1 B1 hb hr gs y0 y1 y2 y3 y4 y5 y6 f0 f1 f2 f3 f4 f5 f6 hgs
      go_upto_region 5 with (fail)
      go_cut [6] from 22 to 29 (fun p wx => p = .pointer (some ⟨w1.heap.size, 0, none⟩) ∧ wx = (w1.alloc (.cells #[.int .u8 n, .string ⟨nm.toArray⟩, .int .u8 im, .int .i64 0, .int .i64 0, .bool false, .bool false] 46)).drew)
      case first =>
        go_region_held3 (fun W => W.cell? ⟨w.heap.size + 1, n, none⟩ = some (.string ⟨nm.toArray⟩) ∧ Blk W w.heap.size #[.int .u8 0, .string ⟨#[]⟩, .int .u8 0, .int .i64 0, .int .i64 0, .bool false, .bool false] 46 ∧ Below w.heap.size w W)
          (first
            | (with_reducible exact NmS.keep' hS (below_d _))
            | (with_reducible exact NmS.keep' hS (below_da _ _))
            | (with_reducible exact NmS.keep' hS (below_ad _ _)))
          (first
            | (go_at_call 46; refine (HI.out _).mono ?_; rintro e w' ⟨rfl, hj⟩; obtain rfl := hj.symm))
        all_goals (go_wp2_with fail; go_meet; exact ⟨rfl, rfl⟩)
      case rest =>
        obtain ⟨rfl, rfl⟩ := hcut
        obtain ⟨y0, y1, y2, y3, y4, y5, y6⟩ := HX.out.cells7
        have f0 := HX.out.froz 0
        have f1 := HX.out.froz 1
        have f2 := HX.out.froz 2
        have f3 := HX.out.froz 3
        have f4 := HX.out.froz 4
        have f5 := HX.out.froz 5
        have f6 := HX.out.froz 6
        clear hS gs2 i2 b2
        go_wp2_with fail
        refine (HW.out _).mono ?_
        rintro e w2 ⟨rfl, hw2⟩
        obtain rfl := hw2.symm
        go_upto_region 7 with (fail)
        clear i0 i1 zz f0 f1 f2 f3 f4 f5 f6 y0 y1 y2 y3 y4 y5 y6
        rcases classes n with c1 | c1 | c1 | c1 | c1 | c1 | c1 | c1 | ⟨c1, c2, c3⟩ | c1 | ⟨c1, c2, c3, c4, c5, c6, c7, c8⟩
        · have j1 : decide (96 ≤ (n : Int)) = true := by rw [decide_eq_true_eq]; omega
          have j2 : decide ((n : Int) ≤ 113) = true := by rw [decide_eq_true_eq]; omega
          have e112 : ((n : Int) == 112) = true := by rw [beq_iff_eq]; omega
          have e114 : ((n : Int) == 114) = false := by rw [beq_eq_false_iff_ne]; omega
          have e115 : ((n : Int) == 115) = false := by rw [beq_eq_false_iff_ne]; omega
          have e117 : ((n : Int) == 117) = false := by rw [beq_eq_false_iff_ne]; omega
          have e119 : ((n : Int) == 119) = false := by rw [beq_eq_false_iff_ne]; omega
          have e120 : ((n : Int) == 120) = false := by rw [beq_eq_false_iff_ne]; omega
          have e122 : ((n : Int) == 122) = false := by rw [beq_eq_false_iff_ne]; omega
          have e147 : ((n : Int) == 147) = false := by rw [beq_eq_false_iff_ne]; omega
          have hj : jmpD (n : Int) = true := by unfold jmpD; rw [decide_eq_true_eq]; omega
          have he : endD (n : Int) = true := by unfold endD; rw [decide_eq_true_eq]; omega
          have HJ := Lib.hid hj
          have HE := Lib.hid he
          clear hj he c1
          go_upto_region 9 with (fail)
          clear j1 j2 e112 e114 e115 e117 e119 e120 e122 e147
          have XB : Blk (w1.alloc (.cells #[.int .u8 n, .string ⟨nm.toArray⟩, .int .u8 im, .int .i64 tk, .int .i64 lv, .bool true, .bool true] 46)).drew w1.heap.size #[.int .u8 n, .string ⟨nm.toArray⟩, .int .u8 im, .int .i64 tk, .int .i64 lv, .bool true, .bool true] 46 := Blk.drew (Blk.new w1 _ _)
          have XR := Blk.drew (HX.out.alloc (.cells #[.int .u8 n, .string ⟨nm.toArray⟩, .int .u8 im, .int .i64 tk, .int .i64 lv, .bool true, .bool true] 46))
          have BB := (HB.out.alloc HB.out.size (.cells #[.int .u8 n, .string ⟨nm.toArray⟩, .int .u8 im, .int .i64 tk, .int .i64 lv, .bool true, .bool true] 46)).drew
          generalize (w1.alloc (.cells #[.int .u8 n, .string ⟨nm.toArray⟩, .int .u8 im, .int .i64 tk, .int .i64 lv, .bool true, .bool true] 46)).drew = W at XB XR BB ⊢
          obtain ⟨b0, b1, b2, b3, b4, b5, b6⟩ := XB.cells7
          obtain ⟨y0, y1, y2, y3, y4, y5, y6⟩ := XR.cells7
          have f0 := XR.froz 0
          have f1 := XR.froz 1
          have f2 := XR.froz 2
          have f3 := XR.froz 3
          have f4 := XR.froz 4
          have f5 := XR.froz 5
          have f6 := XR.froz 6
          have HXR := Lib.hid XR
          have HBB := Lib.hid BB
          clear XB XR BB
          go_wp2_with fail
          refine refof_end w _ _ _ _ _ _ _ _ _ rfl rfl rfl (Blk.all7 HXR.out _ _ _ _ _ _ _) (Below.all7 HBB.out (Nat.le_refl _) _ _ _ _ _ _ _) _ ?_
          unfold Inf.val
          rw [HJ.out, HE.out]
        · have j1 : decide (96 ≤ (n : Int)) = true := by rw [decide_eq_true_eq]; omega
          have j2 : decide ((n : Int) ≤ 113) = false := by rw [decide_eq_false_iff_not]; omega
          have e112 : ((n : Int) == 112) = false := by rw [beq_eq_false_iff_ne]; omega
          have e114 : ((n : Int) == 114) = true := by rw [beq_iff_eq]; omega
          have e115 : ((n : Int) == 115) = false := by rw [beq_eq_false_iff_ne]; omega
          have e117 : ((n : Int) == 117) = false := by rw [beq_eq_false_iff_ne]; omega
          have e119 : ((n : Int) == 119) = false := by rw [beq_eq_false_iff_ne]; omega
          have e120 : ((n : Int) == 120) = false := by rw [beq_eq_false_iff_ne]; omega
          have e122 : ((n : Int) == 122) = false := by rw [beq_eq_false_iff_ne]; omega
          have e147 : ((n : Int) == 147) = false := by rw [beq_eq_false_iff_ne]; omega
          have hj : jmpD (n : Int) = false := by unfold jmpD; rw [decide_eq_false_iff_not]; omega
          have he : endD (n : Int) = true := by unfold endD; rw [decide_eq_true_eq]; omega
          have HJ := Lib.hid hj
          have HE := Lib.hid he
          clear hj he c1
          go_upto_region 9 with (fail)
          clear j1 j2 e112 e114 e115 e117 e119 e120 e122 e147
          have XB : Blk (w1.alloc (.cells #[.int .u8 n, .string ⟨nm.toArray⟩, .int .u8 im, .int .i64 tk, .int .i64 lv, .bool false, .bool true] 46)).drew w1.heap.size #[.int .u8 n, .string ⟨nm.toArray⟩, .int .u8 im, .int .i64 tk, .int .i64 lv, .bool false, .bool true] 46 := Blk.drew (Blk.new w1 _ _)
          have XR := Blk.drew (HX.out.alloc (.cells #[.int .u8 n, .string ⟨nm.toArray⟩, .int .u8 im, .int .i64 tk, .int .i64 lv, .bool false, .bool true] 46))
          have BB := (HB.out.alloc HB.out.size (.cells #[.int .u8 n, .string ⟨nm.toArray⟩, .int .u8 im, .int .i64 tk, .int .i64 lv, .bool false, .bool true] 46)).drew
          generalize (w1.alloc (.cells #[.int .u8 n, .string ⟨nm.toArray⟩, .int .u8 im, .int .i64 tk, .int .i64 lv, .bool false, .bool true] 46)).drew = W at XB XR BB ⊢
          obtain ⟨b0, b1, b2, b3, b4, b5, b6⟩ := XB.cells7
          obtain ⟨y0, y1, y2, y3, y4, y5, y6⟩ := XR.cells7
          have f0 := XR.froz 0
          have f1 := XR.froz 1
          have f2 := XR.froz 2
          have f3 := XR.froz 3
          have f4 := XR.froz 4
          have f5 := XR.froz 5
          have f6 := XR.froz 6
          have HXR := Lib.hid XR
          have HBB := Lib.hid BB
          clear XB XR BB
          go_wp2_with fail
          refine refof_end w _ _ _ _ _ _ _ _ _ rfl rfl rfl (Blk.all7 HXR.out _ _ _ _ _ _ _) (Below.all7 HBB.out (Nat.le_refl _) _ _ _ _ _ _ _) _ ?_
          unfold Inf.val
          rw [HJ.out, HE.out]
        · have j1 : decide (96 ≤ (n : Int)) = true := by rw [decide_eq_true_eq]; omega
          have j2 : decide ((n : Int) ≤ 113) = false := by rw [decide_eq_false_iff_not]; omega
          have e112 : ((n : Int) == 112) = false := by rw [beq_eq_false_iff_ne]; omega
          have e114 : ((n : Int) == 114) = false := by rw [beq_eq_false_iff_ne]; omega
          have e115 : ((n : Int) == 115) = true := by rw [beq_iff_eq]; omega
          have e117 : ((n : Int) == 117) = false := by rw [beq_eq_false_iff_ne]; omega
          have e119 : ((n : Int) == 119) = false := by rw [beq_eq_false_iff_ne]; omega
          have e120 : ((n : Int) == 120) = false := by rw [beq_eq_false_iff_ne]; omega
          have e122 : ((n : Int) == 122) = false := by rw [beq_eq_false_iff_ne]; omega
          have e147 : ((n : Int) == 147) = false := by rw [beq_eq_false_iff_ne]; omega
          have hj : jmpD (n : Int) = true := by unfold jmpD; rw [decide_eq_true_eq]; omega
          have he : endD (n : Int) = true := by unfold endD; rw [decide_eq_true_eq]; omega
          have HJ := Lib.hid hj
          have HE := Lib.hid he
          clear hj he c1
          go_upto_region 9 with (fail)
          clear j1 j2 e112 e114 e115 e117 e119 e120 e122 e147
          have XB : Blk (w1.alloc (.cells #[.int .u8 n, .string ⟨nm.toArray⟩, .int .u8 im, .int .i64 tk, .int .i64 lv, .bool true, .bool true] 46)).drew w1.heap.size #[.int .u8 n, .string ⟨nm.toArray⟩, .int .u8 im, .int .i64 tk, .int .i64 lv, .bool true, .bool true] 46 := Blk.drew (Blk.new w1 _ _)
          have XR := Blk.drew (HX.out.alloc (.cells #[.int .u8 n, .string ⟨nm.toArray⟩, .int .u8 im, .int .i64 tk, .int .i64 lv, .bool true, .bool true] 46))
          have BB := (HB.out.alloc HB.out.size (.cells #[.int .u8 n, .string ⟨nm.toArray⟩, .int .u8 im, .int .i64 tk, .int .i64 lv, .bool true, .bool true] 46)).drew
          generalize (w1.alloc (.cells #[.int .u8 n, .string ⟨nm.toArray⟩, .int .u8 im, .int .i64 tk, .int .i64 lv, .bool true, .bool true] 46)).drew = W at XB XR BB ⊢
          obtain ⟨b0, b1, b2, b3, b4, b5, b6⟩ := XB.cells7
          obtain ⟨y0, y1, y2, y3, y4, y5, y6⟩ := XR.cells7
          have f0 := XR.froz 0
          have f1 := XR.froz 1
          have f2 := XR.froz 2
          have f3 := XR.froz 3
          have f4 := XR.froz 4
          have f5 := XR.froz 5
          have f6 := XR.froz 6
          have HXR := Lib.hid XR
          have HBB := Lib.hid BB
          clear XB XR BB
          go_wp2_with fail
          refine refof_end w _ _ _ _ _ _ _ _ _ rfl rfl rfl (Blk.all7 HXR.out _ _ _ _ _ _ _) (Below.all7 HBB.out (Nat.le_refl _) _ _ _ _ _ _ _) _ ?_
          unfold Inf.val
          rw [HJ.out, HE.out]
        · have j1 : decide (96 ≤ (n : Int)) = true := by rw [decide_eq_true_eq]; omega
          have j2 : decide ((n : Int) ≤ 113) = false := by rw [decide_eq_false_iff_not]; omega
          have e112 : ((n : Int) == 112) = false := by rw [beq_eq_false_iff_ne]; omega
          have e114 : ((n : Int) == 114) = false := by rw [beq_eq_false_iff_ne]; omega
          have e115 : ((n : Int) == 115) = false := by rw [beq_eq_false_iff_ne]; omega
          have e117 : ((n : Int) == 117) = true := by rw [beq_iff_eq]; omega
          have e119 : ((n : Int) == 119) = false := by rw [beq_eq_false_iff_ne]; omega
          have e120 : ((n : Int) == 120) = false := by rw [beq_eq_false_iff_ne]; omega
          have e122 : ((n : Int) == 122) = false := by rw [beq_eq_false_iff_ne]; omega
          have e147 : ((n : Int) == 147) = false := by rw [beq_eq_false_iff_ne]; omega
          have hj : jmpD (n : Int) = true := by unfold jmpD; rw [decide_eq_true_eq]; omega
          have he : endD (n : Int) = true := by unfold endD; rw [decide_eq_true_eq]; omega
          have HJ := Lib.hid hj
          have HE := Lib.hid he
          clear hj he c1
          go_upto_region 9 with (fail)
          clear j1 j2 e112 e114 e115 e117 e119 e120 e122 e147
          have XB : Blk (w1.alloc (.cells #[.int .u8 n, .string ⟨nm.toArray⟩, .int .u8 im, .int .i64 tk, .int .i64 lv, .bool true, .bool true] 46)).drew w1.heap.size #[.int .u8 n, .string ⟨nm.toArray⟩, .int .u8 im, .int .i64 tk, .int .i64 lv, .bool true, .bool true] 46 := Blk.drew (Blk.new w1 _ _)
          have XR := Blk.drew (HX.out.alloc (.cells #[.int .u8 n, .string ⟨nm.toArray⟩, .int .u8 im, .int .i64 tk, .int .i64 lv, .bool true, .bool true] 46))
          have BB := (HB.out.alloc HB.out.size (.cells #[.int .u8 n, .string ⟨nm.toArray⟩, .int .u8 im, .int .i64 tk, .int .i64 lv, .bool true, .bool true] 46)).drew
          generalize (w1.alloc (.cells #[.int .u8 n, .string ⟨nm.toArray⟩, .int .u8 im, .int .i64 tk, .int .i64 lv, .bool true, .bool true] 46)).drew = W at XB XR BB ⊢
          obtain ⟨b0, b1, b2, b3, b4, b5, b6⟩ := XB.cells7
          obtain ⟨y0, y1, y2, y3, y4, y5, y6⟩ := XR.cells7
          have f0 := XR.froz 0
          have f1 := XR.froz 1
          have f2 := XR.froz 2
          have f3 := XR.froz 3
          have f4 := XR.froz 4
          have f5 := XR.froz 5
          have f6 := XR.froz 6
          have HXR := Lib.hid XR
          have HBB := Lib.hid BB
          clear XB XR BB
          go_wp2_with fail
          refine refof_end w _ _ _ _ _ _ _ _ _ rfl rfl rfl (Blk.all7 HXR.out _ _ _ _ _ _ _) (Below.all7 HBB.out (Nat.le_refl _) _ _ _ _ _ _ _) _ ?_
          unfold Inf.val
          rw [HJ.out, HE.out]
        · have j1 : decide (96 ≤ (n : Int)) = true := by rw [decide_eq_true_eq]; omega
          have j2 : decide ((n : Int) ≤ 113) = false := by rw [decide_eq_false_iff_not]; omega
          have e112 : ((n : Int) == 112) = false := by rw [beq_eq_false_iff_ne]; omega
          have e114 : ((n : Int) == 114) = false := by rw [beq_eq_false_iff_ne]; omega
          have e115 : ((n : Int) == 115) = false := by rw [beq_eq_false_iff_ne]; omega
          have e117 : ((n : Int) == 117) = false := by rw [beq_eq_false_iff_ne]; omega
          have e119 : ((n : Int) == 119) = true := by rw [beq_iff_eq]; omega
          have e120 : ((n : Int) == 120) = false := by rw [beq_eq_false_iff_ne]; omega
          have e122 : ((n : Int) == 122) = false := by rw [beq_eq_false_iff_ne]; omega
          have e147 : ((n : Int) == 147) = false := by rw [beq_eq_false_iff_ne]; omega
          have hj : jmpD (n : Int) = false := by unfold jmpD; rw [decide_eq_false_iff_not]; omega
          have he : endD (n : Int) = true := by unfold endD; rw [decide_eq_true_eq]; omega
          have HJ := Lib.hid hj
          have HE := Lib.hid he
          clear hj he c1
          go_upto_region 9 with (fail)
          clear j1 j2 e112 e114 e115 e117 e119 e120 e122 e147
          have XB : Blk (w1.alloc (.cells #[.int .u8 n, .string ⟨nm.toArray⟩, .int .u8 im, .int .i64 tk, .int .i64 lv, .bool false, .bool true] 46)).drew w1.heap.size #[.int .u8 n, .string ⟨nm.toArray⟩, .int .u8 im, .int .i64 tk, .int .i64 lv, .bool false, .bool true] 46 := Blk.drew (Blk.new w1 _ _)
          have XR := Blk.drew (HX.out.alloc (.cells #[.int .u8 n, .string ⟨nm.toArray⟩, .int .u8 im, .int .i64 tk, .int .i64 lv, .bool false, .bool true] 46))
          have BB := (HB.out.alloc HB.out.size (.cells #[.int .u8 n, .string ⟨nm.toArray⟩, .int .u8 im, .int .i64 tk, .int .i64 lv, .bool false, .bool true] 46)).drew
          generalize (w1.alloc (.cells #[.int .u8 n, .string ⟨nm.toArray⟩, .int .u8 im, .int .i64 tk, .int .i64 lv, .bool false, .bool true] 46)).drew = W at XB XR BB ⊢
          obtain ⟨b0, b1, b2, b3, b4, b5, b6⟩ := XB.cells7
          obtain ⟨y0, y1, y2, y3, y4, y5, y6⟩ := XR.cells7
          have f0 := XR.froz 0
          have f1 := XR.froz 1
          have f2 := XR.froz 2
          have f3 := XR.froz 3
          have f4 := XR.froz 4
          have f5 := XR.froz 5
          have f6 := XR.froz 6
          have HXR := Lib.hid XR
          have HBB := Lib.hid BB
          clear XB XR BB
          go_wp2_with fail
          refine refof_end w _ _ _ _ _ _ _ _ _ rfl rfl rfl (Blk.all7 HXR.out _ _ _ _ _ _ _) (Below.all7 HBB.out (Nat.le_refl _) _ _ _ _ _ _ _) _ ?_
          unfold Inf.val
          rw [HJ.out, HE.out]
        · have j1 : decide (96 ≤ (n : Int)) = true := by rw [decide_eq_true_eq]; omega
          have j2 : decide ((n : Int) ≤ 113) = false := by rw [decide_eq_false_iff_not]; omega
          have e112 : ((n : Int) == 112) = false := by rw [beq_eq_false_iff_ne]; omega
          have e114 : ((n : Int) == 114) = false := by rw [beq_eq_false_iff_ne]; omega
          have e115 : ((n : Int) == 115) = false := by rw [beq_eq_false_iff_ne]; omega
          have e117 : ((n : Int) == 117) = false := by rw [beq_eq_false_iff_ne]; omega
          have e119 : ((n : Int) == 119) = false := by rw [beq_eq_false_iff_ne]; omega
          have e120 : ((n : Int) == 120) = true := by rw [beq_iff_eq]; omega
          have e122 : ((n : Int) == 122) = false := by rw [beq_eq_false_iff_ne]; omega
          have e147 : ((n : Int) == 147) = false := by rw [beq_eq_false_iff_ne]; omega
          have hj : jmpD (n : Int) = false := by unfold jmpD; rw [decide_eq_false_iff_not]; omega
          have he : endD (n : Int) = true := by unfold endD; rw [decide_eq_true_eq]; omega
          have HJ := Lib.hid hj
          have HE := Lib.hid he
          clear hj he c1
          go_upto_region 9 with (fail)
          clear j1 j2 e112 e114 e115 e117 e119 e120 e122 e147
          have XB : Blk (w1.alloc (.cells #[.int .u8 n, .string ⟨nm.toArray⟩, .int .u8 im, .int .i64 tk, .int .i64 lv, .bool false, .bool true] 46)).drew w1.heap.size #[.int .u8 n, .string ⟨nm.toArray⟩, .int .u8 im, .int .i64 tk, .int .i64 lv, .bool false, .bool true] 46 := Blk.drew (Blk.new w1 _ _)
          have XR := Blk.drew (HX.out.alloc (.cells #[.int .u8 n, .string ⟨nm.toArray⟩, .int .u8 im, .int .i64 tk, .int .i64 lv, .bool false, .bool true] 46))
          have BB := (HB.out.alloc HB.out.size (.cells #[.int .u8 n, .string ⟨nm.toArray⟩, .int .u8 im, .int .i64 tk, .int .i64 lv, .bool false, .bool true] 46)).drew
          generalize (w1.alloc (.cells #[.int .u8 n, .string ⟨nm.toArray⟩, .int .u8 im, .int .i64 tk, .int .i64 lv, .bool false, .bool true] 46)).drew = W at XB XR BB ⊢
          obtain ⟨b0, b1, b2, b3, b4, b5, b6⟩ := XB.cells7
          obtain ⟨y0, y1, y2, y3, y4, y5, y6⟩ := XR.cells7
          have f0 := XR.froz 0
          have f1 := XR.froz 1
          have f2 := XR.froz 2
          have f3 := XR.froz 3
          have f4 := XR.froz 4
          have f5 := XR.froz 5
          have f6 := XR.froz 6
          have HXR := Lib.hid XR
          have HBB := Lib.hid BB
          clear XB XR BB
          go_wp2_with fail
          refine refof_end w _ _ _ _ _ _ _ _ _ rfl rfl rfl (Blk.all7 HXR.out _ _ _ _ _ _ _) (Below.all7 HBB.out (Nat.le_refl _) _ _ _ _ _ _ _) _ ?_
          unfold Inf.val
          rw [HJ.out, HE.out]
        · have j1 : decide (96 ≤ (n : Int)) = true := by rw [decide_eq_true_eq]; omega
          have j2 : decide ((n : Int) ≤ 113) = false := by rw [decide_eq_false_iff_not]; omega
          have e112 : ((n : Int) == 112) = false := by rw [beq_eq_false_iff_ne]; omega
          have e114 : ((n : Int) == 114) = false := by rw [beq_eq_false_iff_ne]; omega
          have e115 : ((n : Int) == 115) = false := by rw [beq_eq_false_iff_ne]; omega
          have e117 : ((n : Int) == 117) = false := by rw [beq_eq_false_iff_ne]; omega
          have e119 : ((n : Int) == 119) = false := by rw [beq_eq_false_iff_ne]; omega
          have e120 : ((n : Int) == 120) = false := by rw [beq_eq_false_iff_ne]; omega
          have e122 : ((n : Int) == 122) = true := by rw [beq_iff_eq]; omega
          have e147 : ((n : Int) == 147) = false := by rw [beq_eq_false_iff_ne]; omega
          have hj : jmpD (n : Int) = false := by unfold jmpD; rw [decide_eq_false_iff_not]; omega
          have he : endD (n : Int) = true := by unfold endD; rw [decide_eq_true_eq]; omega
          have HJ := Lib.hid hj
          have HE := Lib.hid he
          clear hj he c1
          go_upto_region 9 with (fail)
          clear j1 j2 e112 e114 e115 e117 e119 e120 e122 e147
          have XB : Blk (w1.alloc (.cells #[.int .u8 n, .string ⟨nm.toArray⟩, .int .u8 im, .int .i64 tk, .int .i64 lv, .bool false, .bool true] 46)).drew w1.heap.size #[.int .u8 n, .string ⟨nm.toArray⟩, .int .u8 im, .int .i64 tk, .int .i64 lv, .bool false, .bool true] 46 := Blk.drew (Blk.new w1 _ _)
          have XR := Blk.drew (HX.out.alloc (.cells #[.int .u8 n, .string ⟨nm.toArray⟩, .int .u8 im, .int .i64 tk, .int .i64 lv, .bool false, .bool true] 46))
          have BB := (HB.out.alloc HB.out.size (.cells #[.int .u8 n, .string ⟨nm.toArray⟩, .int .u8 im, .int .i64 tk, .int .i64 lv, .bool false, .bool true] 46)).drew
          generalize (w1.alloc (.cells #[.int .u8 n, .string ⟨nm.toArray⟩, .int .u8 im, .int .i64 tk, .int .i64 lv, .bool false, .bool true] 46)).drew = W at XB XR BB ⊢
          obtain ⟨b0, b1, b2, b3, b4, b5, b6⟩ := XB.cells7
          obtain ⟨y0, y1, y2, y3, y4, y5, y6⟩ := XR.cells7
          have f0 := XR.froz 0
          have f1 := XR.froz 1
          have f2 := XR.froz 2
          have f3 := XR.froz 3
          have f4 := XR.froz 4
          have f5 := XR.froz 5
          have f6 := XR.froz 6
          have HXR := Lib.hid XR
          have HBB := Lib.hid BB
          clear XB XR BB
          go_wp2_with fail
          refine refof_end w _ _ _ _ _ _ _ _ _ rfl rfl rfl (Blk.all7 HXR.out _ _ _ _ _ _ _) (Below.all7 HBB.out (Nat.le_refl _) _ _ _ _ _ _ _) _ ?_
          unfold Inf.val
          rw [HJ.out, HE.out]
        · have j1 : decide (96 ≤ (n : Int)) = true := by rw [decide_eq_true_eq]; omega
          have j2 : decide ((n : Int) ≤ 113) = false := by rw [decide_eq_false_iff_not]; omega
          have e112 : ((n : Int) == 112) = false := by rw [beq_eq_false_iff_ne]; omega
          have e114 : ((n : Int) == 114) = false := by rw [beq_eq_false_iff_ne]; omega
          have e115 : ((n : Int) == 115) = false := by rw [beq_eq_false_iff_ne]; omega
          have e117 : ((n : Int) == 117) = false := by rw [beq_eq_false_iff_ne]; omega
          have e119 : ((n : Int) == 119) = false := by rw [beq_eq_false_iff_ne]; omega
          have e120 : ((n : Int) == 120) = false := by rw [beq_eq_false_iff_ne]; omega
          have e122 : ((n : Int) == 122) = false := by rw [beq_eq_false_iff_ne]; omega
          have e147 : ((n : Int) == 147) = true := by rw [beq_iff_eq]; omega
          have hj : jmpD (n : Int) = false := by unfold jmpD; rw [decide_eq_false_iff_not]; omega
          have he : endD (n : Int) = true := by unfold endD; rw [decide_eq_true_eq]; omega
          have HJ := Lib.hid hj
          have HE := Lib.hid he
          clear hj he c1
          go_upto_region 9 with (fail)
          clear j1 j2 e112 e114 e115 e117 e119 e120 e122 e147
          have XB : Blk (w1.alloc (.cells #[.int .u8 n, .string ⟨nm.toArray⟩, .int .u8 im, .int .i64 tk, .int .i64 lv, .bool false, .bool true] 46)).drew w1.heap.size #[.int .u8 n, .string ⟨nm.toArray⟩, .int .u8 im, .int .i64 tk, .int .i64 lv, .bool false, .bool true] 46 := Blk.drew (Blk.new w1 _ _)
          have XR := Blk.drew (HX.out.alloc (.cells #[.int .u8 n, .string ⟨nm.toArray⟩, .int .u8 im, .int .i64 tk, .int .i64 lv, .bool false, .bool true] 46))
          have BB := (HB.out.alloc HB.out.size (.cells #[.int .u8 n, .string ⟨nm.toArray⟩, .int .u8 im, .int .i64 tk, .int .i64 lv, .bool false, .bool true] 46)).drew
          generalize (w1.alloc (.cells #[.int .u8 n, .string ⟨nm.toArray⟩, .int .u8 im, .int .i64 tk, .int .i64 lv, .bool false, .bool true] 46)).drew = W at XB XR BB ⊢
          obtain ⟨b0, b1, b2, b3, b4, b5, b6⟩ := XB.cells7
          obtain ⟨y0, y1, y2, y3, y4, y5, y6⟩ := XR.cells7
          have f0 := XR.froz 0
          have f1 := XR.froz 1
          have f2 := XR.froz 2
          have f3 := XR.froz 3
          have f4 := XR.froz 4
          have f5 := XR.froz 5
          have f6 := XR.froz 6
          have HXR := Lib.hid XR
          have HBB := Lib.hid BB
          clear XB XR BB
          go_wp2_with fail
          refine refof_end w _ _ _ _ _ _ _ _ _ rfl rfl rfl (Blk.all7 HXR.out _ _ _ _ _ _ _) (Below.all7 HBB.out (Nat.le_refl _) _ _ _ _ _ _ _) _ ?_
          unfold Inf.val
          rw [HJ.out, HE.out]
        · have j1 : decide (96 ≤ (n : Int)) = true := by rw [decide_eq_true_eq]; omega
          have j2 : decide ((n : Int) ≤ 113) = true := by rw [decide_eq_true_eq]; omega
          have e112 : ((n : Int) == 112) = false := by rw [beq_eq_false_iff_ne]; omega
          have e114 : ((n : Int) == 114) = false := by rw [beq_eq_false_iff_ne]; omega
          have e115 : ((n : Int) == 115) = false := by rw [beq_eq_false_iff_ne]; omega
          have e117 : ((n : Int) == 117) = false := by rw [beq_eq_false_iff_ne]; omega
          have e119 : ((n : Int) == 119) = false := by rw [beq_eq_false_iff_ne]; omega
          have e120 : ((n : Int) == 120) = false := by rw [beq_eq_false_iff_ne]; omega
          have e122 : ((n : Int) == 122) = false := by rw [beq_eq_false_iff_ne]; omega
          have e147 : ((n : Int) == 147) = false := by rw [beq_eq_false_iff_ne]; omega
          have hj : jmpD (n : Int) = true := by unfold jmpD; rw [decide_eq_true_eq]; omega
          have he : endD (n : Int) = false := by unfold endD; rw [decide_eq_false_iff_not]; omega
          have HJ := Lib.hid hj
          have HE := Lib.hid he
          clear hj he c1 c2 c3
          go_upto_region 9 with (fail)
          clear j1 j2 e112 e114 e115 e117 e119 e120 e122 e147
          have XB : Blk (w1.alloc (.cells #[.int .u8 n, .string ⟨nm.toArray⟩, .int .u8 im, .int .i64 tk, .int .i64 lv, .bool true, .bool false] 46)).drew w1.heap.size #[.int .u8 n, .string ⟨nm.toArray⟩, .int .u8 im, .int .i64 tk, .int .i64 lv, .bool true, .bool false] 46 := Blk.drew (Blk.new w1 _ _)
          have XR := Blk.drew (HX.out.alloc (.cells #[.int .u8 n, .string ⟨nm.toArray⟩, .int .u8 im, .int .i64 tk, .int .i64 lv, .bool true, .bool false] 46))
          have BB := (HB.out.alloc HB.out.size (.cells #[.int .u8 n, .string ⟨nm.toArray⟩, .int .u8 im, .int .i64 tk, .int .i64 lv, .bool true, .bool false] 46)).drew
          generalize (w1.alloc (.cells #[.int .u8 n, .string ⟨nm.toArray⟩, .int .u8 im, .int .i64 tk, .int .i64 lv, .bool true, .bool false] 46)).drew = W at XB XR BB ⊢
          obtain ⟨b0, b1, b2, b3, b4, b5, b6⟩ := XB.cells7
          obtain ⟨y0, y1, y2, y3, y4, y5, y6⟩ := XR.cells7
          have f0 := XR.froz 0
          have f1 := XR.froz 1
          have f2 := XR.froz 2
          have f3 := XR.froz 3
          have f4 := XR.froz 4
          have f5 := XR.froz 5
          have f6 := XR.froz 6
          have HXR := Lib.hid XR
          have HBB := Lib.hid BB
          clear XB XR BB
          go_wp2_with fail
          refine refof_end w _ _ _ _ _ _ _ _ _ rfl rfl rfl (Blk.all7 HXR.out _ _ _ _ _ _ _) (Below.all7 HBB.out (Nat.le_refl _) _ _ _ _ _ _ _) _ ?_
          unfold Inf.val
          rw [HJ.out, HE.out]
        · have j1 : decide (96 ≤ (n : Int)) = false := by rw [decide_eq_false_iff_not]; omega
          have j2 : decide ((n : Int) ≤ 113) = true := by rw [decide_eq_true_eq]; omega
          have e112 : ((n : Int) == 112) = false := by rw [beq_eq_false_iff_ne]; omega
          have e114 : ((n : Int) == 114) = false := by rw [beq_eq_false_iff_ne]; omega
          have e115 : ((n : Int) == 115) = false := by rw [beq_eq_false_iff_ne]; omega
          have e117 : ((n : Int) == 117) = false := by rw [beq_eq_false_iff_ne]; omega
          have e119 : ((n : Int) == 119) = false := by rw [beq_eq_false_iff_ne]; omega
          have e120 : ((n : Int) == 120) = false := by rw [beq_eq_false_iff_ne]; omega
          have e122 : ((n : Int) == 122) = false := by rw [beq_eq_false_iff_ne]; omega
          have e147 : ((n : Int) == 147) = false := by rw [beq_eq_false_iff_ne]; omega
          have hj : jmpD (n : Int) = false := by unfold jmpD; rw [decide_eq_false_iff_not]; omega
          have he : endD (n : Int) = false := by unfold endD; rw [decide_eq_false_iff_not]; omega
          have HJ := Lib.hid hj
          have HE := Lib.hid he
          clear hj he c1
          go_upto_region 9 with (fail)
          clear j1 j2 e112 e114 e115 e117 e119 e120 e122 e147
          have XB : Blk (w1.alloc (.cells #[.int .u8 n, .string ⟨nm.toArray⟩, .int .u8 im, .int .i64 tk, .int .i64 lv, .bool false, .bool false] 46)).drew w1.heap.size #[.int .u8 n, .string ⟨nm.toArray⟩, .int .u8 im, .int .i64 tk, .int .i64 lv, .bool false, .bool false] 46 := Blk.drew (Blk.new w1 _ _)
          have XR := Blk.drew (HX.out.alloc (.cells #[.int .u8 n, .string ⟨nm.toArray⟩, .int .u8 im, .int .i64 tk, .int .i64 lv, .bool false, .bool false] 46))
          have BB := (HB.out.alloc HB.out.size (.cells #[.int .u8 n, .string ⟨nm.toArray⟩, .int .u8 im, .int .i64 tk, .int .i64 lv, .bool false, .bool false] 46)).drew
          generalize (w1.alloc (.cells #[.int .u8 n, .string ⟨nm.toArray⟩, .int .u8 im, .int .i64 tk, .int .i64 lv, .bool false, .bool false] 46)).drew = W at XB XR BB ⊢
          obtain ⟨b0, b1, b2, b3, b4, b5, b6⟩ := XB.cells7
          obtain ⟨y0, y1, y2, y3, y4, y5, y6⟩ := XR.cells7
          have f0 := XR.froz 0
          have f1 := XR.froz 1
          have f2 := XR.froz 2
          have f3 := XR.froz 3
          have f4 := XR.froz 4
          have f5 := XR.froz 5
          have f6 := XR.froz 6
          have HXR := Lib.hid XR
          have HBB := Lib.hid BB
          clear XB XR BB
          go_wp2_with fail
          refine refof_end w _ _ _ _ _ _ _ _ _ rfl rfl rfl (Blk.all7 HXR.out _ _ _ _ _ _ _) (Below.all7 HBB.out (Nat.le_refl _) _ _ _ _ _ _ _) _ ?_
          unfold Inf.val
          rw [HJ.out, HE.out]
        · have j1 : decide (96 ≤ (n : Int)) = true := by rw [decide_eq_true_eq]; omega
          have j2 : decide ((n : Int) ≤ 113) = false := by rw [decide_eq_false_iff_not]; omega
          have e112 : ((n : Int) == 112) = false := by rw [beq_eq_false_iff_ne]; omega
          have e114 : ((n : Int) == 114) = false := by rw [beq_eq_false_iff_ne]; omega
          have e115 : ((n : Int) == 115) = false := by rw [beq_eq_false_iff_ne]; omega
          have e117 : ((n : Int) == 117) = false := by rw [beq_eq_false_iff_ne]; omega
          have e119 : ((n : Int) == 119) = false := by rw [beq_eq_false_iff_ne]; omega
          have e120 : ((n : Int) == 120) = false := by rw [beq_eq_false_iff_ne]; omega
          have e122 : ((n : Int) == 122) = false := by rw [beq_eq_false_iff_ne]; omega
          have e147 : ((n : Int) == 147) = false := by rw [beq_eq_false_iff_ne]; omega
          have hj : jmpD (n : Int) = false := by unfold jmpD; rw [decide_eq_false_iff_not]; omega
          have he : endD (n : Int) = false := by unfold endD; rw [decide_eq_false_iff_not]; omega
          have HJ := Lib.hid hj
          have HE := Lib.hid he
          clear hj he c1 c2 c3 c4 c5 c6 c7 c8
          go_upto_region 9 with (fail)
          clear j1 j2 e112 e114 e115 e117 e119 e120 e122 e147
          have XB : Blk (w1.alloc (.cells #[.int .u8 n, .string ⟨nm.toArray⟩, .int .u8 im, .int .i64 tk, .int .i64 lv, .bool false, .bool false] 46)).drew w1.heap.size #[.int .u8 n, .string ⟨nm.toArray⟩, .int .u8 im, .int .i64 tk, .int .i64 lv, .bool false, .bool false] 46 := Blk.drew (Blk.new w1 _ _)
          have XR := Blk.drew (HX.out.alloc (.cells #[.int .u8 n, .string ⟨nm.toArray⟩, .int .u8 im, .int .i64 tk, .int .i64 lv, .bool false, .bool false] 46))
          have BB := (HB.out.alloc HB.out.size (.cells #[.int .u8 n, .string ⟨nm.toArray⟩, .int .u8 im, .int .i64 tk, .int .i64 lv, .bool false, .bool false] 46)).drew
          generalize (w1.alloc (.cells #[.int .u8 n, .string ⟨nm.toArray⟩, .int .u8 im, .int .i64 tk, .int .i64 lv, .bool false, .bool false] 46)).drew = W at XB XR BB ⊢
          obtain ⟨b0, b1, b2, b3, b4, b5, b6⟩ := XB.cells7
          obtain ⟨y0, y1, y2, y3, y4, y5, y6⟩ := XR.cells7
          have f0 := XR.froz 0
          have f1 := XR.froz 1
          have f2 := XR.froz 2
          have f3 := XR.froz 3
          have f4 := XR.froz 4
          have f5 := XR.froz 5
          have f6 := XR.froz 6
          have HXR := Lib.hid XR
          have HBB := Lib.hid BB
          clear XB XR BB
          go_wp2_with fail
          refine refof_end w _ _ _ _ _ _ _ _ _ rfl rfl rfl (Blk.all7 HXR.out _ _ _ _ _ _ _) (Below.all7 HBB.out (Nat.le_refl _) _ _ _ _ _ _ _) _ ?_
          unfold Inf.val
          rw [HJ.out, HE.out]
end Go.Proofs.YtolifmpkillglaaGreatDoor
