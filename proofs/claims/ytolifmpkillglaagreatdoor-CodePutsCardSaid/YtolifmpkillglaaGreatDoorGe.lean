import Derived.Test.YtolifmpkillglaaGreatDoorGd
import Derived.Deep.RegionHeld3
set_option linter.unusedVariables false
set_option maxRecDepth 100000
namespace Go.Proofs.YtolifmpkillglaaGreatDoor
open Go.RowKit
/-! The row of a number. -/
structure Inf where
  op : Int
  name : List UInt8
  imm : Int
  take : Int
  leave : Int
  jumps : Bool
  ends : Bool
instance : DecidableEq Inf := fun a b =>
  decidable_of_iff ((a.op, a.name, a.imm, a.take, a.leave, a.jumps, a.ends) = (b.op, b.name, b.imm, b.take, b.leave, b.jumps, b.ends)) (by cases a; cases b; simp)
def Inf.zero : Inf := ⟨0, [], 0, 0, 0, false, false⟩
def Inf.val (x : Inf) : Value := .agg #[.int .u8 x.op, .string ⟨x.name.toArray⟩, .int .u8 x.imm, .int .i64 x.take, .int .i64 x.leave, .bool x.jumps, .bool x.ends]
def ofC (o : Int) : Inf × Int :=
  if nthB (fam (near o)) o then (⟨o, nameL (fam (near o)).names (nthN (fam (near o)) o), (fam (near o)).imm, (fam (near o)).take, (fam (near o)).leave, jmpI (fam (near o)).imm, (fam (near o)).ends⟩, 0) else (Inf.zero, 6)
def OfSaid (f : Nat) (o : Int) (a : Inf × Int) : Prop := ∀ w : World, Tab w → Calls Tryz.prog f #[.int .u8 o] w fun e w' => e = .returned (.tuple #[a.1.val, .int .i64 a.2]) ∧ Below w.heap.size w w'
/-- A block of seven cells, whatever they hold. -/
def Sev (w : World) (g : Nat) (t : TypeId) : Prop := ∃ v0 v1 v2 v3 v4 v5 v6, Blk w g #[v0, v1, v2, v3, v4, v5, v6] t
abbrev FamS (a0 a1 a2 a3 a4 : Int) (a5 : Bool) (s : ByteArray) (g g2 : Nat) (w0 : World) (W : World) : Prop :=
  W.cell? ⟨g, 0, none⟩ = some (.int .u8 a0) ∧ W.cell? ⟨g, 1, none⟩ = some (.int .i64 a1) ∧ W.cell? ⟨g, 2, none⟩ = some (.int .u8 a2) ∧ W.cell? ⟨g, 3, none⟩ = some (.int .i64 a3) ∧ W.cell? ⟨g, 4, none⟩ = some (.int .i64 a4) ∧
    W.cell? ⟨g, 5, none⟩ = some (.bool a5) ∧ W.cell? ⟨g, 6, none⟩ = some (.string s) ∧ Sev W g2 46 ∧ Below w0.heap.size w0 W
section
variable {a0 a1 a2 a3 a4 : Int} {a5 : Bool} {s : ByteArray} {g g2 : Nat} {w0 W W' : World}
theorem Sev.keep {t : TypeId} (h : Sev W g2 t) (hb : Below W.heap.size W W') : Sev W' g2 t := by
  obtain ⟨v0, v1, v2, v3, v4, v5, v6, hv⟩ := h
  exact ⟨v0, v1, v2, v3, v4, v5, v6, hv.below hb⟩
theorem FamS.keep (h : FamS a0 a1 a2 a3 a4 a5 s g g2 w0 W) (hz : w0.heap.size ≤ W.heap.size) (hb : Below W.heap.size W W') : FamS a0 a1 a2 a3 a4 a5 s g g2 w0 W' := by
  obtain ⟨h0, h1, h2, h3, h4, h5, h6, h7, h8⟩ := h
  have hg : g < W.heap.size := World.block_lt_of_cell? W ⟨g, 0, none⟩ h0
  have c : ∀ j, W'.cell? ⟨g, j, none⟩ = W.cell? ⟨g, j, none⟩ := fun j => hb.cell (p := ⟨g, j, none⟩) hg
  exact ⟨(c 0).trans h0, (c 1).trans h1, (c 2).trans h2, (c 3).trans h3, (c 4).trans h4, (c 5).trans h5, (c 6).trans h6, h7.keep hb, h8.trans (hb.mono hz)⟩
theorem FamS.keep' (h : FamS a0 a1 a2 a3 a4 a5 s g g2 w0 W) (hb : Below W.heap.size W W') : FamS a0 a1 a2 a3 a4 a5 s g g2 w0 W' := h.keep h.2.2.2.2.2.2.2.2.size hb
theorem FamS.store (h : FamS a0 a1 a2 a3 a4 a5 s g g2 w0 W) (hg : g ≠ g2) (hz : w0.heap.size ≤ g2) (v0 v1 v2 v3 v4 v5 v6 : Value) : FamS a0 a1 a2 a3 a4 a5 s g g2 w0 ((((((((W).setCell ⟨g2, 0, none⟩ v0).setCell ⟨g2, 1, none⟩ v1).setCell ⟨g2, 2, none⟩ v2).setCell ⟨g2, 3, none⟩ v3).setCell ⟨g2, 4, none⟩ v4).setCell ⟨g2, 5, none⟩ v5).setCell ⟨g2, 6, none⟩ v6) := by
  obtain ⟨h0, h1, h2, h3, h4, h5, h6, ⟨u0, u1, u2, u3, u4, u5, u6, hv⟩, h8⟩ := h
  have c : ∀ j, ((((((((W).setCell ⟨g2, 0, none⟩ v0).setCell ⟨g2, 1, none⟩ v1).setCell ⟨g2, 2, none⟩ v2).setCell ⟨g2, 3, none⟩ v3).setCell ⟨g2, 4, none⟩ v4).setCell ⟨g2, 5, none⟩ v5).setCell ⟨g2, 6, none⟩ v6).cell? ⟨g, j, none⟩ = W.cell? ⟨g, j, none⟩ := fun j =>
    World.cell?_of_block ((Below.heap_setCell _ _ _ _ hg).trans ((Below.heap_setCell _ _ _ _ hg).trans ((Below.heap_setCell _ _ _ _ hg).trans ((Below.heap_setCell _ _ _ _ hg).trans ((Below.heap_setCell _ _ _ _ hg).trans ((Below.heap_setCell _ _ _ _ hg).trans (Below.heap_setCell _ _ _ _ hg)))))))
  exact ⟨(c 0).trans h0, (c 1).trans h1, (c 2).trans h2, (c 3).trans h3, (c 4).trans h4, (c 5).trans h5, (c 6).trans h6, ⟨v0, v1, v2, v3, v4, v5, v6, hv.all7 v0 v1 v2 v3 v4 v5 v6⟩, Below.all7 h8 hz v0 v1 v2 v3 v4 v5 v6⟩
end
theorem nthN_lt (o : Int) (h : nthB (fam (near o)) o = true) : nthN (fam (near o)) o < 1000 := by
  have := (fam_ok (near o) (near_lt o)).2.1
  unfold nthB at h
  simp only [Bool.and_eq_true, decide_eq_true_eq] at h
  omega
set_option maxHeartbeats 400000 in
theorem of_any (o : Int) (h0 : 0 ≤ o) (h1 : o < 256) : OfSaid 17 o (ofC o) := by
  intro w T
  unfold ofC
  have HN := Lib.hid (fun w T => nearest_any o w h0 T)
  have ok := fam_ok (near o) (near_lt o)
  have hlt := nthN_lt o
  generalize fam (near o) = f at HN ok hlt ⊢
  obtain ⟨ok1, ok2, ok3, ok4⟩ := ok
  have HI := Lib.hid (fun w => nth_any f o w ok3 ok4 ok1)
  have HT := Lib.hid T
  clear T
  cases hB : nthB f o
  · rw [if_neg (by simp)]
    rw [hB] at HI
    clear hlt hB ok1 ok2 ok3 ok4
    generalize nthN f o = q at HI
    obtain ⟨a0, a1, a2, a3, a4, a5, a6⟩ := f
    simp only [Fam.val, Inf.val, Inf.zero] at HN HI ⊢
    go_enter Tryz.func17, Tryz.ntmps17
    go_wp2_with fail
    refine (HN.out _ (HT.out.alloc _)).mono ?_
    rintro e w1 ⟨rfl, hb1⟩
    obtain ⟨X1, z1, B1⟩ := Blk.box hb1
    have HX1 := Lib.hid X1
    have HB1 := Lib.hid B1
    clear X1 B1 hb1
    go_wp2_with fail
    refine (HI.out _).mono ?_
    rintro e w2 ⟨rfl, hb2⟩
    obtain ⟨X2, z2, B2⟩ := Blk.box hb2
    have HX2 := Lib.hid X2
    have HB2 := Lib.hid (HB1.out.trans (B2.mono HB1.out.size))
    have HR2 := Lib.hid (HX1.out.below B2)
    clear X2 B2 hb2
    have hv := HR2.out
    obtain ⟨y0, y1, y2, y3, y4, y5, y6⟩ := hv.cells7
    have f0 := hv.froz 0
    have f1 := hv.froz 1
    have f2 := hv.froz 2
    have f3 := hv.froz 3
    have f4 := hv.froz 4
    have f5 := hv.froz 5
    have f6 := hv.froz 6
    clear hv
    go_wp2_with fail
    have hv := HR2.out
    have X3 := hv.all7 (.int .u8 0) (.string ⟨#[]⟩) (.int .u8 0) (.int .i64 0) (.int .i64 0) (.bool false) (.bool false)
    have B3 := Below.all7 HB2.out (g := w.heap.size) (Nat.le_refl _) (.int .u8 0) (.string ⟨#[]⟩) (.int .u8 0) (.int .i64 0) (.int .i64 0) (.bool false) (.bool false)
    clear hv y0 y1 y2 y3 y4 y5 y6
    generalize (((((((w2).setCell ⟨w.heap.size, 0, none⟩ (.int .u8 0)).setCell ⟨w.heap.size, 1, none⟩ (.string ⟨#[]⟩)).setCell ⟨w.heap.size, 2, none⟩ (.int .u8 0)).setCell ⟨w.heap.size, 3, none⟩ (.int .i64 0)).setCell ⟨w.heap.size, 4, none⟩ (.int .i64 0)).setCell ⟨w.heap.size, 5, none⟩ (.bool false)).setCell ⟨w.heap.size, 6, none⟩ (.bool false) = W at X3 B3 ⊢
    obtain ⟨d0, d1, d2, d3, d4, d5, d6⟩ := X3.cells7
    exact bodyPost_ret (v := .tuple #[.agg #[.int .u8 0, .string ⟨#[]⟩, .int .u8 0, .int .i64 0, .int .i64 0, .bool false, .bool false], .int .i64 6]) (by simp [results, Tryz.results17, go_sem, d0, d1, d2, d3, d4, d5, d6]) rfl ⟨rfl, B3⟩
  · have hn := hlt hB
    rw [if_pos rfl]
    rw [hB] at HI
    have HM := Lib.hid (fun w => name_any f (nthN f o) w hn ok1)
    have HJ := Lib.hid (fun w => jumps_any f.imm w)
    clear hlt hn hB ok1 ok2 ok3 ok4
    generalize nthN f o = q at HI HM ⊢
    generalize nameL f.names q = nm at HM ⊢
    obtain ⟨a0, a1, a2, a3, a4, a5, a6⟩ := f
    simp only [Fam.val, Inf.val] at HN HI HM HJ ⊢
    generalize jmpI a2 = jp at HJ ⊢
    go_enter Tryz.func17, Tryz.ntmps17
    go_wp2_with fail
    refine (HN.out _ (HT.out.alloc _)).mono ?_
    rintro e w1 ⟨rfl, hb1⟩
    obtain ⟨X1, z1, B1⟩ := Blk.box hb1
    have HX1 := Lib.hid X1
    have HB1 := Lib.hid B1
    clear X1 B1 hb1
    go_wp2_with fail
    refine (HI.out _).mono ?_
    rintro e w2 ⟨rfl, hb2⟩
    obtain ⟨X2, z2, B2⟩ := Blk.box hb2
    have HX2 := Lib.hid X2
    have HB2 := Lib.hid (HB1.out.trans (B2.mono HB1.out.size))
    have HR2 := Lib.hid (HX1.out.below B2)
    clear X2 B2 hb2
    go_wp2_with fail
    obtain ⟨x0, x1, x2, x3, x4, x5, x6⟩ := HX2.out.cells7
    have hS : FamS a0 a1 a2 a3 a4 a5 ⟨a6.toArray⟩ w1.heap.size w.heap.size w w2 := ⟨x0, x1, x2, x3, x4, x5, x6, ⟨_, _, _, _, _, _, _, HR2.out⟩, HB2.out⟩
    have hne : w1.heap.size ≠ w.heap.size := by omega
    clear x0 x1 x2 x3 x4 x5 x6
    go_region_held3 (fun W => W.cell? ⟨w1.heap.size, 0, none⟩ = some (.int .u8 a0) ∧ W.cell? ⟨w1.heap.size, 1, none⟩ = some (.int .i64 a1) ∧ W.cell? ⟨w1.heap.size, 2, none⟩ = some (.int .u8 a2) ∧ W.cell? ⟨w1.heap.size, 3, none⟩ = some (.int .i64 a3) ∧ W.cell? ⟨w1.heap.size, 4, none⟩ = some (.int .i64 a4) ∧
    W.cell? ⟨w1.heap.size, 5, none⟩ = some (.bool a5) ∧ W.cell? ⟨w1.heap.size, 6, none⟩ = some (.string ⟨a6.toArray⟩) ∧ Sev W w.heap.size 46 ∧ Below w.heap.size w W)
      (first
        | (with_reducible refine FamS.store ?_ hne (Nat.le_refl _) _ _ _ _ _ _ _; (with_reducible assumption))
        | (with_reducible assumption)
        | (with_reducible refine FamS.keep' hS ?_; (with_reducible exact (Below.refl _ _).drew))
        | exact FamS.keep' (by assumption) (by assumption))
      (first
        | (go_at_call 38; refine (HM.out _).mono ?_; rintro e w' ⟨rfl, hb⟩; obtain ⟨v0, v1, v2, v3, v4, v5, v6, hv⟩ := (FamS.keep' (by assumption) hb).2.2.2.2.2.2.2.1; obtain ⟨y0, y1, y2, y3, y4, y5, y6⟩ := hv.cells7; have f0 := hv.froz 0; have f1 := hv.froz 1; have f2 := hv.froz 2; have f3 := hv.froz 3; have f4 := hv.froz 4; have f5 := hv.froz 5; have f6 := hv.froz 6)
        | (go_at_call 39; refine (HJ.out _).mono ?_; rintro e w' ⟨rfl, hj⟩; obtain rfl := hj.symm))
    have X3 := hv.all7 (.int .u8 o) (.string ⟨nm.toArray⟩) (.int .u8 a2) (.int .i64 a3) (.int .i64 a4) (.bool jp) (.bool a5)
    rename_i hX
    have B3 := hX.2.2.2.2.2.2.2.2
    clear hX hv y0 y1 y2 y3 y4 y5 y6
    generalize (((((((w').setCell ⟨w.heap.size, 0, none⟩ (.int .u8 o)).setCell ⟨w.heap.size, 1, none⟩ (.string ⟨nm.toArray⟩)).setCell ⟨w.heap.size, 2, none⟩ (.int .u8 a2)).setCell ⟨w.heap.size, 3, none⟩ (.int .i64 a3)).setCell ⟨w.heap.size, 4, none⟩ (.int .i64 a4)).setCell ⟨w.heap.size, 5, none⟩ (.bool jp)).setCell ⟨w.heap.size, 6, none⟩ (.bool a5) = W at X3 B3 ⊢
    obtain ⟨d0, d1, d2, d3, d4, d5, d6⟩ := X3.cells7
    go_wp2_with fail
    exact bodyPost_ret (v := .tuple #[.agg #[.int .u8 o, .string ⟨nm.toArray⟩, .int .u8 a2, .int .i64 a3, .int .i64 a4, .bool jp, .bool a5], .int .i64 0]) (by simp [results, Tryz.results17, go_sem, d0, d1, d2, d3, d4, d5, d6]) rfl ⟨rfl, B3⟩
end Go.Proofs.YtolifmpkillglaaGreatDoor
