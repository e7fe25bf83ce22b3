import Derived.Test.YtihdfogcnghfaaaFp
set_option linter.unusedVariables false
namespace Go.Proofs.Ytihdfogcnghfaaa
open Go.RowKit
/-! TypesSame. -/
theorem sameSB_sym (k1 c1 k2 c2 : Int) (l1 l2 : List Ty) : sameSB k1 c1 k2 c2 l1 l2 = sameSB k2 c2 k1 c1 l2 l1 := by
  unfold sameSB
  congr 1 <;> exact decide_eq_decide.2 eq_comm
theorem enL_set {α : Type} (R : Rec α) (zs : List α) (i j : Nat) (v : Value) (z : α) (hi : i < zs.length) (hj : j < R.m) (hz : R.enc z = (R.enc (zs.getD i R.d)).set j v) :
    (enL R zs).set (i * R.m + j) v = enL R (zs.set i z) := by
  induction zs generalizing i with
  | nil => simp at hi
  | cons y ys ih =>
    cases i with
    | zero =>
      have hz' : R.enc z = (R.enc y).set j v := by simpa using hz
      rw [Nat.zero_mul, Nat.zero_add, List.set_cons_zero, enL_cons, enL_cons, hz', List.set_append_left _ _ (by rw [R.len]; exact hj)]
    | succ i =>
      have h := ih i (by simpa using hi) (by simpa using hz)
      rw [List.set_cons_succ, enL_cons, enL_cons, ← h, List.set_append_right _ _ (by rw [R.len, Nat.succ_mul]; omega), R.len]
      congr 2
      rw [Nat.succ_mul]; omega
theorem OV.put {α : Type} {R : Rec α} {e : TypeId} {w : World} {S : Nat → Prop} {g n c : Nat} {l : List α} (h : OV R e w S (some ⟨g, 0, none⟩) n c l) (i j : Nat) (v : Value) (z : α) (hi : i < n) (hj : j < R.m) (hz : R.enc z = (R.enc (l.getD i R.d)).set j v) (hok : R.ok z) :
    OV R e (w.setCell ⟨g, i * R.m + j, none⟩ v) S (some ⟨g, 0, none⟩) n c (l.set i z) := by
  obtain ⟨h1, h2, h3, h4, h5⟩ := h
  refine ⟨by rw [List.length_set]; exact h1, allok_set h2 i hok, h3, h4, ?_⟩
  rcases h5 with ⟨h0, _⟩ | ⟨g', zs, hA, hg, hh, hzl, ht, hr⟩
  · cases h0
  · injection hA with hA
    injection hA with hA
    subst hA
    refine .inr ⟨g, zs.set i z, rfl, hg, ?_, by rw [List.length_set]; exact hzl, ?_, allok_set hr i hok⟩
    · have := heap_setCell_same w g (i * R.m + j) (enA R zs) e v hh
      rw [this]
      congr 2
      have hd : zs.getD i R.d = l.getD i R.d := by
        rw [← ht, List.getD_eq_getElem?_getD, List.getD_eq_getElem?_getD, List.getElem?_take, if_pos hi]
      have hs := enL_set R zs i j v z (by omega) hj (by rw [hd]; exact hz)
      unfold enA
      rw [← hs]
      simp
    · rw [List.take_set, ht]
theorem OV.cells {α : Type} {R : Rec α} {e : TypeId} {w : World} {S : Nat → Prop} {A : Option Addr} {n c : Nat} {l : List α} (h : OV R e w S A n c l) (hn : 0 < n) : ∃ g, A = some ⟨g, 0, none⟩ ∧ g < w.heap.size ∧ ¬ S g ∧ (∀ j, w.frozen? ⟨g, j, none⟩ = false) := by
  rcases h.2.2.2.2 with ⟨_, h0, _⟩ | ⟨g, zs, hA, hg, hh, _⟩
  · omega
  · exact ⟨g, hA, lt_heap hh, hg, fun j => by simp [World.frozen?, hh]⟩
abbrev SmBox (w W0 : World) (sa sb sc : Value) (k1 c1 k2 c2 : Int) (W : World) : Prop :=
  W.cell? ⟨w.heap.size, 0, none⟩ = some sa ∧ W.cell? ⟨w.heap.size, 1, none⟩ = some (.int .u8 k1) ∧ W.cell? ⟨w.heap.size, 2, none⟩ = some (.int .u16 c1) ∧
  W.cell? ⟨w.heap.size + 1, 0, none⟩ = some sb ∧ W.cell? ⟨w.heap.size + 1, 1, none⟩ = some (.int .u8 k2) ∧ W.cell? ⟨w.heap.size + 1, 2, none⟩ = some (.int .u16 c2) ∧
  W.cell? ⟨w.heap.size + 1 + 1, 0, none⟩ = some sc ∧ W.cell? ⟨w.heap.size + 1 + 1, 1, none⟩ = some (.int .u8 k1) ∧ W.cell? ⟨w.heap.size + 1 + 1, 2, none⟩ = some (.int .u16 c1) ∧ Below W0.heap.size W0 W
theorem SmBox.keep {w W0 W W' : World} {sa sb sc : Value} {k1 c1 k2 c2 : Int} (h : SmBox w W0 sa sb sc k1 c1 k2 c2 W) (hb : Below W.heap.size W W') : SmBox w W0 sa sb sc k1 c1 k2 c2 W' := by
  obtain ⟨h0, h1, h2, h3, h4, h5, h6, h7, h8, h9⟩ := h
  have f := fun {p : Addr} {v : Value} (h : W.cell? p = some v) => (hb.cell (World.block_lt_of_cell? W p h)).trans h
  exact ⟨f h0, f h1, f h2, f h3, f h4, f h5, f h6, f h7, f h8, h9.trans (hb.mono h9.size)⟩
abbrev SmTel (f : Nat) (args : Array Value) (w W0 : World) (sa sb sc : Value) (k1 c1 k2 c2 : Int) (v : Bool) : Prop :=
  ∀ W, SmBox w W0 sa sb sc k1 c1 k2 c2 W → Calls Try.prog f args W fun e w' => e = .returned (.bool v) ∧ Below W.heap.size W w'
theorem set_ne (l : List Ty) (q : Nat) (z : Ty) (hq : q < l.length) (hz : ¬ l.getD q (0, 0) = z) : ¬ l = l.set q z := by
  intro e
  apply hz
  have h := congrArg (fun m => m.getD q (0, 0)) e
  simp only [List.getD_eq_getElem?_getD, List.getElem?_set_self hq] at h
  rw [List.getD_eq_getElem?_getD, h]
  rfl
set_option maxHeartbeats 2000000 in
set_option maxRecDepth 100000 in
theorem twalk_same (A1 A2 : Option Addr) (n1 d1 n2 d2 : Nat) (l1 l2 : List Ty) (k1 c1 k2 c2 i : Int) (w : World) (hn1 : n1 * 4 ≤ 140737488351232) (hn2 : n2 * 4 ≤ 140737488351232)
    (hr1 : RV tyR w w.heap.size A1 n1 l1) (hr2 : RV tyR w w.heap.size A2 n2 l2) (i0 : 0 ≤ i) (i1 : i < 256) :
    Calls Try.prog 6 #[.agg #[.slice A1 n1 d1, .int .u8 k1, .int .u16 c1], .agg #[.slice A2 n2 d2, .int .u8 k2, .int .u16 c2], .int .u8 i] w fun e w' => e = .returned (.bool true) ∧ Below w.heap.size w w' := by
  have HR1 := Lib.hid hr1
  have HR2 := Lib.hid hr2
  have HL := Lib.hid hr1.len
  clear hr1 hr2
  have x1 := ((Blk.new w #[.slice A1 n1 d1, .int .u8 k1, .int .u16 c1] 28).alloc (.cells #[.slice A2 n2 d2, .int .u8 k2, .int .u16 c2] 28)).alloc (.cells #[.slice none 0 0, .int .u8 k1, .int .u16 c1] 28)
  have x2 := (Blk.new (w.alloc (.cells #[.slice A1 n1 d1, .int .u8 k1, .int .u16 c1] 28)) #[.slice A2 n2 d2, .int .u8 k2, .int .u16 c2] 28).alloc (.cells #[.slice none 0 0, .int .u8 k1, .int .u16 c1] 28)
  have x3 := Blk.new ((w.alloc (.cells #[.slice A1 n1 d1, .int .u8 k1, .int .u16 c1] 28)).alloc (.cells #[.slice A2 n2 d2, .int .u8 k2, .int .u16 c2] 28)) #[.slice none 0 0, .int .u8 k1, .int .u16 c1] 28
  have x4 := (((Below.refl w.heap.size w).alloc (Nat.le_refl _) (.cells #[.slice A1 n1 d1, .int .u8 k1, .int .u16 c1] 28)).alloc (by simp) (.cells #[.slice A2 n2 d2, .int .u8 k2, .int .u16 c2] 28)).alloc (by simp; omega) (.cells #[.slice none 0 0, .int .u8 k1, .int .u16 c1] 28)
  rw [show (w.alloc (.cells #[.slice A1 n1 d1, .int .u8 k1, .int .u16 c1] 28)).heap.size = w.heap.size + 1 by simp] at x2
  rw [show ((w.alloc (.cells #[.slice A1 n1 d1, .int .u8 k1, .int .u16 c1] 28)).alloc (.cells #[.slice A2 n2 d2, .int .u8 k2, .int .u16 c2] 28)).heap.size = w.heap.size + 1 + 1 by simp] at x3
  have HX1 := Lib.hid x1
  have HX2 := Lib.hid x2
  have HX3 := Lib.hid x3
  have HX4 := Lib.hid x4
  clear x1 x2 x3 x4
  go_enter Try.func6, Try.ntmps6
  go_wp2_with (at_builtin; refine wpList_appV tyFit rfl _ _ rfl (Lt (w.heap.size + 1 + 1 + 1)) none 0 0 [] rfl OV.nil_ _ A1 n1 d1 l1 rfl (HR1.out.below HX4.out (Nat.le_refl _)) n1 (by omega) l1 rfl (by omega) (fun j hj => by unfold Lt at hj; simp; omega) ?_; intro A3 d3 w1 ho1 hb1; have y3 := HX3.out.kp hb1 (by unfold Lt; omega); have q0 : w1.cell? ⟨w.heap.size + 1 + 1, 0, none⟩ = some (.slice none 0 0) := y3.cell 0; have qf0 := y3.froz 0; have HY3 := Lib.hid y3; have HO1 := Lib.hid ho1; have HBB := Lib.hid hb1; clear y3 ho1 hb1)
  have HW := Lib.hid (show SmBox w (w1.setCell ⟨w.heap.size + 1 + 1, 0, none⟩ (.slice A3 n1 d3)) (.slice A1 n1 d1) (.slice A2 n2 d2) (.slice A3 n1 d3) k1 c1 k2 c2 (w1.setCell ⟨w.heap.size + 1 + 1, 0, none⟩ (.slice A3 n1 d3)) from by
    have y1 := (HX1.out.kp HBB.out (by unfold Lt; omega)).other ⟨w.heap.size + 1 + 1, 0, none⟩ (.slice A3 n1 d3) (by simp; omega)
    have y2 := (HX2.out.kp HBB.out (by unfold Lt; omega)).other ⟨w.heap.size + 1 + 1, 0, none⟩ (.slice A3 n1 d3) (by simp)
    have y3 := HY3.out.set 0 (.slice A3 n1 d3)
    exact ⟨y1.cell 0, y1.cell 1, y1.cell 2, y2.cell 0, y2.cell 1, y2.cell 2, y3.cell 0, y3.cell 1, y3.cell 2, Below.refl _ _⟩)
  have HO := Lib.hid (HO1.out.set (p := ⟨w.heap.size + 1 + 1, 0, none⟩) (by unfold Lt; simp) (.slice A3 n1 d3))
  have HB := Lib.hid ((HX4.out.trans (HBB.out.below (B := w.heap.size) (fun j hj => by unfold Lt; omega))).setCell (p := ⟨w.heap.size + 1 + 1, 0, none⟩) (by simp; omega) (.slice A3 n1 d3))
  have HZ := Lib.hid (show w.heap.size + 1 + 1 + 1 ≤ (w1.setCell ⟨w.heap.size + 1 + 1, 0, none⟩ (.slice A3 n1 d3)).heap.size by have := HBB.out.size; simp [World.setCell] at this ⊢; omega)
  clear HX1 HX2 HX3 HX4 HY3 HO1 HBB q0 qf0
  generalize w1.setCell ⟨w.heap.size + 1 + 1, 0, none⟩ (.slice A3 n1 d3) = w2 at HW HO HB HZ ⊢
  have hS := HW.out
  have T1 : SmTel 28 #[.agg #[.slice A1 n1 d1, .int .u8 k1, .int .u16 c1], .agg #[.slice A3 n1 d3, .int .u8 k1, .int .u16 c1]] w w2 (.slice A1 n1 d1) (.slice A2 n2 d2) (.slice A3 n1 d3) k1 c1 k2 c2 true := fun W hW => by
    have hb := hW.2.2.2.2.2.2.2.2.2
    have h := tysame_any n1 n1 k1 c1 k1 c1 l1 l1 (by omega) (by omega) W A1 A3 d1 d3 _ _ (HR1.out.below (HB.out.trans (hb.mono HB.out.size)) (Nat.le_refl _)) (HO.out.rv.below hb (Nat.le_refl _)) (Nat.le_trans HB.out.size hb.size) hb.size
    rwa [sameSB_self] at h
  have T2 : SmTel 28 #[.agg #[.slice A1 n1 d1, .int .u8 k1, .int .u16 c1], .agg #[.slice A2 n2 d2, .int .u8 k2, .int .u16 c2]] w w2 (.slice A1 n1 d1) (.slice A2 n2 d2) (.slice A3 n1 d3) k1 c1 k2 c2 (sameSB k1 c1 k2 c2 l1 l2) := fun W hW => by
    have hb := hW.2.2.2.2.2.2.2.2.2
    have hB := HB.out.trans (hb.mono HB.out.size)
    exact tysame_any n1 n2 k1 c1 k2 c2 l1 l2 (by omega) (by omega) W A1 A2 d1 d2 _ _ (HR1.out.below hB (Nat.le_refl _)) (HR2.out.below hB (Nat.le_refl _)) hB.size hB.size
  have T3 : SmTel 29 #[.agg #[.slice A1 n1 d1, .int .u8 k1, .int .u16 c1], .agg #[.slice A2 n2 d2, .int .u8 k2, .int .u16 c2]] w w2 (.slice A1 n1 d1) (.slice A2 n2 d2) (.slice A3 n1 d3) k1 c1 k2 c2 (sameSB k1 c1 k2 c2 l1 l2) := fun W hW => by
    have hb := hW.2.2.2.2.2.2.2.2.2
    have hB := HB.out.trans (hb.mono HB.out.size)
    exact reftysame_any n1 n2 k1 c1 k2 c2 l1 l2 (by omega) (by omega) W A1 A2 d1 d2 _ _ (HR1.out.below hB (Nat.le_refl _)) (HR2.out.below hB (Nat.le_refl _)) hB.size hB.size
  have T4 : SmTel 28 #[.agg #[.slice A2 n2 d2, .int .u8 k2, .int .u16 c2], .agg #[.slice A1 n1 d1, .int .u8 k1, .int .u16 c1]] w w2 (.slice A1 n1 d1) (.slice A2 n2 d2) (.slice A3 n1 d3) k1 c1 k2 c2 (sameSB k1 c1 k2 c2 l1 l2) := fun W hW => by
    have hb := hW.2.2.2.2.2.2.2.2.2
    have hB := HB.out.trans (hb.mono HB.out.size)
    have h := tysame_any n2 n1 k2 c2 k1 c1 l2 l1 (by omega) (by omega) W A2 A1 d2 d1 _ _ (HR2.out.below hB (Nat.le_refl _)) (HR1.out.below hB (Nat.le_refl _)) hB.size hB.size
    rwa [← sameSB_sym] at h
  generalize sameSB k1 c1 k2 c2 l1 l2 = v at T2 T3 T4
  have H1 := Lib.hid T1
  have H2 := Lib.hid T2
  have H3 := Lib.hid T3
  have H4 := Lib.hid T4
  clear T1 T2 T3 T4 HW HR2
  go_region_held3 (fun W => W.cell? ⟨w.heap.size, 0, none⟩ = some (.slice A1 n1 d1) ∧ W.cell? ⟨w.heap.size, 1, none⟩ = some (.int .u8 k1) ∧ W.cell? ⟨w.heap.size, 2, none⟩ = some (.int .u16 c1) ∧
  W.cell? ⟨w.heap.size + 1, 0, none⟩ = some (.slice A2 n2 d2) ∧ W.cell? ⟨w.heap.size + 1, 1, none⟩ = some (.int .u8 k2) ∧ W.cell? ⟨w.heap.size + 1, 2, none⟩ = some (.int .u16 c2) ∧
  W.cell? ⟨w.heap.size + 1 + 1, 0, none⟩ = some (.slice A3 n1 d3) ∧ W.cell? ⟨w.heap.size + 1 + 1, 1, none⟩ = some (.int .u8 k1) ∧ W.cell? ⟨w.heap.size + 1 + 1, 2, none⟩ = some (.int .u16 c1) ∧ Below w2.heap.size w2 W)
    (first | exact SmBox.keep hS (Below.refl _ _).drew | exact SmBox.keep (by assumption) (by assumption))
    (first
      | ((with_reducible refine Calls.mono (H1.out _ (by assumption)) ?_); rintro e w' ⟨rfl, hb⟩)
      | ((with_reducible refine Calls.mono (H2.out _ (by assumption)) ?_); rintro e w' ⟨rfl, hb⟩)
      | ((with_reducible refine Calls.mono (H3.out _ (by assumption)) ?_); rintro e w' ⟨rfl, hb⟩)
      | ((with_reducible refine Calls.mono (H4.out _ (by assumption)) ?_); rintro e w' ⟨rfl, hb⟩))
  rename_i W hX
  obtain ⟨a0, a1, a2, -, -, -, p0, p1, p2, gb⟩ := hX
  have HB2 := Lib.hid (HB.out.trans (gb.mono HB.out.size))
  have HO2 := Lib.hid (HO.out.below gb)
  have HZ2 := Lib.hid (Nat.le_trans HZ.out gb.size)
  clear gb H1 H2 H3 H4 hS HB HO HZ
  by_cases h0 : n1 = 0
  · have n0 : ((n1 : Int) == 0) = true := by simp [h0]
    clear h0
    go_wp2_with fail
    refine (tworks_any _).mono ?_
    rintro e w6 ⟨rfl, hb6⟩
    go_wp2_with fail
    go_returns
    exact ⟨rfl, HB2.out.trans (hb6.mono HB2.out.size)⟩
  · have n0 : ((n1 : Int) == 0) = false := by simpa using h0
    obtain ⟨g, rfl, hgl, hgS, hfr⟩ := HO2.out.cells (by omega)
    unfold Lt at hgS
    obtain ⟨q, hq⟩ : ∃ q : Nat, i % (n1 : Int) = q := ⟨(i % (n1 : Int)).toNat, by have := Int.emod_nonneg i (show (n1 : Int) ≠ 0 by omega); omega⟩
    have hqn : q < n1 := by have := Int.emod_lt_of_pos i (show (0 : Int) < n1 by omega); omega
    obtain ⟨b', off', e', _, q0, q1, qb⟩ := HO2.out.rv.ty q hqn
    injection e' with e'
    injection e' with e1 e2
    subst e1
    subst e2
    have hfq := hfr (q * 2 + 1)
    have HQ := Lib.hid (show q < l1.length by rw [HL.out]; exact hqn)
    have HGD := Lib.hid (show l1.getD q (0, 0) = l1.getD q (0, 0) from rfl)
    obtain ⟨⟨x1, x2⟩, hx⟩ : ∃ p : Ty, l1.getD q (0, 0) = p := ⟨_, rfl⟩
    rw [hx] at q0 q1 qb
    simp only [Nat.zero_add] at q0 q1 qb
    have HX := Lib.hid hx
    obtain ⟨_, qb1, qb2⟩ := qb
    have iN : (0 : Int) < n1 := by omega
    have qi : (q : Int) < n1 := by omega
    clear hx h0 hfr
    go_upto_region 9 with (fail)
    have hwr : IntKind.u16.wrap (x2 + 1) = (x2 + 1) % 65536 := by unfold IntKind.wrap; simp [IntKind.signed, IntKind.bits]
    have hgw : w.heap.size + 1 + 1 < g := by omega
    have ne := fun (j k : Nat) (hj : j ≤ w.heap.size + 1 + 1) => World.cell?_setCell_other w' ⟨g, q * 2 + 1, none⟩ ⟨j, k, none⟩ (.int .u16 (IntKind.u16.wrap (x2 + 1))) (fun e => by cases e; omega)
    have a0' := (ne w.heap.size 0 (by omega)).trans a0
    have a1' := (ne w.heap.size 1 (by omega)).trans a1
    have a2' := (ne w.heap.size 2 (by omega)).trans a2
    have p0' := (ne (w.heap.size + 1 + 1) 0 (by omega)).trans p0
    have p1' := (ne (w.heap.size + 1 + 1) 1 (by omega)).trans p1
    have p2' := (ne (w.heap.size + 1 + 1) 2 (by omega)).trans p2
    have HO3 := Lib.hid (HO2.out.put q 1 (.int .u16 (IntKind.u16.wrap (x2 + 1))) (x1, IntKind.u16.wrap (x2 + 1)) hqn (by decide) (by rw [show tyR.d = (0, 0) from rfl, HX.out]; rfl) ⟨‹0 ≤ x1 ∧ x1 < 256›, by rw [hwr]; omega, by rw [hwr]; omega⟩)
    have HB3 := Lib.hid (HB2.out.setCell (p := ⟨g, q * 2 + 1, none⟩) (by simp; omega) (.int .u16 (IntKind.u16.wrap (x2 + 1))))
    have hne := set_ne l1 q (x1, IntKind.u16.wrap (x2 + 1)) HQ.out (by rw [HX.out]; intro e; injection e with _ e; rw [hwr] at e; omega)
    have hsame : sameSB k1 c1 k1 c1 l1 (l1.set q (x1, IntKind.u16.wrap (x2 + 1))) = false := by unfold sameSB; rw [decide_eq_false hne, Bool.and_false]
    have HSM := Lib.hid hsame
    clear a0 a1 a2 p0 p1 p2 ne q0 q1 hwr hne hsame HO2 HB2 hfq
    have e3 : w'.setCell ⟨g, q * tyR.m + 1, none⟩ (.int .u16 (IntKind.u16.wrap (x2 + 1))) = w'.setCell ⟨g, q * 2 + 1, none⟩ (.int .u16 (IntKind.u16.wrap (x2 + 1))) := rfl
    rw [e3] at HO3
    clear e3
    generalize w'.setCell ⟨g, q * 2 + 1, none⟩ (.int .u16 (IntKind.u16.wrap (x2 + 1))) = w3 at a0' a1' a2' p0' p1' p2' HO3 HB3 ⊢
    go_wp2_with fail
    refine (tysame_any n1 n1 k1 c1 k1 c1 l1 (l1.set q (x1, IntKind.u16.wrap (x2 + 1))) (by omega) (by omega) _ A1 _ d1 d3 _ _ (HR1.out.below HB3.out (Nat.le_refl _)) HO3.out.rv HB3.out.size (Nat.le_refl _)).mono ?_
    rw [HSM.out]
    rintro e w4 ⟨rfl, hb4⟩
    go_wp2_with fail
    refine (tworks_any _).mono ?_
    rintro e w6 ⟨rfl, hb6⟩
    go_wp2_with fail
    go_returns
    exact ⟨rfl, (HB3.out.trans (hb4.mono HB3.out.size)).trans (hb6.mono (Nat.le_trans HB3.out.size hb4.size))⟩
end Go.Proofs.Ytihdfogcnghfaaa
