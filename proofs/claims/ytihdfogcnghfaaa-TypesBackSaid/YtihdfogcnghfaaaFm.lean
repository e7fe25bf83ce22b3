import Derived.Test.YtihdfogcnghfaaaFl
import Derived.Deep.RegionHeld3
set_option linter.unusedVariables false
namespace Go.Proofs.Ytihdfogcnghfaaa
open Go.RowKit
/-! The laws' walks. -/
def TyBox (w W0 : World) (k c : Int) (W : World) : Prop :=
  W.cell? ⟨w.heap.size, 0, none⟩ = some (.int .u8 k) ∧ W.cell? ⟨w.heap.size, 1, none⟩ = some (.int .u16 c) ∧ Below W0.heap.size W0 W
theorem TyBox.keep {w W0 W W' : World} {k c : Int} (h : TyBox w W0 k c W) (hb : Below W.heap.size W W') : TyBox w W0 k c W' := by
  obtain ⟨h0, h1, h2⟩ := h
  exact ⟨(hb.cell (World.block_lt_of_cell? W _ h0)).trans h0, (hb.cell (World.block_lt_of_cell? W _ h1)).trans h1, h2.trans (hb.mono h2.size)⟩
def TTel (f : Nat) (args : Array Value) (w W0 : World) (k c : Int) (v : Value) : Prop :=
  ∀ W, TyBox w W0 k c W → Calls Try.prog f args W fun e w' => e = .returned v ∧ Below W.heap.size W w'
set_option maxHeartbeats 2000000 in
set_option maxRecDepth 100000 in
theorem twalk_puts (A : Option Addr) (n d : Nat) (l : List Ty) (k c k2 c2 : Int) (w : World) (hn : n * 4 ≤ 140737488351232) (hr : RV tyR w w.heap.size A n l) (hb : tyB k c) (hb2 : tyB k2 c2) :
    Calls Try.prog 3 #[.agg #[.int .u8 k, .int .u16 c], .agg #[.slice A n d, .int .u8 k2, .int .u16 c2]] w fun e w' => e = .returned (.bool true) ∧ Below w.heap.size w w' := by
  have P1 := Lib.hid (tput_any k c hb)
  have P2 := Lib.hid (reftput_any k c hb)
  have P3 := Lib.hid (putsig_any n k2 c2 l (by omega) hb2)
  have P4 := Lib.hid (refputsig_any n k2 c2 l (by omega) hb2)
  have HR := Lib.hid hr
  have HLp := Lib.hid (show (putP k c).length ≤ 3 by unfold putP; have := (encT_len k c).1; split <;> simp; omega)
  have HLs := Lib.hid (sigP_len k2 c2 l)
  have k0 := hb.1.1
  have c0 := hb.2.1
  clear hr hb hb2
  generalize hp : putP k c = p at P1 P2 HLp
  generalize putE k c = E1 at P1 P2
  generalize sigP k2 c2 l = s at P3 P4 HLs
  generalize sigE k2 c2 l = E2 at P3 P4
  clear hp
  have hBox := Blk.new w #[.int .u8 k, .int .u16 c] 25
  have hb1 := (Below.refl w.heap.size w).alloc (Nat.le_refl _) (.cells #[.int .u8 k, .int .u16 c] 25)
  have hBox2 := Blk.new (w.alloc (.cells #[.int .u8 k, .int .u16 c] 25)) #[.slice A n d, .int .u8 k2, .int .u16 c2] 28
  have hb2 := hb1.alloc (by simp) (.cells #[.slice A n d, .int .u8 k2, .int .u16 c2] 28)
  have HX := Lib.hid (hBox.alloc (.cells #[.slice A n d, .int .u8 k2, .int .u16 c2] 28))
  rw [show (w.alloc (.cells #[.int .u8 k, .int .u16 c] 25)).heap.size = w.heap.size + 1 by simp] at hBox2
  have HY := Lib.hid hBox2
  have HB := Lib.hid hb2
  clear hBox hb1 hBox2 hb2
  go_enter Try.func3, Try.ntmps3
  go_wp2_with fail
  have X0 := HX.out
  have Y0 := HY.out
  have B0 := HB.out
  clear HX HY HB
  generalize ((w.alloc (.cells #[.int .u8 k, .int .u16 c] 25)).alloc (.cells #[.slice A n d, .int .u8 k2, .int .u16 c2] 28)) = w0 at X0 Y0 B0 ⊢
  refine (P1.out _).mono ?_
  rintro e w1 ⟨A1, d1, rfl, ho1, hb1⟩
  have X1 := X0.below hb1
  have Y1 := Y0.below hb1
  have B1 := B0.trans (hb1.mono B0.size)
  have g0 : w1.cell? ⟨w.heap.size, 0, none⟩ = some (.int .u8 k) := X1.cell 0
  have g1 : w1.cell? ⟨w.heap.size, 1, none⟩ = some (.int .u16 c) := X1.cell 1
  have HX1 := Lib.hid X1
  have HY1 := Lib.hid Y1
  clear X0 Y0 X1 Y1
  go_wp2_with fail
  refine (P2.out _).mono ?_
  rintro e w2 ⟨A2, d2, rfl, ho2, hb2⟩
  have X2 := HX1.out.below hb2
  have Y2 := HY1.out.below hb2
  have B2 := B1.trans (hb2.mono B1.size)
  have q0 : w2.cell? ⟨w.heap.size + 1, 0, none⟩ = some (.slice A n d) := Y2.cell 0
  have q1 : w2.cell? ⟨w.heap.size + 1, 1, none⟩ = some (.int .u8 k2) := Y2.cell 1
  have q2 : w2.cell? ⟨w.heap.size + 1, 2, none⟩ = some (.int .u16 c2) := Y2.cell 2
  have HX2 := Lib.hid X2
  have HY2 := Lib.hid Y2
  clear g0 g1 X2 Y2 HX1 HY1
  go_wp2_with fail
  refine (P3.out _ _ _ _ (HR.out.below B2 (Nat.le_refl _)) B2.size).mono ?_
  rintro e w3 ⟨A3, d3, rfl, ho3, hb3⟩
  have X3 := HX2.out.below hb3
  have Y3 := HY2.out.below hb3
  have B3 := B2.trans (hb3.mono B2.size)
  have q30 : w3.cell? ⟨w.heap.size + 1, 0, none⟩ = some (.slice A n d) := Y3.cell 0
  have q31 : w3.cell? ⟨w.heap.size + 1, 1, none⟩ = some (.int .u8 k2) := Y3.cell 1
  have q32 : w3.cell? ⟨w.heap.size + 1, 2, none⟩ = some (.int .u16 c2) := Y3.cell 2
  have HX3 := Lib.hid X3
  clear q0 q1 q2 X3 Y3 HX2 HY2
  go_wp2_with fail
  refine (P4.out _ _ _ _ (HR.out.below B3 (Nat.le_refl _)) B3.size).mono ?_
  rintro e w4 ⟨A4, d4, rfl, ho4, hb4⟩
  have X4 := HX3.out.below hb4
  have B4 := B3.trans (hb4.mono B3.size)
  have hS : TyBox w w4 k c w4 := ⟨X4.cell 0, X4.cell 1, Below.refl _ _⟩
  have r1 : Rd w4 w4.heap.size A1 p.length p := (((ho1.below hb2).below hb3).below hb4).rd
  have r2 : Rd w4 w4.heap.size A2 p.length p := ((ho2.below hb3).below hb4).rd
  have r3 : Rd w4 w4.heap.size A3 s.length s := (ho3.below hb4).rd
  have r4 : Rd w4 w4.heap.size A4 s.length s := ho4.rd
  have T1 : TTel 12 _ w w4 k c _ := fun W _ => may_any k c W k0 c0
  have T2 : TTel 13 _ w w4 k c _ := fun W _ => refmay_any k c W k0 c0
  have T3 : TTel 15 _ w w4 k c _ := fun W _ => isref_any k c W k0
  have T4 : TTel 16 _ w w4 k c _ := fun W _ => refisref_any k c W k0
  have T5 : TTel 17 _ w w4 k c _ := fun W _ => isarr_any k c W k0
  have T6 : TTel 18 _ w w4 k c _ := fun W _ => refisarr_any k c W k0
  have T7 : TTel 19 _ w w4 k c _ := fun W _ => tysize_any k c W k0
  have T8 : TTel 20 _ w w4 k c _ := fun W _ => reftysize_any k c W k0
  have T9 : TTel 14 #[.slice A1 p.length d1, .slice A2 p.length d2] w w4 k c (.bool true) := fun W hW => (same_yes A1 A2 _ d1 d2 _ _ p W (by have := HLp.out; omega) (r1.below hW.2.2 (Nat.le_refl _)) (r2.below hW.2.2 (Nat.le_refl _))).mono fun e w' ⟨he, q, hw⟩ => ⟨he, by subst hw; exact below_drewN' q⟩
  have T10 : TTel 14 #[.slice A3 s.length d3, .slice A4 s.length d4] w w4 k c (.bool true) := fun W hW => (same_yes A3 A4 _ d3 d4 _ _ s W (by have := HLs.out; omega) (r3.below hW.2.2 (Nat.le_refl _)) (r4.below hW.2.2 (Nat.le_refl _))).mono fun e w' ⟨he, q, hw⟩ => ⟨he, by subst hw; exact below_drewN' q⟩
  have T11 : TTel 21 #[] w w4 k c (.bool true) := fun W _ => tworks_any W
  generalize mayT k c = v1 at T1 T2
  generalize refB k = v2 at T3 T4
  generalize arrB k = v3 at T5 T6
  generalize sizeT k = v4 at T7 T8
  have H1 := Lib.hid T1
  have H2 := Lib.hid T2
  have H3 := Lib.hid T3
  have H4 := Lib.hid T4
  have H5 := Lib.hid T5
  have H6 := Lib.hid T6
  have H7 := Lib.hid T7
  have H8 := Lib.hid T8
  have H9 := Lib.hid T9
  have H10 := Lib.hid T10
  have H11 := Lib.hid T11
  have HB4 := Lib.hid B4
  have HSz := Lib.hid B4.size
  clear T1 T2 T3 T4 T5 T6 T7 T8 T9 T10 T11 r1 r2 r3 r4 ho1 ho2 ho3 ho4 hb1 hb2 hb3 hb4 B0 B1 B2 B3 B4 X4 q30 q31 q32 HX3 P1 P2 P3 P4 HLp HLs HR
  generalize p.length = np at H9 ⊢
  generalize s.length = ns at H10 ⊢
  go_wp2_with fail
  go_region_held3 (fun w' => w'.cell? ⟨w.heap.size, 0, none⟩ = some (.int .u8 k) ∧ w'.cell? ⟨w.heap.size, 1, none⟩ = some (.int .u16 c) ∧ Below w4.heap.size w4 w')
    (first | exact TyBox.keep hS (Below.refl _ _).drew | exact TyBox.keep (by assumption) (by assumption))
    (first
      | (go_at_call 12; refine (H1.out _ (by assumption)).mono ?_; rintro e w' ⟨rfl, hb⟩)
      | (go_at_call 13; refine (H2.out _ (by assumption)).mono ?_; rintro e w' ⟨rfl, hb⟩)
      | (go_at_call 15; refine (H3.out _ (by assumption)).mono ?_; rintro e w' ⟨rfl, hb⟩)
      | (go_at_call 16; refine (H4.out _ (by assumption)).mono ?_; rintro e w' ⟨rfl, hb⟩)
      | (go_at_call 17; refine (H5.out _ (by assumption)).mono ?_; rintro e w' ⟨rfl, hb⟩)
      | (go_at_call 18; refine (H6.out _ (by assumption)).mono ?_; rintro e w' ⟨rfl, hb⟩)
      | (go_at_call 19; refine (H7.out _ (by assumption)).mono ?_; rintro e w' ⟨rfl, hb⟩)
      | (go_at_call 20; refine (H8.out _ (by assumption)).mono ?_; rintro e w' ⟨rfl, hb⟩)
      | (go_at_call_of 14 (Value.slice A1 np d1); refine (H9.out _ (by assumption)).mono ?_; rintro e w' ⟨rfl, hb⟩)
      | (go_at_call_of 14 (Value.slice A3 ns d3); refine (H10.out _ (by assumption)).mono ?_; rintro e w' ⟨rfl, hb⟩)
      | (go_at_call 21; refine (H11.out _ (by assumption)).mono ?_; rintro e w' ⟨rfl, hb⟩))
  go_wp2
  go_returns
  rename_i hX
  exact ⟨rfl, HB4.out.trans (hX.2.2.mono HSz.out)⟩
end Go.Proofs.Ytihdfogcnghfaaa
