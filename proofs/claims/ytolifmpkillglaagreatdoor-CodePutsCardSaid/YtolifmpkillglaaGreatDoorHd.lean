import Derived.Test.YtolifmpkillglaaGreatDoorHc
import Derived.Deep.CutRange
import Derived.IntWalk
set_option linter.unusedVariables false
set_option maxRecDepth 100000
namespace Go.Proofs.YtolifmpkillglaaGreatDoor
open Go.RowKit
/-! What stands behind an instruction's number: the document's own, the plain ones. -/
def BX (w : World) (h : Nat) (r : RI) : Prop := Blk w h r.cells.toArray 28
def Not2 (g h : Nat) : Nat → Prop := fun k => k ≠ g ∧ k ≠ h
theorem Kp.not1 {g h : Nat} {w w' : World} (k : Kp (Not1 g) w w') : Kp (Not2 g h) w w' := k.mono fun _ hk => hk.1
theorem Kp.setH {g h : Nat} {a w : World} (k : Kp (Not2 g h) a w) (j : Nat) (v : Value) : Kp (Not2 g h) a (w.setCell ⟨h, j, none⟩ v) := k.setCell (fun hk => hk.2 rfl) v
theorem Rd.kpn {w w' : World} {B g n : Nat} {A : Option Addr} {l : List Int} (h : Rd w B A n l) (k : Kp (Not1 g) w w') (hg : B ≤ g) : Rd w' B A n l := h.keep fun p hp => k.cell (show p.block ≠ g by omega)
theorem Rd.setH {w : World} {B h n : Nat} {A : Option Addr} {l : List Int} (hr : Rd w B A n l) (j : Nat) (v : Value) (hh : B ≤ h) : Rd (w.setCell ⟨h, j, none⟩ v) B A n l :=
  hr.keep fun p hp => World.cell?_of_block (Below.heap_setCell _ _ _ _ (show p.block ≠ h by omega))
theorem TK.setH {w : World} {g h n c at_ : Nat} {A : Option Addr} {s : Bool} (X : TK w g A n c at_ s) (j : Nat) (v : Value) (hne : g ≠ h) : TK (w.setCell ⟨h, j, none⟩ v) g A n c at_ s := Blk.other X _ _ hne
theorem BX.kpn {w w' : World} {g h : Nat} {r : RI} (X : BX w h r) (k : Kp (Not1 g) w w') (hne : g ≠ h) : BX w' h r := Blk.kp X k (show h ≠ g from fun e => hne e.symm)
theorem BX.cells10 {w : World} {h : Nat} {r : RI} (X : BX w h r) (j : Nat) : w.cell? ⟨h, j, none⟩ = r.cells[j]? := by
  have := Blk.cell X j
  rw [this]
  simp
theorem BX.set_a {w : World} {h : Nat} {r : RI} (X : BX w h r) (v : Int) : BX (w.setCell ⟨h, 2, none⟩ (.int .i64 v)) h { r with sc := { r.sc with a := v } } := by
  have := Blk.set X 2 (.int .i64 v)
  simpa [BX, RI.cells] using this
theorem BX.set_b {w : World} {h : Nat} {r : RI} (X : BX w h r) (v : Int) : BX (w.setCell ⟨h, 3, none⟩ (.int .u8 v)) h { r with sc := { r.sc with b := v } } := by
  have := Blk.set X 3 (.int .u8 v)
  simpa [BX, RI.cells] using this
theorem BX.set_n {w : World} {h : Nat} {r : RI} (X : BX w h r) (v : Int) : BX (w.setCell ⟨h, 4, none⟩ (.int .u16 v)) h { r with sc := { r.sc with n := v } } := by
  have := Blk.set X 4 (.int .u16 v)
  simpa [BX, RI.cells] using this
theorem BX.set_pool {w : World} {h : Nat} {r : RI} (X : BX w h r) (v : Int) : BX (w.setCell ⟨h, 5, none⟩ (.int .i64 v)) h { r with sc := { r.sc with pool := v } } := by
  have := Blk.set X 5 (.int .i64 v)
  simpa [BX, RI.cells] using this
theorem BX.set_jump {w : World} {h : Nat} {r : RI} (X : BX w h r) (v : Int) : BX (w.setCell ⟨h, 6, none⟩ (.int .i64 v)) h { r with sc := { r.sc with jump := v } } := by
  have := Blk.set X 6 (.int .i64 v)
  simpa [BX, RI.cells] using this
theorem BX.set_low {w : World} {h : Nat} {r : RI} (X : BX w h r) (v : Int) : BX (w.setCell ⟨h, 9, none⟩ (.int .u16 v)) h { r with sc := { r.sc with low := v } } := by
  have := Blk.set X 9 (.int .u16 v)
  simpa [BX, RI.cells] using this
def BehSaid (imm : Int) (n : Nat) (l : List Int) (r r' : RI) (at_ at' : Nat) (s s' ok : Bool) : Prop :=
  ∀ (w : World) (g h B c : Nat) (A : Option Addr), TK w g A n c at_ s → BX w h r → g ≠ h → B ≤ g → B ≤ h → Rd w B A n l → n ≤ c →
    Calls Tryz.prog 31 #[.pointer (some ⟨g, 0, none⟩), .pointer (some ⟨h, 0, none⟩), .int .u8 imm] w fun e w' => e = .returned (.bool ok) ∧ TK w' g A n c at' s' ∧ BX w' h r' ∧ Kp (Not2 g h) w w'
set_option maxRecDepth 100000 in
theorem beh_none (n : Nat) (l : List Int) (r : RI) (at_ : Nat) (s : Bool) : BehSaid 0 n l r r at_ at_ s s true := by
  intro w g h B c A X Y hne hg hh hr hc
  go_enter Tryz.func31, Tryz.ntmps31
  go_wp2_with fail
  go_returns
  exact ⟨rfl, X, Y, Kp.refl _ _⟩
theorem getV1_rg (l : List Int) (hr : rng l) (at_ : Nat) : 0 ≤ getV l at_ 1 ∧ getV l at_ 1 < 256 := by
  unfold getV
  by_cases h : at_ + 1 ≤ l.length
  · rw [if_pos h, numh_1 l at_ (by omega)]; exact rng_getD hr at_
  · rw [if_neg h]; omega
theorem twoA_le (n at_ : Nat) (s : Bool) : twoA n at_ s ≤ at_ + 2 := by unfold twoA; split <;> omega
def sgn8 (v : Int) : Int := if 128 ≤ v then v + 65280 else v
set_option maxRecDepth 100000 in
set_option maxHeartbeats 1000000 in
theorem beh_byte (n : Nat) (l : List Int) (r : RI) (at_ : Nat) (s : Bool) (hn : n ≤ 281474976710656) (ha : at_ ≤ 281474976710656) :
    BehSaid 1 n l r { r with sc := { r.sc with n := sgn8 (getV l at_ 1) } } at_ (at_ + 1) s (s || decide (n < at_ + 1)) true := by
  intro w g h B c A X Y hne hg hh hr hc
  have HO := Lib.hid (one_any A n c B at_ g s l w X hr hc hn (by omega))
  have hb := getV1_rg l hr.rg at_
  have HY := Lib.hid Y
  clear X Y hr
  unfold sgn8
  generalize getV l at_ 1 = x at HO hb ⊢
  by_cases hx : 128 ≤ x
  · rw [if_pos hx]
    have hw : IntKind.u16.wrap (x + 65280) = x + 65280 := IntWalk.u16_in _ (by omega)
    go_enter Tryz.func31, Tryz.ntmps31
    go_wp2_with fail
    refine HO.out.mono ?_
    rintro e w1 ⟨rfl, X1, K1⟩
    have Y1 := HY.out.kpn K1 hne
    have y4 : w1.cell? ⟨h, 4, none⟩ = some (.int .u16 r.sc.n) := Y1.cells10 4
    have f4 := Blk.froz Y1 4
    have HX1 := Lib.hid X1
    have HY1 := Lib.hid Y1
    have HK1 := Lib.hid K1
    clear X1 Y1 K1
    go_wp2_with fail
    go_returns
    exact ⟨rfl, HX1.out.setH 4 _ hne, HY1.out.set_n _, (HK1.out.not1).setH 4 _⟩
  · rw [if_neg hx]
    have hw : x % 65536 = x := Int.emod_eq_of_lt (by omega) (by omega)
    go_enter Tryz.func31, Tryz.ntmps31
    go_wp2_with fail
    refine HO.out.mono ?_
    rintro e w1 ⟨rfl, X1, K1⟩
    have Y1 := HY.out.kpn K1 hne
    have y4 : w1.cell? ⟨h, 4, none⟩ = some (.int .u16 r.sc.n) := Y1.cells10 4
    have f4 := Blk.froz Y1 4
    have HX1 := Lib.hid X1
    have HY1 := Lib.hid Y1
    have HK1 := Lib.hid K1
    clear X1 Y1 K1
    go_wp2_with fail
    go_returns
    exact ⟨rfl, HX1.out.setH 4 _ hne, HY1.out.set_n _, (HK1.out.not1).setH 4 _⟩
set_option maxRecDepth 100000 in
set_option maxHeartbeats 1000000 in
theorem beh_short (n : Nat) (l : List Int) (r : RI) (at_ : Nat) (s : Bool) (hn : n ≤ 281474976710656) (ha : at_ ≤ 281474976710656) :
    BehSaid 2 n l r { r with sc := { r.sc with n := (twoV l (at_) s) } } at_ (twoA n (at_) s) s (twoS n (at_) s) true := by
  intro w g h B c A X Y hne hg hh hr hc
  have hrg := hr.rg
  have K : Kp (Not2 g h) w w := Kp.refl _ _
  have HQ := Lib.hid hne
  have hb0 : at_ ≤ at_ + 0 := by
    omega
  have HO := Lib.hid (two_any A n c B (at_) g s l w X hr hc hn (by omega))
  have hv0 := twoV_rg l hrg (at_) s
  have HY := Lib.hid Y
  have HR := Lib.hid hr
  have HK := Lib.hid K
  clear X Y hr K
  go_enter Tryz.func31, Tryz.ntmps31
  obtain ⟨x0, hx0⟩ : ∃ x, twoV l (at_) s = x := ⟨_, rfl⟩
  rw [hx0] at HO hv0
  have HX0 := Lib.hid hx0
  clear hx0
  have hm0 : x0 % 65536 = x0 := Int.emod_eq_of_lt hv0.1 hv0.2
  go_wp2_with fail
  refine HO.out.mono ?_
  rintro e v0 ⟨rfl, X0, K0⟩
  have Y0 := HY.out.kpn K0 HQ.out
  have R0 := HR.out.kpn K0 hg
  have y100 : v0.cell? ⟨h, 4, none⟩ = some _ := Y0.cells10 4
  have f100 := Blk.froz Y0 4
  have Z0 := Lib.hid (X0.setH 4 (.int .u16 x0) HQ.out)
  have HY := Lib.hid (Y0.set_n x0)
  have HR := Lib.hid (R0.setH 4 (.int .u16 x0) hh)
  have HK := Lib.hid ((HK.out.trans K0.not1).setH 4 (.int .u16 x0))
  clear X0 K0 Y0 R0 HO
  go_wp2_with fail
  go_returns
  refine ⟨rfl, Z0.out, ?_, HK.out⟩
  rw [HX0.out]
  exact HY.out
set_option maxRecDepth 100000 in
set_option maxHeartbeats 1000000 in
theorem beh_local (n : Nat) (l : List Int) (r : RI) (at_ : Nat) (s : Bool) (hn : n ≤ 281474976710656) (ha : at_ ≤ 281474976710656) :
    BehSaid 3 n l r { r with sc := { r.sc with a := (getV l (at_) 1) } } at_ (at_ + 1) s (s || decide (n < at_ + 1)) true := by
  intro w g h B c A X Y hne hg hh hr hc
  have hrg := hr.rg
  have K : Kp (Not2 g h) w w := Kp.refl _ _
  have HQ := Lib.hid hne
  have hb0 : at_ ≤ at_ + 0 := by
    omega
  have HO := Lib.hid (one_any A n c B (at_) g s l w X hr hc hn (by omega))
  have hv0 := getV1_rg l hrg (at_)
  have HY := Lib.hid Y
  have HR := Lib.hid hr
  have HK := Lib.hid K
  clear X Y hr K
  go_enter Tryz.func31, Tryz.ntmps31
  obtain ⟨x0, hx0⟩ : ∃ x, getV l (at_) 1 = x := ⟨_, rfl⟩
  rw [hx0] at HO hv0
  have HX0 := Lib.hid hx0
  clear hx0
  go_wp2_with fail
  refine HO.out.mono ?_
  rintro e v0 ⟨rfl, X0, K0⟩
  have Y0 := HY.out.kpn K0 HQ.out
  have R0 := HR.out.kpn K0 hg
  have y100 : v0.cell? ⟨h, 2, none⟩ = some _ := Y0.cells10 2
  have f100 := Blk.froz Y0 2
  have Z0 := Lib.hid (X0.setH 2 (.int .i64 x0) HQ.out)
  have HY := Lib.hid (Y0.set_a x0)
  have HR := Lib.hid (R0.setH 2 (.int .i64 x0) hh)
  have HK := Lib.hid ((HK.out.trans K0.not1).setH 2 (.int .i64 x0))
  clear X0 K0 Y0 R0 HO
  go_wp2_with fail
  go_returns
  refine ⟨rfl, Z0.out, ?_, HK.out⟩
  rw [HX0.out]
  exact HY.out
set_option maxRecDepth 100000 in
set_option maxHeartbeats 1000000 in
theorem beh_jump (n : Nat) (l : List Int) (r : RI) (at_ : Nat) (s : Bool) (hn : n ≤ 281474976710656) (ha : at_ ≤ 281474976710656) (f0 : 0 ≤ r.sc.at_) (f1 : r.sc.at_ ≤ 281474976710656) :
    BehSaid 5 n l r { r with sc := { r.sc with jump := (r.sc.at_ + worth (twoV l (at_) s)) } } at_ (twoA n (at_) s) s (twoS n (at_) s) true := by
  intro w g h B c A X Y hne hg hh hr hc
  have hrg := hr.rg
  have K : Kp (Not2 g h) w w := Kp.refl _ _
  have HQ := Lib.hid hne
  have hb0 : at_ ≤ at_ + 0 := by
    omega
  have HO := Lib.hid (jump_any A n c B (at_) g r.sc.at_ s l w X hr hc hn (by omega) f0 f1)
  have HY := Lib.hid Y
  have HR := Lib.hid hr
  have HK := Lib.hid K
  clear X Y hr K
  have y0 : w.cell? ⟨h, 0, none⟩ = some (.int .i64 r.sc.at_) := HY.out.cells10 0
  go_enter Tryz.func31, Tryz.ntmps31
  obtain ⟨x0, hx0⟩ : ∃ x, r.sc.at_ + worth (twoV l (at_) s) = x := ⟨_, rfl⟩
  rw [hx0] at HO
  have HX0 := Lib.hid hx0
  clear hx0
  go_wp2_with fail
  refine HO.out.mono ?_
  rintro e v0 ⟨rfl, X0, K0⟩
  have Y0 := HY.out.kpn K0 HQ.out
  have R0 := HR.out.kpn K0 hg
  have y100 : v0.cell? ⟨h, 6, none⟩ = some _ := Y0.cells10 6
  have f100 := Blk.froz Y0 6
  have Z0 := Lib.hid (X0.setH 6 (.int .i64 x0) HQ.out)
  have HY := Lib.hid (Y0.set_jump x0)
  have HR := Lib.hid (R0.setH 6 (.int .i64 x0) hh)
  have HK := Lib.hid ((HK.out.trans K0.not1).setH 6 (.int .i64 x0))
  clear X0 K0 Y0 R0 HO
  go_wp2_with fail
  go_returns
  refine ⟨rfl, Z0.out, ?_, HK.out⟩
  rw [HX0.out]
  exact HY.out
set_option maxRecDepth 100000 in
set_option maxHeartbeats 1000000 in
theorem beh_pool (n : Nat) (l : List Int) (r : RI) (at_ : Nat) (s : Bool) (hn : n ≤ 281474976710656) (ha : at_ ≤ 281474976710656) :
    BehSaid 8 n l r { r with sc := { r.sc with pool := (twoV l (at_) s) } } at_ (twoA n (at_) s) s (twoS n (at_) s) true := by
  intro w g h B c A X Y hne hg hh hr hc
  have hrg := hr.rg
  have K : Kp (Not2 g h) w w := Kp.refl _ _
  have HQ := Lib.hid hne
  have hb0 : at_ ≤ at_ + 0 := by
    omega
  have HO := Lib.hid (two_any A n c B (at_) g s l w X hr hc hn (by omega))
  have hv0 := twoV_rg l hrg (at_) s
  have HY := Lib.hid Y
  have HR := Lib.hid hr
  have HK := Lib.hid K
  clear X Y hr K
  go_enter Tryz.func31, Tryz.ntmps31
  obtain ⟨x0, hx0⟩ : ∃ x, twoV l (at_) s = x := ⟨_, rfl⟩
  rw [hx0] at HO hv0
  have HX0 := Lib.hid hx0
  clear hx0
  go_wp2_with fail
  refine HO.out.mono ?_
  rintro e v0 ⟨rfl, X0, K0⟩
  have Y0 := HY.out.kpn K0 HQ.out
  have R0 := HR.out.kpn K0 hg
  have y100 : v0.cell? ⟨h, 5, none⟩ = some _ := Y0.cells10 5
  have f100 := Blk.froz Y0 5
  have Z0 := Lib.hid (X0.setH 5 (.int .i64 x0) HQ.out)
  have HY := Lib.hid (Y0.set_pool x0)
  have HR := Lib.hid (R0.setH 5 (.int .i64 x0) hh)
  have HK := Lib.hid ((HK.out.trans K0.not1).setH 5 (.int .i64 x0))
  clear X0 K0 Y0 R0 HO
  go_wp2_with fail
  go_returns
  refine ⟨rfl, Z0.out, ?_, HK.out⟩
  rw [HX0.out]
  exact HY.out
set_option maxRecDepth 100000 in
set_option maxHeartbeats 1000000 in
theorem beh_inc (n : Nat) (l : List Int) (r : RI) (at_ : Nat) (s : Bool) (hn : n ≤ 281474976710656) (ha : at_ ≤ 281474976710656) :
    BehSaid 4 n l r { r with sc := { { r.sc with a := (getV l (at_) 1) } with b := (getV l ((at_ + 1)) 1) } } at_ ((at_ + 1) + 1) s ((s || decide (n < at_ + 1)) || decide (n < (at_ + 1) + 1)) true := by
  intro w g h B c A X Y hne hg hh hr hc
  have hrg := hr.rg
  have K : Kp (Not2 g h) w w := Kp.refl _ _
  have HQ := Lib.hid hne
  have hb0 : at_ ≤ at_ + 0 := by
    omega
  have HO := Lib.hid (one_any A n c B (at_) g s l w X hr hc hn (by omega))
  have hv0 := getV1_rg l hrg (at_)
  have HY := Lib.hid Y
  have HR := Lib.hid hr
  have HK := Lib.hid K
  clear X Y hr K
  go_enter Tryz.func31, Tryz.ntmps31
  obtain ⟨x0, hx0⟩ : ∃ x, getV l (at_) 1 = x := ⟨_, rfl⟩
  rw [hx0] at HO hv0
  have HX0 := Lib.hid hx0
  clear hx0
  go_wp2_with fail
  refine HO.out.mono ?_
  rintro e v0 ⟨rfl, X0, K0⟩
  have Y0 := HY.out.kpn K0 HQ.out
  have R0 := HR.out.kpn K0 hg
  have y100 : v0.cell? ⟨h, 2, none⟩ = some _ := Y0.cells10 2
  have f100 := Blk.froz Y0 2
  have Z0 := Lib.hid (X0.setH 2 (.int .i64 x0) HQ.out)
  have HY := Lib.hid (Y0.set_a x0)
  have HR := Lib.hid (R0.setH 2 (.int .i64 x0) hh)
  have HK := Lib.hid ((HK.out.trans K0.not1).setH 2 (.int .i64 x0))
  clear X0 K0 Y0 R0 HO
  go_upto_region 13 with (fail)
  generalize v0.setCell ⟨h, 2, none⟩ (.int .i64 x0) = w1 at Z0 HY HR HK ⊢
  clear y100 f100
  have X := Z0.out
  have hr := HR.out
  have hb1 : (at_ + 1) ≤ at_ + 2 := by
    omega
  have HO := Lib.hid (one_any A n c B ((at_ + 1)) g (s || decide (n < at_ + 1)) l w1 X hr hc hn (by omega))
  have hv1 := getV1_rg l hrg ((at_ + 1))
  obtain ⟨x1, hx1⟩ : ∃ x, getV l ((at_ + 1)) 1 = x := ⟨_, rfl⟩
  rw [hx1] at HO hv1
  have HX1 := Lib.hid hx1
  clear hx1
  have hm1 : x1 % 256 = x1 := Int.emod_eq_of_lt hv1.1 hv1.2
  go_wp2_with fail
  refine HO.out.mono ?_
  rintro e v1 ⟨rfl, X1, K1⟩
  have Y1 := HY.out.kpn K1 HQ.out
  have R1 := HR.out.kpn K1 hg
  have y101 : v1.cell? ⟨h, 3, none⟩ = some _ := Y1.cells10 3
  have f101 := Blk.froz Y1 3
  have Z1 := Lib.hid (X1.setH 3 (.int .u8 x1) HQ.out)
  have HY := Lib.hid (Y1.set_b x1)
  have HR := Lib.hid (R1.setH 3 (.int .u8 x1) hh)
  have HK := Lib.hid ((HK.out.trans K1.not1).setH 3 (.int .u8 x1))
  clear X1 K1 Y1 R1 HO
  go_wp2_with fail
  go_returns
  refine ⟨rfl, Z1.out, ?_, HK.out⟩
  rw [HX0.out, HX1.out]
  exact HY.out
set_option maxRecDepth 100000 in
set_option maxHeartbeats 1000000 in
theorem beh_iface (n : Nat) (l : List Int) (r : RI) (at_ : Nat) (s : Bool) (hn : n ≤ 281474976710656) (ha : at_ ≤ 281474976710656) :
    BehSaid 9 n l r { r with sc := { { { r.sc with a := (getV l (at_) 1) } with pool := (twoV l ((at_ + 1)) (s || decide (n < at_ + 1))) } with b := (getV l ((twoA n ((at_ + 1)) (s || decide (n < at_ + 1)))) 1) } } at_ ((twoA n ((at_ + 1)) (s || decide (n < at_ + 1))) + 1) s ((twoS n ((at_ + 1)) (s || decide (n < at_ + 1))) || decide (n < (twoA n ((at_ + 1)) (s || decide (n < at_ + 1))) + 1)) true := by
  intro w g h B c A X Y hne hg hh hr hc
  have hrg := hr.rg
  have K : Kp (Not2 g h) w w := Kp.refl _ _
  have HQ := Lib.hid hne
  have hb0 : at_ ≤ at_ + 0 := by
    omega
  have HO := Lib.hid (one_any A n c B (at_) g s l w X hr hc hn (by omega))
  have hv0 := getV1_rg l hrg (at_)
  have HY := Lib.hid Y
  have HR := Lib.hid hr
  have HK := Lib.hid K
  clear X Y hr K
  go_enter Tryz.func31, Tryz.ntmps31
  obtain ⟨x0, hx0⟩ : ∃ x, getV l (at_) 1 = x := ⟨_, rfl⟩
  rw [hx0] at HO hv0
  have HX0 := Lib.hid hx0
  clear hx0
  go_wp2_with fail
  refine HO.out.mono ?_
  rintro e v0 ⟨rfl, X0, K0⟩
  have Y0 := HY.out.kpn K0 HQ.out
  have R0 := HR.out.kpn K0 hg
  have y100 : v0.cell? ⟨h, 2, none⟩ = some _ := Y0.cells10 2
  have f100 := Blk.froz Y0 2
  have Z0 := Lib.hid (X0.setH 2 (.int .i64 x0) HQ.out)
  have HY := Lib.hid (Y0.set_a x0)
  have HR := Lib.hid (R0.setH 2 (.int .i64 x0) hh)
  have HK := Lib.hid ((HK.out.trans K0.not1).setH 2 (.int .i64 x0))
  clear X0 K0 Y0 R0 HO
  go_upto_region 43 with (fail)
  generalize v0.setCell ⟨h, 2, none⟩ (.int .i64 x0) = w1 at Z0 HY HR HK ⊢
  clear y100 f100
  have X := Z0.out
  have hr := HR.out
  have hb1 : (at_ + 1) ≤ at_ + 2 := by
    omega
  have HO := Lib.hid (two_any A n c B ((at_ + 1)) g (s || decide (n < at_ + 1)) l w1 X hr hc hn (by omega))
  have hv1 := twoV_rg l hrg ((at_ + 1)) (s || decide (n < at_ + 1))
  obtain ⟨x1, hx1⟩ : ∃ x, twoV l ((at_ + 1)) (s || decide (n < at_ + 1)) = x := ⟨_, rfl⟩
  rw [hx1] at HO hv1
  have HX1 := Lib.hid hx1
  clear hx1
  go_wp2_with fail
  refine HO.out.mono ?_
  rintro e v1 ⟨rfl, X1, K1⟩
  have Y1 := HY.out.kpn K1 HQ.out
  have R1 := HR.out.kpn K1 hg
  have y101 : v1.cell? ⟨h, 5, none⟩ = some _ := Y1.cells10 5
  have f101 := Blk.froz Y1 5
  have Z1 := Lib.hid (X1.setH 5 (.int .i64 x1) HQ.out)
  have HY := Lib.hid (Y1.set_pool x1)
  have HR := Lib.hid (R1.setH 5 (.int .i64 x1) hh)
  have HK := Lib.hid ((HK.out.trans K1.not1).setH 5 (.int .i64 x1))
  clear X1 K1 Y1 R1 HO
  go_upto_region 44 with (fail)
  generalize v1.setCell ⟨h, 5, none⟩ (.int .i64 x1) = w2 at Z1 HY HR HK ⊢
  clear y101 f101
  have X := Z1.out
  have hr := HR.out
  have hb2 : (twoA n ((at_ + 1)) (s || decide (n < at_ + 1))) ≤ at_ + 4 := by
    have := twoA_le n ((at_ + 1)) (s || decide (n < at_ + 1)); omega
  have HO := Lib.hid (one_any A n c B ((twoA n ((at_ + 1)) (s || decide (n < at_ + 1)))) g (twoS n ((at_ + 1)) (s || decide (n < at_ + 1))) l w2 X hr hc hn (by omega))
  have hv2 := getV1_rg l hrg ((twoA n ((at_ + 1)) (s || decide (n < at_ + 1))))
  obtain ⟨x2, hx2⟩ : ∃ x, getV l ((twoA n ((at_ + 1)) (s || decide (n < at_ + 1)))) 1 = x := ⟨_, rfl⟩
  rw [hx2] at HO hv2
  have HX2 := Lib.hid hx2
  clear hx2
  have hm2 : x2 % 256 = x2 := Int.emod_eq_of_lt hv2.1 hv2.2
  go_wp2_with fail
  refine HO.out.mono ?_
  rintro e v2 ⟨rfl, X2, K2⟩
  have Y2 := HY.out.kpn K2 HQ.out
  have R2 := HR.out.kpn K2 hg
  have y102 : v2.cell? ⟨h, 3, none⟩ = some _ := Y2.cells10 3
  have f102 := Blk.froz Y2 3
  have Z2 := Lib.hid (X2.setH 3 (.int .u8 x2) HQ.out)
  have HY := Lib.hid (Y2.set_b x2)
  have HR := Lib.hid (R2.setH 3 (.int .u8 x2) hh)
  have HK := Lib.hid ((HK.out.trans K2.not1).setH 3 (.int .u8 x2))
  clear X2 K2 Y2 R2 HO
  go_wp2_with fail
  go_returns
  refine ⟨rfl, Z2.out, ?_, HK.out⟩
  rw [HX0.out, HX1.out, HX2.out]
  exact HY.out

end Go.Proofs.YtolifmpkillglaaGreatDoor
