import Derived.Test.YtolifmpkillglaaGreatDoorHd
set_option linter.unusedVariables false
set_option maxRecDepth 100000
namespace Go.Proofs.YtolifmpkillglaaGreatDoor
open Go.RowKit
/-! What stands behind: Kinds. -/
set_option maxRecDepth 100000 in
set_option maxHeartbeats 1000000 in
theorem beh_kind (n : Nat) (l : List Int) (r : RI) (at_ : Nat) (s : Bool) (hn : n ≤ 281474976710656) (ha : at_ ≤ 281474976710656) :
    BehSaid 10 n l r { r with sc := { r.sc with a := (getV l (at_) 1) } } at_ (at_ + 1) s (s || decide (n < at_ + 1)) ((s || decide (n < at_ + 1)) || decide (4 ≤ (getV l (at_) 1)) && decide ((getV l (at_) 1) ≤ 6)) := by
  intro w g h B c A X Y hne hg hh hr hc
  have hrg := hr.rg
  have K : Kp (Not2 g h) w w := Kp.refl _ _
  have HQ := Lib.hid hne
  have hb0 : at_ ≤ at_ + 0 := by
    omega
  have HO := Lib.hid (one_any A n c B (at_) g s l w X hr hc hn (by omega))
  have hv0 := getV1_rg l hrg (at_)
  have HY := Lib.hid Y
  have HR := Lib.hid hr
  have HK := Lib.hid K
  clear X Y hr K
  go_enter Tryz.func31, Tryz.ntmps31
  obtain ⟨x0, hx0⟩ : ∃ x, getV l (at_) 1 = x := ⟨_, rfl⟩
  rw [hx0] at HO hv0
  have HX0 := Lib.hid hx0
  clear hx0
  go_wp2_with fail
  refine HO.out.mono ?_
  rintro e v0 ⟨rfl, X0, K0⟩
  have Y0 := HY.out.kpn K0 HQ.out
  have R0 := HR.out.kpn K0 hg
  have y100 : v0.cell? ⟨h, 2, none⟩ = some _ := Y0.cells10 2
  have f100 := Blk.froz Y0 2
  have Z0 := Lib.hid (X0.setH 2 (.int .i64 x0) HQ.out)
  have HY := Lib.hid (Y0.set_a x0)
  have HR := Lib.hid (R0.setH 2 (.int .i64 x0) hh)
  have HK := Lib.hid ((HK.out.trans K0.not1).setH 2 (.int .i64 x0))
  clear X0 K0 Y0 R0 HO
  go_upto_region 47 with (fail)
  generalize v0.setCell ⟨h, 2, none⟩ (.int .i64 x0) = w9 at Z0 HY HR HK ⊢
  clear y100 f100
  obtain ⟨sb, hsb⟩ : ∃ b : Bool, (s || decide (n < at_ + 1)) = b := ⟨_, rfl⟩
  have HSB := Lib.hid hsb
  rw [hsb] at Z0
  clear hsb
  have u2 : w9.cell? ⟨g, 2, none⟩ = some (.bool sb) := Blk.cell Z0.out 2
  have t2 : w9.cell? ⟨h, 2, none⟩ = some (.int .i64 x0) := HY.out.cells10 2
  have p4 : decide (4 ≤ x0) = true ∨ decide (4 ≤ x0) = false := by cases decide (4 ≤ x0) <;> simp
  have p6 : decide (x0 ≤ 6) = true ∨ decide (x0 ≤ 6) = false := by cases decide (x0 ≤ 6) <;> simp
  cases sb <;> rcases p4 with p4 | p4 <;> rcases p6 with p6 | p6
  all_goals
      have P4 := Lib.hid p4
      have P6 := Lib.hid p6
      go_wp2_with fail
      go_returns
      refine ⟨?_, by rw [HSB.out]; exact Z0.out, by rw [HX0.out]; exact HY.out, HK.out⟩
      rw [HSB.out, HX0.out]
      simp only [P4.out, P6.out]
      rfl
set_option maxRecDepth 100000 in
set_option maxHeartbeats 1000000 in
theorem beh_cast (n : Nat) (l : List Int) (r : RI) (at_ : Nat) (s : Bool) (hn : n ≤ 281474976710656) (ha : at_ ≤ 281474976710656) :
    BehSaid 11 n l r { r with sc := { { r.sc with a := (getV l (at_) 1) } with pool := (twoV l ((at_ + 1)) (s || decide (n < at_ + 1))) } } at_ (twoA n ((at_ + 1)) (s || decide (n < at_ + 1))) s (twoS n ((at_ + 1)) (s || decide (n < at_ + 1))) ((twoS n ((at_ + 1)) (s || decide (n < at_ + 1))) || ((getV l (at_) 1) == 0 || (getV l (at_) 1) == 7 || decide (4 ≤ (getV l (at_) 1)) && decide ((getV l (at_) 1) ≤ 6) && (twoV l ((at_ + 1)) (s || decide (n < at_ + 1))) == 0)) := by
  intro w g h B c A X Y hne hg hh hr hc
  have hrg := hr.rg
  have K : Kp (Not2 g h) w w := Kp.refl _ _
  have HQ := Lib.hid hne
  have hb0 : at_ ≤ at_ + 0 := by
    omega
  have HO := Lib.hid (one_any A n c B (at_) g s l w X hr hc hn (by omega))
  have hv0 := getV1_rg l hrg (at_)
  have HY := Lib.hid Y
  have HR := Lib.hid hr
  have HK := Lib.hid K
  clear X Y hr K
  go_enter Tryz.func31, Tryz.ntmps31
  obtain ⟨x0, hx0⟩ : ∃ x, getV l (at_) 1 = x := ⟨_, rfl⟩
  rw [hx0] at HO hv0
  have HX0 := Lib.hid hx0
  clear hx0
  go_wp2_with fail
  refine HO.out.mono ?_
  rintro e v0 ⟨rfl, X0, K0⟩
  have Y0 := HY.out.kpn K0 HQ.out
  have R0 := HR.out.kpn K0 hg
  have y100 : v0.cell? ⟨h, 2, none⟩ = some _ := Y0.cells10 2
  have f100 := Blk.froz Y0 2
  have Z0 := Lib.hid (X0.setH 2 (.int .i64 x0) HQ.out)
  have HY := Lib.hid (Y0.set_a x0)
  have HR := Lib.hid (R0.setH 2 (.int .i64 x0) hh)
  have HK := Lib.hid ((HK.out.trans K0.not1).setH 2 (.int .i64 x0))
  clear X0 K0 Y0 R0 HO
  go_upto_region 50 with (fail)
  generalize v0.setCell ⟨h, 2, none⟩ (.int .i64 x0) = w1 at Z0 HY HR HK ⊢
  clear y100 f100
  have X := Z0.out
  have hr := HR.out
  have hb1 : (at_ + 1) ≤ at_ + 2 := by
    omega
  have HO := Lib.hid (two_any A n c B ((at_ + 1)) g (s || decide (n < at_ + 1)) l w1 X hr hc hn (by omega))
  have hv1 := twoV_rg l hrg ((at_ + 1)) (s || decide (n < at_ + 1))
  obtain ⟨x1, hx1⟩ : ∃ x, twoV l ((at_ + 1)) (s || decide (n < at_ + 1)) = x := ⟨_, rfl⟩
  rw [hx1] at HO hv1
  have HX1 := Lib.hid hx1
  clear hx1
  go_wp2_with fail
  refine HO.out.mono ?_
  rintro e v1 ⟨rfl, X1, K1⟩
  have Y1 := HY.out.kpn K1 HQ.out
  have R1 := HR.out.kpn K1 hg
  have y101 : v1.cell? ⟨h, 5, none⟩ = some _ := Y1.cells10 5
  have f101 := Blk.froz Y1 5
  have Z1 := Lib.hid (X1.setH 5 (.int .i64 x1) HQ.out)
  have HY := Lib.hid (Y1.set_pool x1)
  have HR := Lib.hid (R1.setH 5 (.int .i64 x1) hh)
  have HK := Lib.hid ((HK.out.trans K1.not1).setH 5 (.int .i64 x1))
  clear X1 K1 Y1 R1 HO
  go_upto_region 51 with (fail)
  generalize v1.setCell ⟨h, 5, none⟩ (.int .i64 x1) = w9 at Z1 HY HR HK ⊢
  clear y101 f101
  obtain ⟨sb, hsb⟩ : ∃ b : Bool, (twoS n ((at_ + 1)) (s || decide (n < at_ + 1))) = b := ⟨_, rfl⟩
  have HSB := Lib.hid hsb
  rw [hsb] at Z1
  clear hsb
  have u2 : w9.cell? ⟨g, 2, none⟩ = some (.bool sb) := Blk.cell Z1.out 2
  have t2 : w9.cell? ⟨h, 2, none⟩ = some (.int .i64 x0) := HY.out.cells10 2
  have t5 : w9.cell? ⟨h, 5, none⟩ = some (.int .i64 x1) := HY.out.cells10 5
  have p0 : (x0 == 0) = true ∨ (x0 == 0) = false := by cases (x0 == 0) <;> simp
  have p7 : (x0 == 7) = true ∨ (x0 == 7) = false := by cases (x0 == 7) <;> simp
  have p4 : decide (4 ≤ x0) = true ∨ decide (4 ≤ x0) = false := by cases decide (4 ≤ x0) <;> simp
  have p6 : decide (x0 ≤ 6) = true ∨ decide (x0 ≤ 6) = false := by cases decide (x0 ≤ 6) <;> simp
  have p5 : (x1 == 0) = true ∨ (x1 == 0) = false := by cases (x1 == 0) <;> simp
  cases sb <;> rcases p0 with p0 | p0 <;> rcases p7 with p7 | p7 <;> rcases p4 with p4 | p4 <;> rcases p6 with p6 | p6 <;> rcases p5 with p5 | p5
  all_goals
      have P0 := Lib.hid p0
      have P7 := Lib.hid p7
      have P4 := Lib.hid p4
      have P6 := Lib.hid p6
      have P5 := Lib.hid p5
      go_wp2_with fail
      go_returns
      refine ⟨?_, by rw [HSB.out]; exact Z1.out, by rw [HX0.out, HX1.out]; exact HY.out, HK.out⟩
      rw [HSB.out, HX0.out, HX1.out]
      simp only [P0.out, P7.out, P4.out, P6.out, P5.out]
      rfl

end Go.Proofs.YtolifmpkillglaaGreatDoor
