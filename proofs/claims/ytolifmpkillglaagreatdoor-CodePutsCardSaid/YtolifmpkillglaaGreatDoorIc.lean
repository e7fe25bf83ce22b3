import Derived.Test.YtolifmpkillglaaGreatDoorIb
set_option linter.unusedVariables false
set_option maxRecDepth 100000
namespace Go.Proofs.YtolifmpkillglaaGreatDoor
open Go.RowKit
/-! What stands ahead of a switch's rows: the fields that the code's tail fills. -/
theorem getD_drop (b : List Int) (p i : Nat) : (b.drop p).getD i 0 = b.getD (p + i) 0 := by
  rw [List.getD_eq_getElem?_getD, List.getD_eq_getElem?_getD, List.getElem?_drop]
theorem wd_drop (b : List Int) (p : Nat) : wd (b.drop p) 0 = wd b p := by
  unfold wd
  rw [getD_drop, getD_drop]
  rfl
theorem takeb_at (t : Nat) (S : Nat → Prop) (b : List Int) (f : Int) (p : Nat) (w : World) (h : p + 1 ≤ b.length) (X : TL w t S (b.drop p) f) :
    Calls Tryz.prog 67 #[.pointer (some ⟨t, 0, none⟩)] w fun e w' => e = .returned (.int .u8 (b.getD p 0)) ∧ TL w' t S (b.drop (p + 1)) f ∧ Kp (Not1 t) w w' := by
  have := takeb_any t S (b.drop p) f w (by rw [List.length_drop]; omega) X
  rwa [getD_drop, List.drop_drop] at this
theorem takew_at (t : Nat) (S : Nat → Prop) (b : List Int) (f : Int) (p : Nat) (w : World) (h : p + 2 ≤ b.length) (X : TL w t S (b.drop p) f) :
    Calls Tryz.prog 68 #[.pointer (some ⟨t, 0, none⟩)] w fun e w' => e = .returned (.int .u16 (wd b p)) ∧ TL w' t S (b.drop (p + 2)) f ∧ Kp (Not1 t) w w' := by
  have := takew_any t S (b.drop p) f w (by rw [List.length_drop]; omega) X
  rwa [wd_drop, List.drop_drop] at this
theorem takej_at (t : Nat) (S : Nat → Prop) (b : List Int) (f : Int) (p : Nat) (w : World) (h : p + 2 ≤ b.length) (X : TL w t S (b.drop p) f) (f0 : 0 ≤ f) (f1 : f ≤ 281474976710656) :
    Calls Tryz.prog 69 #[.pointer (some ⟨t, 0, none⟩)] w fun e w' => e = .returned (.int .i64 (f + worth (wd b p))) ∧ TL w' t S (b.drop (p + 2)) f ∧ Kp (Not1 t) w w' := by
  have := takej_any t S (b.drop p) f w (by rw [List.length_drop]; omega) X f0 f1
  rwa [wd_drop, List.drop_drop] at this
set_option maxHeartbeats 1000000 in
theorem fh_0 (t h : Nat) (S : Nat → Prop) (b : List Int) (f : Int) (r : RI) (w : World) (hb : b.length = 0) (X : TL w t S b f) (Y : BX w h r) (hne : t ≠ h) (hh : ¬ S h) (f0 : 0 ≤ f) (f1 : f ≤ 281474976710656) :
    Calls Tryz.prog 57 #[.pointer (some ⟨t, 0, none⟩), .pointer (some ⟨h, 0, none⟩), .int .u8 0] w fun e w' => e = .returned (.int .i64 0) ∧ (∃ b', TL w' t S b' f) ∧ BX w' h { r with sc := r.sc } ∧ Kp (Not2 t h) w w' := by
  have hrg := X.rg
  have HQ := Lib.hid hne
  have HQ2 := Lib.hid hne.symm
  have X : TL w t S (b.drop 0) f := by simpa using X
  have HX := Lib.hid X
  have HY := Lib.hid Y
  have HK := Lib.hid (Kp.refl (Not2 t h) w)
  clear X Y hrg
  go_enter Tryz.func57, Tryz.ntmps57
  go_wp2_with fail
  go_returns
  exact ⟨rfl, ⟨_, HX.out⟩, HY.out, HK.out⟩
set_option maxHeartbeats 1000000 in
theorem fh_1 (t h : Nat) (S : Nat → Prop) (b : List Int) (f : Int) (r : RI) (w : World) (hb : b.length = 1) (X : TL w t S b f) (Y : BX w h r) (hne : t ≠ h) (hh : ¬ S h) (f0 : 0 ≤ f) (f1 : f ≤ 281474976710656) :
    Calls Tryz.prog 57 #[.pointer (some ⟨t, 0, none⟩), .pointer (some ⟨h, 0, none⟩), .int .u8 1] w fun e w' => e = .returned (.int .i64 0) ∧ (∃ b', TL w' t S b' f) ∧ BX w' h { r with sc := { r.sc with n := sgn8 (b.getD 0 0) } } ∧ Kp (Not2 t h) w w' := by
  have hrg := X.rg
  have HQ := Lib.hid hne
  have HQ2 := Lib.hid hne.symm
  have X : TL w t S (b.drop 0) f := by simpa using X
  have HC0 := Lib.hid (fun W X => takeb_at t S b f 0 W (by omega) X)
  have hv0 := rng_getD hrg 0
  generalize b.getD 0 0 = x0 at HC0 hv0 ⊢
  have HX := Lib.hid X
  have HY := Lib.hid Y
  have HK := Lib.hid (Kp.refl (Not2 t h) w)
  clear X Y hrg
  by_cases hx : 128 ≤ x0
  · have c1 : IntKind.i8.wrap x0 = x0 - 256 := by
      unfold IntKind.wrap
      simp only [IntKind.bits, IntKind.signed]
      simp
      split <;> omega
    have c2 : IntKind.u16.wrap (x0 - 256) = x0 + 65280 := by
      unfold IntKind.wrap
      simp only [IntKind.bits, IntKind.signed]
      simp
      omega
    have c3 : (x0 - 256) % 65536 = x0 + 65280 := by omega
    have c0 : sgn8 x0 = x0 + 65280 := by unfold sgn8; rw [if_pos hx]
    rw [c0]
    clear c0
    go_enter Tryz.func57, Tryz.ntmps57
    go_wp2_with fail
    refine (HC0.out _ HX.out).mono ?_
    rintro e v0 ⟨rfl, X1, K1⟩
    have HY := Lib.hid (HY.out.kpn K1 HQ.out)
    have HK := Lib.hid (HK.out.trans K1.not1)
    have HX := Lib.hid X1
    clear X1 K1
    have y4 : v0.cell? ⟨h, 4, none⟩ = some _ := HY.out.cells10 4
    have g4 := Blk.froz HY.out 4
    go_wp2_with fail
    go_returns
    exact ⟨rfl, ⟨_, HX.out.other ⟨h, 4, none⟩ _ hh HQ2.out⟩, HY.out.set_n _, HK.out.setH 4 _⟩
  · have c1 : IntKind.i8.wrap x0 = x0 := IntWalk.i8_in _ (by omega)
    have c2 : IntKind.u16.wrap x0 = x0 := IntWalk.u16_in _ (by omega)
    have c3 : x0 % 65536 = x0 := by omega
    have c0 : sgn8 x0 = x0 := by unfold sgn8; rw [if_neg hx]
    rw [c0]
    clear c0
    go_enter Tryz.func57, Tryz.ntmps57
    go_wp2_with fail
    refine (HC0.out _ HX.out).mono ?_
    rintro e v0 ⟨rfl, X1, K1⟩
    have HY := Lib.hid (HY.out.kpn K1 HQ.out)
    have HK := Lib.hid (HK.out.trans K1.not1)
    have HX := Lib.hid X1
    clear X1 K1
    have y4 : v0.cell? ⟨h, 4, none⟩ = some _ := HY.out.cells10 4
    have g4 := Blk.froz HY.out 4
    go_wp2_with fail
    go_returns
    exact ⟨rfl, ⟨_, HX.out.other ⟨h, 4, none⟩ _ hh HQ2.out⟩, HY.out.set_n _, HK.out.setH 4 _⟩
set_option maxHeartbeats 1000000 in
theorem fh_2 (t h : Nat) (S : Nat → Prop) (b : List Int) (f : Int) (r : RI) (w : World) (hb : b.length = 2) (X : TL w t S b f) (Y : BX w h r) (hne : t ≠ h) (hh : ¬ S h) (f0 : 0 ≤ f) (f1 : f ≤ 281474976710656) :
    Calls Tryz.prog 57 #[.pointer (some ⟨t, 0, none⟩), .pointer (some ⟨h, 0, none⟩), .int .u8 2] w fun e w' => e = .returned (.int .i64 0) ∧ (∃ b', TL w' t S b' f) ∧ BX w' h { r with sc := { r.sc with n := (wd b 0) } } ∧ Kp (Not2 t h) w w' := by
  have hrg := X.rg
  have HQ := Lib.hid hne
  have HQ2 := Lib.hid hne.symm
  have X : TL w t S (b.drop 0) f := by simpa using X
  have HC0 := Lib.hid (fun W X => takew_at t S b f 0 W (by omega) X)
  have hv0 := wd_rg b hrg 0
  generalize wd b 0 = x0 at HC0 hv0 ⊢
  have HX := Lib.hid X
  have HY := Lib.hid Y
  have HK := Lib.hid (Kp.refl (Not2 t h) w)
  clear X Y hrg
  go_enter Tryz.func57, Tryz.ntmps57
  go_wp2_with fail
  refine (HC0.out _ HX.out).mono ?_
  rintro e v0 ⟨rfl, X1, K1⟩
  have HY := Lib.hid (HY.out.kpn K1 HQ.out)
  have HK := Lib.hid (HK.out.trans K1.not1)
  have HX := Lib.hid X1
  clear X1 K1
  have y4 : v0.cell? ⟨h, 4, none⟩ = some _ := HY.out.cells10 4
  have g4 := Blk.froz HY.out 4
  go_wp2_with fail
  go_returns
  exact ⟨rfl, ⟨_, (HX.out.other ⟨h, 4, none⟩ (.int .u16 x0) hh HQ2.out)⟩, (HY.out.set_n x0), (HK.out.setH 4 (.int .u16 x0))⟩
set_option maxHeartbeats 1000000 in
theorem fh_3 (t h : Nat) (S : Nat → Prop) (b : List Int) (f : Int) (r : RI) (w : World) (hb : b.length = 1) (X : TL w t S b f) (Y : BX w h r) (hne : t ≠ h) (hh : ¬ S h) (f0 : 0 ≤ f) (f1 : f ≤ 281474976710656) :
    Calls Tryz.prog 57 #[.pointer (some ⟨t, 0, none⟩), .pointer (some ⟨h, 0, none⟩), .int .u8 3] w fun e w' => e = .returned (.int .i64 0) ∧ (∃ b', TL w' t S b' f) ∧ BX w' h { r with sc := { r.sc with a := (b.getD 0 0) } } ∧ Kp (Not2 t h) w w' := by
  have hrg := X.rg
  have HQ := Lib.hid hne
  have HQ2 := Lib.hid hne.symm
  have X : TL w t S (b.drop 0) f := by simpa using X
  have HC0 := Lib.hid (fun W X => takeb_at t S b f 0 W (by omega) X)
  have hv0 := rng_getD hrg 0
  generalize b.getD 0 0 = x0 at HC0 hv0 ⊢
  have HX := Lib.hid X
  have HY := Lib.hid Y
  have HK := Lib.hid (Kp.refl (Not2 t h) w)
  clear X Y hrg
  go_enter Tryz.func57, Tryz.ntmps57
  go_wp2_with fail
  refine (HC0.out _ HX.out).mono ?_
  rintro e v0 ⟨rfl, X1, K1⟩
  have HY := Lib.hid (HY.out.kpn K1 HQ.out)
  have HK := Lib.hid (HK.out.trans K1.not1)
  have HX := Lib.hid X1
  clear X1 K1
  have y2 : v0.cell? ⟨h, 2, none⟩ = some _ := HY.out.cells10 2
  have g2 := Blk.froz HY.out 2
  go_wp2_with fail
  go_returns
  exact ⟨rfl, ⟨_, (HX.out.other ⟨h, 2, none⟩ (.int .i64 x0) hh HQ2.out)⟩, (HY.out.set_a x0), (HK.out.setH 2 (.int .i64 x0))⟩
set_option maxHeartbeats 1000000 in
theorem fh_4 (t h : Nat) (S : Nat → Prop) (b : List Int) (f : Int) (r : RI) (w : World) (hb : b.length = 2) (X : TL w t S b f) (Y : BX w h r) (hne : t ≠ h) (hh : ¬ S h) (f0 : 0 ≤ f) (f1 : f ≤ 281474976710656) :
    Calls Tryz.prog 57 #[.pointer (some ⟨t, 0, none⟩), .pointer (some ⟨h, 0, none⟩), .int .u8 4] w fun e w' => e = .returned (.int .i64 0) ∧ (∃ b', TL w' t S b' f) ∧ BX w' h { r with sc := { { r.sc with a := (b.getD 0 0) } with b := (b.getD 1 0) } } ∧ Kp (Not2 t h) w w' := by
  have hrg := X.rg
  have HQ := Lib.hid hne
  have HQ2 := Lib.hid hne.symm
  have X : TL w t S (b.drop 0) f := by simpa using X
  have HC0 := Lib.hid (fun W X => takeb_at t S b f 0 W (by omega) X)
  have hv0 := rng_getD hrg 0
  have HC1 := Lib.hid (fun W X => takeb_at t S b f 1 W (by omega) X)
  have hv1 := rng_getD hrg 1
  generalize b.getD 0 0 = x0 at HC0 hv0 ⊢
  generalize b.getD 1 0 = x1 at HC1 hv1 ⊢
  have HX := Lib.hid X
  have HY := Lib.hid Y
  have HK := Lib.hid (Kp.refl (Not2 t h) w)
  clear X Y hrg
  go_enter Tryz.func57, Tryz.ntmps57
  go_wp2_with fail
  refine (HC0.out _ HX.out).mono ?_
  rintro e v0 ⟨rfl, X1, K1⟩
  have HY := Lib.hid (HY.out.kpn K1 HQ.out)
  have HK := Lib.hid (HK.out.trans K1.not1)
  have HX := Lib.hid X1
  clear X1 K1
  go_wp2_with fail
  refine (HC1.out _ HX.out).mono ?_
  rintro e v1 ⟨rfl, X1, K1⟩
  have HY := Lib.hid (HY.out.kpn K1 HQ.out)
  have HK := Lib.hid (HK.out.trans K1.not1)
  have HX := Lib.hid X1
  clear X1 K1
  have y2 : v1.cell? ⟨h, 2, none⟩ = some _ := HY.out.cells10 2
  have g2 := Blk.froz HY.out 2
  have y3 : v1.cell? ⟨h, 3, none⟩ = some _ := HY.out.cells10 3
  have g3 := Blk.froz HY.out 3
  go_wp2_with fail
  go_returns
  exact ⟨rfl, ⟨_, ((HX.out.other ⟨h, 2, none⟩ (.int .i64 x0) hh HQ2.out).other ⟨h, 3, none⟩ (.int .u8 x1) hh HQ2.out)⟩, ((HY.out.set_a x0).set_b x1), ((HK.out.setH 2 (.int .i64 x0)).setH 3 (.int .u8 x1))⟩
set_option maxHeartbeats 1000000 in
theorem fh_5 (t h : Nat) (S : Nat → Prop) (b : List Int) (f : Int) (r : RI) (w : World) (hb : b.length = 2) (X : TL w t S b f) (Y : BX w h r) (hne : t ≠ h) (hh : ¬ S h) (f0 : 0 ≤ f) (f1 : f ≤ 281474976710656) :
    Calls Tryz.prog 57 #[.pointer (some ⟨t, 0, none⟩), .pointer (some ⟨h, 0, none⟩), .int .u8 5] w fun e w' => e = .returned (.int .i64 0) ∧ (∃ b', TL w' t S b' f) ∧ BX w' h { r with sc := { r.sc with jump := (f + worth (wd b 0)) } } ∧ Kp (Not2 t h) w w' := by
  have hrg := X.rg
  have HQ := Lib.hid hne
  have HQ2 := Lib.hid hne.symm
  have X : TL w t S (b.drop 0) f := by simpa using X
  have HC0 := Lib.hid (fun W X => takej_at t S b f 0 W (by omega) X f0 f1)
  generalize f + worth (wd b 0) = x0 at HC0 ⊢
  have HX := Lib.hid X
  have HY := Lib.hid Y
  have HK := Lib.hid (Kp.refl (Not2 t h) w)
  clear X Y hrg
  go_enter Tryz.func57, Tryz.ntmps57
  go_wp2_with fail
  refine (HC0.out _ HX.out).mono ?_
  rintro e v0 ⟨rfl, X1, K1⟩
  have HY := Lib.hid (HY.out.kpn K1 HQ.out)
  have HK := Lib.hid (HK.out.trans K1.not1)
  have HX := Lib.hid X1
  clear X1 K1
  have y6 : v0.cell? ⟨h, 6, none⟩ = some _ := HY.out.cells10 6
  have g6 := Blk.froz HY.out 6
  go_wp2_with fail
  go_returns
  exact ⟨rfl, ⟨_, (HX.out.other ⟨h, 6, none⟩ (.int .i64 x0) hh HQ2.out)⟩, (HY.out.set_jump x0), (HK.out.setH 6 (.int .i64 x0))⟩
set_option maxHeartbeats 1000000 in
theorem fh_6 (t h : Nat) (S : Nat → Prop) (b : List Int) (f : Int) (r : RI) (w : World) (hb : b.length = 6) (X : TL w t S b f) (Y : BX w h r) (hne : t ≠ h) (hh : ¬ S h) (f0 : 0 ≤ f) (f1 : f ≤ 281474976710656) :
    Calls Tryz.prog 57 #[.pointer (some ⟨t, 0, none⟩), .pointer (some ⟨h, 0, none⟩), .int .u8 6] w fun e w' => e = .returned (.int .i64 (rowsT (wd b 2) (wd b 4))) ∧ (∃ b', TL w' t S b' f) ∧ BX w' h { r with sc := { { r.sc with jump := (f + worth (wd b 0)) } with low := (wd b 2) } } ∧ Kp (Not2 t h) w w' := by
  have hrg := X.rg
  have HQ := Lib.hid hne
  have HQ2 := Lib.hid hne.symm
  have X : TL w t S (b.drop 0) f := by simpa using X
  have HC0 := Lib.hid (fun W X => takej_at t S b f 0 W (by omega) X f0 f1)
  have HC1 := Lib.hid (fun W X => takew_at t S b f 2 W (by omega) X)
  have hv1 := wd_rg b hrg 2
  have HC2 := Lib.hid (fun W X => takew_at t S b f 4 W (by omega) X)
  have hv2 := wd_rg b hrg 4
  generalize f + worth (wd b 0) = x0 at HC0 ⊢
  generalize wd b 2 = x1 at HC1 hv1 ⊢
  generalize wd b 4 = x2 at HC2 hv2 ⊢
  have HX := Lib.hid X
  have HY := Lib.hid Y
  have HK := Lib.hid (Kp.refl (Not2 t h) w)
  clear X Y hrg
  go_enter Tryz.func57, Tryz.ntmps57
  go_wp2_with fail
  refine (HC0.out _ HX.out).mono ?_
  rintro e v0 ⟨rfl, X1, K1⟩
  have HY := Lib.hid (HY.out.kpn K1 HQ.out)
  have HK := Lib.hid (HK.out.trans K1.not1)
  have HX := Lib.hid X1
  clear X1 K1
  go_wp2_with fail
  refine (HC1.out _ HX.out).mono ?_
  rintro e v1 ⟨rfl, X1, K1⟩
  have HY := Lib.hid (HY.out.kpn K1 HQ.out)
  have HK := Lib.hid (HK.out.trans K1.not1)
  have HX := Lib.hid X1
  clear X1 K1
  have y6 : v1.cell? ⟨h, 6, none⟩ = some _ := HY.out.cells10 6
  have g6 := Blk.froz HY.out 6
  have y9 : v1.cell? ⟨h, 9, none⟩ = some _ := HY.out.cells10 9
  have g9 := Blk.froz HY.out 9
  go_upto_region 19 with (fail)
  have HX := Lib.hid ((HX.out.other ⟨h, 6, none⟩ (.int .i64 x0) hh HQ2.out).other ⟨h, 9, none⟩ (.int .u16 x1) hh HQ2.out)
  have HY := Lib.hid ((HY.out.set_jump x0).set_low x1)
  have HK := Lib.hid ((HK.out.setH 6 (.int .i64 x0)).setH 9 (.int .u16 x1))
  clear y6 g6 y9 g9
  generalize (v1.setCell ⟨h, 6, none⟩ (.int .i64 x0)).setCell ⟨h, 9, none⟩ (.int .u16 x1) = u0 at HX HY HK ⊢
  have HRT := Lib.hid (fun W => rowsTo_any x1 x2 W hv1.1 hv1.2 hv2.1 hv2.2)
  obtain ⟨rt, hrt⟩ : ∃ x, rowsT x1 x2 = x := ⟨_, rfl⟩
  rw [hrt] at HRT
  have HE := Lib.hid hrt
  clear hrt
  have HX : Hid (TL u0.drew t S (b.drop 4) f) := Lib.hid (HX.out.drewN 1)
  have z9 : u0.cell? ⟨h, 9, none⟩ = some (.int .u16 x1) := HY.out.cells10 9
  go_region_law (first
    | (go_simp; go_at_call 68; refine (HC2.out u0.drew HX.out).mono ?_; rintro e w1 ⟨rfl, X1, K1⟩; have K1 := ((Kp.refl (Not1 t) u0).drew).trans K1; have Y1 := HY.out.kpn K1 HQ.out; have y19 : w1.cell? ⟨h, 9, none⟩ = some (.int .u16 x1) := Y1.cells10 9)
    | (go_simp; go_at_call 70; refine (HRT.out _).mono ?_; rintro e w2 ⟨rfl, q, hw⟩; obtain rfl := hw.symm))
  all_goals
    have HK := Lib.hid (HK.out.trans K1.not1)
    have HX := Lib.hid X1
    have HY := Lib.hid Y1
    clear X1 K1 Y1
    go_wp2_with fail
    go_returns
    exact ⟨by rw [HE.out]; rfl, ⟨_, HX.out.drewN _⟩, HY.out, HK.out.drewN _⟩
set_option maxHeartbeats 1000000 in
theorem fh_7 (t h : Nat) (S : Nat → Prop) (b : List Int) (f : Int) (r : RI) (w : World) (hb : b.length = 4) (X : TL w t S b f) (Y : BX w h r) (hne : t ≠ h) (hh : ¬ S h) (f0 : 0 ≤ f) (f1 : f ≤ 281474976710656) :
    Calls Tryz.prog 57 #[.pointer (some ⟨t, 0, none⟩), .pointer (some ⟨h, 0, none⟩), .int .u8 7] w fun e w' => e = .returned (.int .i64 (wd b 2)) ∧ (∃ b', TL w' t S b' f) ∧ BX w' h { r with sc := { r.sc with jump := (f + worth (wd b 0)) } } ∧ Kp (Not2 t h) w w' := by
  have hrg := X.rg
  have HQ := Lib.hid hne
  have HQ2 := Lib.hid hne.symm
  have X : TL w t S (b.drop 0) f := by simpa using X
  have HC0 := Lib.hid (fun W X => takej_at t S b f 0 W (by omega) X f0 f1)
  have HC1 := Lib.hid (fun W X => takew_at t S b f 2 W (by omega) X)
  have hv1 := wd_rg b hrg 2
  generalize f + worth (wd b 0) = x0 at HC0 ⊢
  generalize wd b 2 = x1 at HC1 hv1 ⊢
  have HX := Lib.hid X
  have HY := Lib.hid Y
  have HK := Lib.hid (Kp.refl (Not2 t h) w)
  clear X Y hrg
  go_enter Tryz.func57, Tryz.ntmps57
  go_wp2_with fail
  refine (HC0.out _ HX.out).mono ?_
  rintro e v0 ⟨rfl, X1, K1⟩
  have HY := Lib.hid (HY.out.kpn K1 HQ.out)
  have HK := Lib.hid (HK.out.trans K1.not1)
  have HX := Lib.hid X1
  clear X1 K1
  have y6 : v0.cell? ⟨h, 6, none⟩ = some _ := HY.out.cells10 6
  have g6 := Blk.froz HY.out 6
  go_upto_region 21 with (fail)
  have HX := Lib.hid (HX.out.other ⟨h, 6, none⟩ (.int .i64 x0) hh HQ2.out)
  have HY := Lib.hid (HY.out.set_jump x0)
  have HK := Lib.hid (HK.out.setH 6 (.int .i64 x0))
  clear y6 g6
  generalize v0.setCell ⟨h, 6, none⟩ (.int .i64 x0) = u0 at HX HY HK ⊢
  go_wp2_with fail
  refine (HC1.out _ HX.out).mono ?_
  rintro e v1 ⟨rfl, X1, K1⟩
  have HY := Lib.hid (HY.out.kpn K1 HQ.out)
  have HK := Lib.hid (HK.out.trans K1.not1)
  have HX := Lib.hid X1
  clear X1 K1
  go_wp2_with fail
  go_returns
  exact ⟨rfl, ⟨_, HX.out⟩, HY.out, HK.out⟩
set_option maxHeartbeats 1000000 in
theorem fh_8 (t h : Nat) (S : Nat → Prop) (b : List Int) (f : Int) (r : RI) (w : World) (hb : b.length = 2) (X : TL w t S b f) (Y : BX w h r) (hne : t ≠ h) (hh : ¬ S h) (f0 : 0 ≤ f) (f1 : f ≤ 281474976710656) :
    Calls Tryz.prog 57 #[.pointer (some ⟨t, 0, none⟩), .pointer (some ⟨h, 0, none⟩), .int .u8 8] w fun e w' => e = .returned (.int .i64 0) ∧ (∃ b', TL w' t S b' f) ∧ BX w' h { r with sc := { r.sc with pool := (wd b 0) } } ∧ Kp (Not2 t h) w w' := by
  have hrg := X.rg
  have HQ := Lib.hid hne
  have HQ2 := Lib.hid hne.symm
  have X : TL w t S (b.drop 0) f := by simpa using X
  have HC0 := Lib.hid (fun W X => takew_at t S b f 0 W (by omega) X)
  have hv0 := wd_rg b hrg 0
  generalize wd b 0 = x0 at HC0 hv0 ⊢
  have HX := Lib.hid X
  have HY := Lib.hid Y
  have HK := Lib.hid (Kp.refl (Not2 t h) w)
  clear X Y hrg
  go_enter Tryz.func57, Tryz.ntmps57
  go_wp2_with fail
  refine (HC0.out _ HX.out).mono ?_
  rintro e v0 ⟨rfl, X1, K1⟩
  have HY := Lib.hid (HY.out.kpn K1 HQ.out)
  have HK := Lib.hid (HK.out.trans K1.not1)
  have HX := Lib.hid X1
  clear X1 K1
  have y5 : v0.cell? ⟨h, 5, none⟩ = some _ := HY.out.cells10 5
  have g5 := Blk.froz HY.out 5
  go_wp2_with fail
  go_returns
  exact ⟨rfl, ⟨_, (HX.out.other ⟨h, 5, none⟩ (.int .i64 x0) hh HQ2.out)⟩, (HY.out.set_pool x0), (HK.out.setH 5 (.int .i64 x0))⟩
set_option maxHeartbeats 1000000 in
theorem fh_9 (t h : Nat) (S : Nat → Prop) (b : List Int) (f : Int) (r : RI) (w : World) (hb : b.length = 4) (X : TL w t S b f) (Y : BX w h r) (hne : t ≠ h) (hh : ¬ S h) (f0 : 0 ≤ f) (f1 : f ≤ 281474976710656) :
    Calls Tryz.prog 57 #[.pointer (some ⟨t, 0, none⟩), .pointer (some ⟨h, 0, none⟩), .int .u8 9] w fun e w' => e = .returned (.int .i64 0) ∧ (∃ b', TL w' t S b' f) ∧ BX w' h { r with sc := { { { r.sc with a := (b.getD 0 0) } with pool := (wd b 1) } with b := (b.getD 3 0) } } ∧ Kp (Not2 t h) w w' := by
  have hrg := X.rg
  have HQ := Lib.hid hne
  have HQ2 := Lib.hid hne.symm
  have X : TL w t S (b.drop 0) f := by simpa using X
  have HC0 := Lib.hid (fun W X => takeb_at t S b f 0 W (by omega) X)
  have hv0 := rng_getD hrg 0
  have HC1 := Lib.hid (fun W X => takew_at t S b f 1 W (by omega) X)
  have hv1 := wd_rg b hrg 1
  have HC2 := Lib.hid (fun W X => takeb_at t S b f 3 W (by omega) X)
  have hv2 := rng_getD hrg 3
  generalize b.getD 0 0 = x0 at HC0 hv0 ⊢
  generalize wd b 1 = x1 at HC1 hv1 ⊢
  generalize b.getD 3 0 = x2 at HC2 hv2 ⊢
  have HX := Lib.hid X
  have HY := Lib.hid Y
  have HK := Lib.hid (Kp.refl (Not2 t h) w)
  clear X Y hrg
  go_enter Tryz.func57, Tryz.ntmps57
  go_wp2_with fail
  refine (HC0.out _ HX.out).mono ?_
  rintro e v0 ⟨rfl, X1, K1⟩
  have HY := Lib.hid (HY.out.kpn K1 HQ.out)
  have HK := Lib.hid (HK.out.trans K1.not1)
  have HX := Lib.hid X1
  clear X1 K1
  go_wp2_with fail
  refine (HC1.out _ HX.out).mono ?_
  rintro e v1 ⟨rfl, X1, K1⟩
  have HY := Lib.hid (HY.out.kpn K1 HQ.out)
  have HK := Lib.hid (HK.out.trans K1.not1)
  have HX := Lib.hid X1
  clear X1 K1
  go_wp2_with fail
  refine (HC2.out _ HX.out).mono ?_
  rintro e v2 ⟨rfl, X1, K1⟩
  have HY := Lib.hid (HY.out.kpn K1 HQ.out)
  have HK := Lib.hid (HK.out.trans K1.not1)
  have HX := Lib.hid X1
  clear X1 K1
  have y2 : v2.cell? ⟨h, 2, none⟩ = some _ := HY.out.cells10 2
  have g2 := Blk.froz HY.out 2
  have y5 : v2.cell? ⟨h, 5, none⟩ = some _ := HY.out.cells10 5
  have g5 := Blk.froz HY.out 5
  have y3 : v2.cell? ⟨h, 3, none⟩ = some _ := HY.out.cells10 3
  have g3 := Blk.froz HY.out 3
  go_wp2_with fail
  go_returns
  exact ⟨rfl, ⟨_, (((HX.out.other ⟨h, 2, none⟩ (.int .i64 x0) hh HQ2.out).other ⟨h, 5, none⟩ (.int .i64 x1) hh HQ2.out).other ⟨h, 3, none⟩ (.int .u8 x2) hh HQ2.out)⟩, (((HY.out.set_a x0).set_pool x1).set_b x2), (((HK.out.setH 2 (.int .i64 x0)).setH 5 (.int .i64 x1)).setH 3 (.int .u8 x2))⟩
set_option maxHeartbeats 1000000 in
theorem fh_10 (t h : Nat) (S : Nat → Prop) (b : List Int) (f : Int) (r : RI) (w : World) (hb : b.length = 1) (X : TL w t S b f) (Y : BX w h r) (hne : t ≠ h) (hh : ¬ S h) (f0 : 0 ≤ f) (f1 : f ≤ 281474976710656) :
    Calls Tryz.prog 57 #[.pointer (some ⟨t, 0, none⟩), .pointer (some ⟨h, 0, none⟩), .int .u8 10] w fun e w' => e = .returned (.int .i64 0) ∧ (∃ b', TL w' t S b' f) ∧ BX w' h { r with sc := { r.sc with a := (b.getD 0 0) } } ∧ Kp (Not2 t h) w w' := by
  have hrg := X.rg
  have HQ := Lib.hid hne
  have HQ2 := Lib.hid hne.symm
  have X : TL w t S (b.drop 0) f := by simpa using X
  have HC0 := Lib.hid (fun W X => takeb_at t S b f 0 W (by omega) X)
  have hv0 := rng_getD hrg 0
  generalize b.getD 0 0 = x0 at HC0 hv0 ⊢
  have HX := Lib.hid X
  have HY := Lib.hid Y
  have HK := Lib.hid (Kp.refl (Not2 t h) w)
  clear X Y hrg
  go_enter Tryz.func57, Tryz.ntmps57
  go_wp2_with fail
  refine (HC0.out _ HX.out).mono ?_
  rintro e v0 ⟨rfl, X1, K1⟩
  have HY := Lib.hid (HY.out.kpn K1 HQ.out)
  have HK := Lib.hid (HK.out.trans K1.not1)
  have HX := Lib.hid X1
  clear X1 K1
  have y2 : v0.cell? ⟨h, 2, none⟩ = some _ := HY.out.cells10 2
  have g2 := Blk.froz HY.out 2
  go_wp2_with fail
  go_returns
  exact ⟨rfl, ⟨_, (HX.out.other ⟨h, 2, none⟩ (.int .i64 x0) hh HQ2.out)⟩, (HY.out.set_a x0), (HK.out.setH 2 (.int .i64 x0))⟩
set_option maxHeartbeats 1000000 in
theorem fh_11 (t h : Nat) (S : Nat → Prop) (b : List Int) (f : Int) (r : RI) (w : World) (hb : b.length = 3) (X : TL w t S b f) (Y : BX w h r) (hne : t ≠ h) (hh : ¬ S h) (f0 : 0 ≤ f) (f1 : f ≤ 281474976710656) :
    Calls Tryz.prog 57 #[.pointer (some ⟨t, 0, none⟩), .pointer (some ⟨h, 0, none⟩), .int .u8 11] w fun e w' => e = .returned (.int .i64 0) ∧ (∃ b', TL w' t S b' f) ∧ BX w' h { r with sc := { { r.sc with a := (b.getD 0 0) } with pool := (wd b 1) } } ∧ Kp (Not2 t h) w w' := by
  have hrg := X.rg
  have HQ := Lib.hid hne
  have HQ2 := Lib.hid hne.symm
  have X : TL w t S (b.drop 0) f := by simpa using X
  have HC0 := Lib.hid (fun W X => takeb_at t S b f 0 W (by omega) X)
  have hv0 := rng_getD hrg 0
  have HC1 := Lib.hid (fun W X => takew_at t S b f 1 W (by omega) X)
  have hv1 := wd_rg b hrg 1
  generalize b.getD 0 0 = x0 at HC0 hv0 ⊢
  generalize wd b 1 = x1 at HC1 hv1 ⊢
  have HX := Lib.hid X
  have HY := Lib.hid Y
  have HK := Lib.hid (Kp.refl (Not2 t h) w)
  clear X Y hrg
  go_enter Tryz.func57, Tryz.ntmps57
  go_wp2_with fail
  refine (HC0.out _ HX.out).mono ?_
  rintro e v0 ⟨rfl, X1, K1⟩
  have HY := Lib.hid (HY.out.kpn K1 HQ.out)
  have HK := Lib.hid (HK.out.trans K1.not1)
  have HX := Lib.hid X1
  clear X1 K1
  have y2 : v0.cell? ⟨h, 2, none⟩ = some _ := HY.out.cells10 2
  have g2 := Blk.froz HY.out 2
  go_upto_region 24 with (fail)
  have HX := Lib.hid (HX.out.other ⟨h, 2, none⟩ (.int .i64 x0) hh HQ2.out)
  have HY := Lib.hid (HY.out.set_a x0)
  have HK := Lib.hid (HK.out.setH 2 (.int .i64 x0))
  clear y2 g2
  generalize v0.setCell ⟨h, 2, none⟩ (.int .i64 x0) = u0 at HX HY HK ⊢
  go_wp2_with fail
  refine (HC1.out _ HX.out).mono ?_
  rintro e v1 ⟨rfl, X1, K1⟩
  have HY := Lib.hid (HY.out.kpn K1 HQ.out)
  have HK := Lib.hid (HK.out.trans K1.not1)
  have HX := Lib.hid X1
  clear X1 K1
  have y5 : v1.cell? ⟨h, 5, none⟩ = some _ := HY.out.cells10 5
  have g5 := Blk.froz HY.out 5
  go_wp2_with fail
  go_returns
  exact ⟨rfl, ⟨_, HX.out.other ⟨h, 5, none⟩ (.int .i64 x1) hh HQ2.out⟩, HY.out.set_pool x1, HK.out.setH 5 (.int .i64 x1)⟩
def headR (k : Nat) (b : List Int) : Int := match k with
  | 6 => rowsT (wd b 2) (wd b 4)
  | 7 => wd b 2
  | _ => 0
def headSc (k : Nat) (f : Int) (b : List Int) (s : Sc) : Sc := match k with
  | 1 => { s with n := sgn8 (b.getD 0 0) }
  | 2 => { s with n := wd b 0 }
  | 3 => { s with a := b.getD 0 0 }
  | 4 => { { s with a := b.getD 0 0 } with b := b.getD 1 0 }
  | 5 => { s with jump := f + worth (wd b 0) }
  | 6 => { { s with jump := f + worth (wd b 0) } with low := wd b 2 }
  | 7 => { s with jump := f + worth (wd b 0) }
  | 8 => { s with pool := wd b 0 }
  | 9 => { { { s with a := b.getD 0 0 } with pool := wd b 1 } with b := b.getD 3 0 }
  | 10 => { s with a := b.getD 0 0 }
  | 11 => { { s with a := b.getD 0 0 } with pool := wd b 1 }
  | _ => s
theorem fh_any (k : Nat) (hk : k < 12) (t h : Nat) (S : Nat → Prop) (b : List Int) (f : Int) (r : RI) (w : World) (hb : b.length = hdS k) (X : TL w t S b f) (Y : BX w h r) (hne : t ≠ h) (hh : ¬ S h) (f0 : 0 ≤ f) (f1 : f ≤ 281474976710656) :
    Calls Tryz.prog 57 #[.pointer (some ⟨t, 0, none⟩), .pointer (some ⟨h, 0, none⟩), .int .u8 k] w fun e w' => e = .returned (.int .i64 (headR k b)) ∧ (∃ b', TL w' t S b' f) ∧ BX w' h { r with sc := headSc k f b r.sc } ∧ Kp (Not2 t h) w w' := by
  have h12 : k = 0 ∨ k = 1 ∨ k = 2 ∨ k = 3 ∨ k = 4 ∨ k = 5 ∨ k = 6 ∨ k = 7 ∨ k = 8 ∨ k = 9 ∨ k = 10 ∨ k = 11 := by omega
  rcases h12 with rfl | rfl | rfl | rfl | rfl | rfl | rfl | rfl | rfl | rfl | rfl | rfl
  · exact fh_0 t h S b f r w hb X Y hne hh f0 f1
  · exact fh_1 t h S b f r w hb X Y hne hh f0 f1
  · exact fh_2 t h S b f r w hb X Y hne hh f0 f1
  · exact fh_3 t h S b f r w hb X Y hne hh f0 f1
  · exact fh_4 t h S b f r w hb X Y hne hh f0 f1
  · exact fh_5 t h S b f r w hb X Y hne hh f0 f1
  · exact fh_6 t h S b f r w hb X Y hne hh f0 f1
  · exact fh_7 t h S b f r w hb X Y hne hh f0 f1
  · exact fh_8 t h S b f r w hb X Y hne hh f0 f1
  · exact fh_9 t h S b f r w hb X Y hne hh f0 f1
  · exact fh_10 t h S b f r w hb X Y hne hh f0 f1
  · exact fh_11 t h S b f r w hb X Y hne hh f0 f1
end Go.Proofs.YtolifmpkillglaaGreatDoor
