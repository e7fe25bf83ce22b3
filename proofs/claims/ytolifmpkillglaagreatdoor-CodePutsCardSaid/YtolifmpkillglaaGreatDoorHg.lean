import Derived.Test.YtolifmpkillglaaGreatDoorHf
set_option linter.unusedVariables false
set_option maxRecDepth 100000
namespace Go.Proofs.YtolifmpkillglaaGreatDoor
open Go.RowKit
/-- The contract of a table's kind. -/
def TabSaid (imm : Int) (n : Nat) (l : List Int) (r : RI) (sc : Sc) (at_ at' : Nat) (s s' ok : Bool) (T : List Int) : Prop :=
  ∀ (w : World) (g h B c : Nat) (A : Option Addr), TK w g A n c at_ s → BX w h r → g ≠ h → B ≤ g → B ≤ h → Rd w B A n l → n ≤ c →
    Calls Tryz.prog 31 #[.pointer (some ⟨g, 0, none⟩), .pointer (some ⟨h, 0, none⟩), .int .u8 imm] w fun e w' => ∃ A' c', e = .returned (.bool ok) ∧ TK w' g A n c at' s' ∧ BX w' h { r with sc := sc, tA := A', tn := T.length, tc := c' } ∧ OV inR 3 w' (Lt w.heap.size) A' T.length c' T ∧ Kp (Old w.heap.size g h) w w'
set_option maxRecDepth 100000 in
set_option maxHeartbeats 2000000 in
theorem beh_table (n : Nat) (l : List Int) (r : RI) (at_ : Nat) (s : Bool) (hn : n ≤ 281474976710656) (ha : at_ ≤ 281474976710656) (f0 : 0 ≤ r.sc.at_) (f1 : r.sc.at_ ≤ 281474976710656) (ht : r.tA = none ∧ r.tn = 0 ∧ r.tc = 0) :
    TabSaid 6 n l r { { r.sc with jump := (r.sc.at_ + worth (twoV l at_ s)) } with low := (twoV l (twoA n at_ s) (twoS n at_ s)) } at_
      (tabL n l r.sc.at_ ((worth (twoV l (twoA n (twoA n at_ s) (twoS n at_ s)) (twoS n (twoA n at_ s) (twoS n at_ s))) - worth (twoV l (twoA n at_ s) (twoS n at_ s)) + 1).toNat) (twoA n (twoA n (twoA n at_ s) (twoS n at_ s)) (twoS n (twoA n at_ s) (twoS n at_ s))) (twoS n (twoA n (twoA n at_ s) (twoS n at_ s)) (twoS n (twoA n at_ s) (twoS n at_ s)))).2.1 s
      (tabL n l r.sc.at_ ((worth (twoV l (twoA n (twoA n at_ s) (twoS n at_ s)) (twoS n (twoA n at_ s) (twoS n at_ s))) - worth (twoV l (twoA n at_ s) (twoS n at_ s)) + 1).toNat) (twoA n (twoA n (twoA n at_ s) (twoS n at_ s)) (twoS n (twoA n at_ s) (twoS n at_ s))) (twoS n (twoA n (twoA n at_ s) (twoS n at_ s)) (twoS n (twoA n at_ s) (twoS n at_ s)))).2.2
      (twoS n (twoA n (twoA n at_ s) (twoS n at_ s)) (twoS n (twoA n at_ s) (twoS n at_ s)) || !decide (worth (twoV l (twoA n (twoA n at_ s) (twoS n at_ s)) (twoS n (twoA n at_ s) (twoS n at_ s))) < worth (twoV l (twoA n at_ s) (twoS n at_ s))))
      (tabL n l r.sc.at_ ((worth (twoV l (twoA n (twoA n at_ s) (twoS n at_ s)) (twoS n (twoA n at_ s) (twoS n at_ s))) - worth (twoV l (twoA n at_ s) (twoS n at_ s)) + 1).toNat) (twoA n (twoA n (twoA n at_ s) (twoS n at_ s)) (twoS n (twoA n at_ s) (twoS n at_ s))) (twoS n (twoA n (twoA n at_ s) (twoS n at_ s)) (twoS n (twoA n at_ s) (twoS n at_ s)))).1 := by
  intro w g h B c A X Y hne hg hh hr hc
  have hgs : g < w.heap.size := Blk.lt X
  have hhs : h < w.heap.size := Blk.lt Y
  have hrg := hr.rg
  have K : Kp (Not2 g h) w w := Kp.refl _ _
  have HQ := Lib.hid hne
  have y0 : w.cell? ⟨h, 0, none⟩ = some (.int .i64 r.sc.at_) := Y.cells10 0
  have HO := Lib.hid (fun W X hr => jump_any A n c B at_ g r.sc.at_ s l W X hr hc hn (by omega) f0 f1)
  have ha1 := twoA_le n at_ s
  generalize r.sc.at_ + worth (twoV l at_ s) = x0 at HO ⊢
  generalize twoS n at_ s = s1 at HO ⊢
  generalize twoA n at_ s = a1 at HO ha1 ⊢
  have HO1 := Lib.hid (fun W X hr => two_any A n c B a1 g s1 l W X hr hc hn (by omega))
  have ha2 := twoA_le n a1 s1
  have hv1 := twoV_rg l hrg a1 s1
  generalize twoV l a1 s1 = x1 at HO1 hv1 ⊢
  generalize twoS n a1 s1 = s2 at HO1 ⊢
  generalize twoA n a1 s1 = a2 at HO1 ha2 ⊢
  have HO2 := Lib.hid (fun W X hr => two_any A n c B a2 g s2 l W X hr hc hn (by omega))
  have ha3 := twoA_le n a2 s2
  have hv2 := twoV_rg l hrg a2 s2
  generalize twoV l a2 s2 = x2 at HO2 hv2 ⊢
  generalize twoS n a2 s2 = s3 at HO2 ⊢
  generalize twoA n a2 s2 = a3 at HO2 ha3 ⊢
  have hm1 : x1 % 65536 = x1 := Int.emod_eq_of_lt hv1.1 hv1.2
  have hm2 : x2 % 65536 = x2 := Int.emod_eq_of_lt hv2.1 hv2.2
  generalize hok : (s3 || !decide (worth x2 < worth x1)) = ok
  generalize hres : tabL n l r.sc.at_ (worth x2 - worth x1 + 1).toNat a3 s3 = res
  have HOK := Lib.hid hok
  have HRES := Lib.hid hres
  have HTT := Lib.hid ht
  clear hok hres ht
  have HX := Lib.hid X
  have HY := Lib.hid Y
  have HR := Lib.hid hr
  have HK := Lib.hid K
  clear X Y hr K
  go_enter Tryz.func31, Tryz.ntmps31
  go_wp2_with fail
  refine (HO.out _ HX.out HR.out).mono ?_
  rintro e v0 ⟨rfl, X0, K0⟩
  have Y0 := HY.out.kpn K0 HQ.out
  have R0 := HR.out.kpn K0 hg
  have y100 : v0.cell? ⟨h, 6, none⟩ = some _ := Y0.cells10 6
  have f100 := Blk.froz Y0 6
  have Z0 := Lib.hid (X0.setH 6 (.int .i64 x0) HQ.out)
  have HY := Lib.hid (Y0.set_jump x0)
  have HR := Lib.hid (R0.setH 6 (.int .i64 x0) hh)
  have HK := Lib.hid ((HK.out.trans K0.not1).setH 6 (.int .i64 x0))
  clear X0 K0 Y0 R0 HO y0 HX
  go_upto_region 18 with (fail)
  generalize v0.setCell ⟨h, 6, none⟩ (.int .i64 x0) = w1 at Z0 HY HR HK ⊢
  clear y100 f100
  go_wp2_with fail
  refine (HO1.out _ Z0.out HR.out).mono ?_
  rintro e v1 ⟨rfl, X1, K1⟩
  have Y1 := HY.out.kpn K1 HQ.out
  have R1 := HR.out.kpn K1 hg
  have y101 : v1.cell? ⟨h, 9, none⟩ = some _ := Y1.cells10 9
  have f101 := Blk.froz Y1 9
  have Z1 := Lib.hid (X1.setH 9 (.int .u16 x1) HQ.out)
  have HY := Lib.hid (Y1.set_low x1)
  have HR := Lib.hid (R1.setH 9 (.int .u16 x1) hh)
  have HK := Lib.hid ((HK.out.trans K1.not1).setH 9 (.int .u16 x1))
  clear X1 K1 Y1 R1 HO1 Z0
  go_upto_region 19 with (fail)
  generalize v1.setCell ⟨h, 9, none⟩ (.int .u16 x1) = w2 at Z1 HY HR HK ⊢
  clear y101 f101
  go_wp2_with fail
  refine (HO2.out _ Z1.out HR.out).mono ?_
  rintro e v2 ⟨rfl, X2, K2⟩
  have HY := Lib.hid (HY.out.kpn K2 HQ.out)
  have HR := Lib.hid (HR.out.kpn K2 hg)
  have HK := Lib.hid (HK.out.trans K2.not1)
  have Z2 := Lib.hid X2
  clear Z1 X2 K2 HO2
  have u2 : v2.cell? ⟨g, 2, none⟩ = some (.bool s3) := Blk.cell Z2.out 2
  have t9 : v2.cell? ⟨h, 9, none⟩ = some (.int .u16 x1) := HY.out.cells10 9
  have b10 := hv1.1
  have b11 := hv1.2
  have b20 := hv2.1
  have b21 := hv2.2
  cases s3
  · go_upto_region 22 with (fail)
    go_quiet (first | (with_reducible exact Calls.quiet_of_same (worth_any x2 _ b20 b21)) | (with_reducible exact Calls.quiet_of_same (worth_any x1 _ b10 b11)))
    have e1 := worth_rg x1 b10 b11
    have e2 := worth_rg x2 b20 b21
    have HW1 := Lib.hid (fun W => worth_any x1 W b10 b11)
    have HW2 := Lib.hid (fun W => worth_any x2 W b20 b21)
    generalize worth x1 = z1 at HOK HRES HW1 e1 ⊢
    generalize worth x2 = z2 at HOK HRES HW2 e2 ⊢
    by_cases hz : z2 < z1
    · have hT : tabL n l r.sc.at_ (z2 - z1 + 1).toNat a3 false = ([], a3, false) := by
        rw [show (z2 - z1 + 1).toNat = 0 by omega]; rfl
      have HE := Lib.hid (hT.symm.trans HRES.out)
      have hb : (false || !decide (z2 < z1)) = false := by simp [hz]
      have HB := Lib.hid (hb.symm.trans HOK.out)
      have Y := HY.out
      obtain ⟨h1, h2, h3⟩ := HTT.out
      have HYY : Hid (BX v2 h { r with sc := { { r.sc with jump := x0 } with low := x1 }, tA := none, tn := 0, tc := 0 }) := by
        cases r
        subst h1 h2 h3
        exact Lib.hid Y
      clear hT hb Y HY h1 h2 h3
      go_wp2_with fail
      go_returns
      rw [← HE.out, ← HB.out]
      exact ⟨rfl, Z2.out, none, 0, HYY.out, OV.nil_, HK.out.old.drewN _⟩
    · have hb : (false || !decide (z2 < z1)) = true := by simp [hz]
      have HB := Lib.hid (hb.symm.trans HOK.out)
      obtain ⟨h1, h2, h3⟩ := HTT.out
      have HYY : Hid (BX (v2.drewN nq) h { r with sc := { { r.sc with jump := x0 } with low := x1 }, tA := none, tn := 0, tc := 0 }) := by
        have Y := HY.out
        cases r
        subst h1 h2 h3
        exact Lib.hid Y
      have Z3 : Hid (TK (v2.drewN nq) g A n c a3 false) := Lib.hid Z2.out
      have HK3 := Lib.hid (HK.out.old.drewN nq : Kp (Old w.heap.size g h) w (v2.drewN nq))
      have t9 : (v2.drewN nq).cell? ⟨h, 9, none⟩ = some (.int .u16 x1) := t9
      have HR0 := Lib.hid (HR.out.drewN nq)
      have hsz : w.heap.size ≤ (v2.drewN nq).heap.size := HK3.out.size
      generalize v2.drewN nq = w3 at HYY Z3 HK3 t9 HR0 hsz ⊢
      clear hb HY h1 h2 h3 HR HK Z2 u2
      generalize hcnt : (z2 - z1 + 1).toNat = cnt at HRES
      go_upto_region 24 with (fail)
      go_wp2_with fail
      refine (HW1.out _).mono ?_
      rintro e w4 ⟨rfl, hw⟩
      obtain rfl := hw.symm
      clear t9
      go_wp2_with fail
      go_loopw [9] (fun i wr => ∃ (k a : Nat) (sb : Bool) (T : List Int) (A' : Option Addr) (c' : Nat), k ≤ cnt ∧ i = .int .i64 (z1 + k) ∧ a ≤ at_ + 6 + 2 * k ∧ TK wr g A n c a sb ∧ BX wr h { r with sc := { { r.sc with jump := x0 } with low := x1 }, tA := A', tn := k, tc := c' } ∧ OV inR 3 wr (Lt w.heap.size) A' k c' T ∧ Kp (Old w.heap.size g h) w wr ∧ Rd wr B A n l ∧ (T ++ (tabL n l r.sc.at_ (cnt - k) a sb).1, (tabL n l r.sc.at_ (cnt - k) a sb).2) = res) (fun i _ => (z2 + 1 - intOf i).toNat)
      case atStart => exact ⟨0, a3, false, [], none, 0, Nat.zero_le _, by simp, by omega, Z3.out, HYY.out, OV.nil_, HK3.out, HR0.out, by simpa using HRES.out⟩
      case round =>
        obtain ⟨k, a, sb, T, A', c', hk, rfl, hka, X, Y, O, K, hr, hres⟩ := hrel
        clear Z3 HYY HK3 HR0
        have u2 : wr.cell? ⟨g, 2, none⟩ = some (.bool sb) := Blk.cell X 2
        have i1 : z1 + (k : Int) ≤ 65536 := by omega
        have i0 : -65536 ≤ z1 + (k : Int) := by omega
        have HX := Lib.hid X
        have HY := Lib.hid Y
        have HO := Lib.hid O
        have HK := Lib.hid K
        have HR := Lib.hid hr
        have HS := Lib.hid hres
        clear X Y O K hr hres
        by_cases hlt : z1 + (k : Int) ≤ z2
        · cases sb
          · obtain ⟨j, hj⟩ : ∃ j, cnt - k = j + 1 := ⟨cnt - k - 1, by omega⟩
            have hS := HS.out
            rw [hj] at hS
            have hS : (T ++ (r.sc.at_ + worth (twoV l a false)) :: (tabL n l r.sc.at_ j (twoA n a false) (twoS n a false)).1, (tabL n l r.sc.at_ j (twoA n a false) (twoS n a false)).2) = res := hS
            have HJ := Lib.hid (fun W X hr => jump_any A n c B a g r.sc.at_ false l W X hr hc hn (by omega) f0 f1)
            have ha4 := twoA_le n a false
            generalize twoA n a false = a4 at hS HJ ha4
            generalize twoS n a false = s4 at hS HJ
            generalize hxv : r.sc.at_ + worth (twoV l a false) = xv at hS HJ
            have HS := Lib.hid hS
            clear hS hxv
            have y0 : wr.cell? ⟨h, 0, none⟩ = some (.int .i64 r.sc.at_) := HY.out.cells10 0
            have y7 : wr.cell? ⟨h, 7, none⟩ = some (.slice A' k c') := HY.out.cells10 7
            have yf : wr.frozen? ⟨h, 7, none⟩ = false := Blk.froz HY.out 7
            have hcs : cnt ≤ 65536 := by omega
            have hsr := HK.out.size
            have HRd : Hid (Rd wr.drew B A n l) := Lib.hid (HR.out.drewN 1)
            go_upto_region 27 with (go_at_call 30; refine (HW2.out _).mono ?_; rintro e w5 ⟨rfl, hw⟩; obtain rfl := hw.symm)
            go_region_law (first
              | (refine step_appV inFit rfl (.tmp 120) (.tmp 127) rfl (Lt w.heap.size) A' k c' T rfl (OV.alloc (by assumption) _) _ _ 1 1 [xv] rfl (rv_int _ _) (k + 1) rfl (T ++ [xv]) rfl (by omega) (by intro j h; (have h2 : j < w.heap.size := h); simp; omega) ?_; intro A4 c4 w6 ho6 hb6; have Y6 := Y5.kpl hb6 hhs; have X6 := X5.kpl hb6 hgs; have y67 : w6.cell? ⟨h, 7, none⟩ = some (.slice A' k c') := Y6.cells10 7; have y6f : w6.frozen? ⟨h, 7, none⟩ = false := Blk.froz Y6 7)
              | (go_simp; go_at_call 50; refine (HJ.out wr.drew HX.out HRd.out).mono ?_; rintro e w5 ⟨rfl, X5, K5⟩; have K5 := ((Kp.refl (Not1 g) wr).drew).trans K5; have Y5 := HY.out.kpn K5 HQ.out; have O5 := HO.out.keep (w' := w5) (fun b hb _ _ => K5.block b (show b ≠ g from fun e => hb (show b < w.heap.size by omega))); have z5 := K5.size; have y57 : w5.cell? ⟨h, 7, none⟩ = some (.slice A' k c') := Y5.cells10 7; have y5a : (w5.alloc (.cells #[.int .i64 xv] 3)).cell? ⟨h, 7, none⟩ = some (.slice A' k c') := (Y5.alloc _).cells10 7; have y5f : w5.frozen? ⟨h, 7, none⟩ = false := Blk.froz Y5 7))
            all_goals
              have k7 := Kp.more (h := h) K5 hb6 (by omega) 7 (.slice A4 (k + 1) c4)
              have hX := Lib.hid (X6.setH 7 (.slice A4 (k + 1) c4) HQ.out)
              have hY := Lib.hid (Y6.set_tab A4 (k + 1) c4)
              have hO := Lib.hid (ho6.set (p := ⟨h, 7, none⟩) hhs (.slice A4 (k + 1) c4))
              have hR := Lib.hid (HR.out.old k7 hg hh hgs)
              have hK := Lib.hid (HK.out.trans k7)
              clear k7 X6 Y6 ho6 hb6 X5 Y5 O5 K5 y67 y6f y57 y5f y5a
              generalize w6.setCell ⟨h, 7, none⟩ (.slice A4 (k + 1) c4) = w7 at hX hY hO hR hK ⊢
              go_wp2_with fail
              go_roundw
              case rel => exact ⟨k + 1, a4, s4, T ++ [xv], A4, c4, by omega, by go_num, by omega, hX.out, hY.out, hO.out, hK.out, hR.out, by rw [← HS.out, show cnt - (k + 1) = j by omega, List.append_assoc]; rfl⟩
              case measure => simp [intOf]; omega
          · have he : tabL n l r.sc.at_ (cnt - k) a true = ([], a, true) := by
              cases cnt - k <;> rfl
            have hS := HS.out
            rw [he, List.append_nil] at hS
            have HE := Lib.hid hS
            clear he hS
            have hl := HO.out.len
            go_wp2_with (go_at_call 30; refine (HW2.out _).mono ?_; rintro e w5 ⟨rfl, hw⟩; obtain rfl := hw.symm)
            go_returns
            rw [← HE.out, ← HB.out]
            subst hl
            first | exact ⟨rfl, HX.out, A', c', HY.out, HO.out, HK.out⟩ | exact ⟨A', c', rfl, HX.out, HY.out, HO.out, HK.out⟩
        · have he : tabL n l r.sc.at_ (cnt - k) a sb = ([], a, sb) := by
            rw [show cnt - k = 0 by omega]; rfl
          have hS := HS.out
          rw [he, List.append_nil] at hS
          have HE := Lib.hid hS
          clear he hS
          have hl := HO.out.len
          cases sb
          all_goals
            go_wp2_with (go_at_call 30; refine (HW2.out _).mono ?_; rintro e w5 ⟨rfl, hw⟩; obtain rfl := hw.symm)
            go_returns
            rw [← HE.out, ← HB.out]
            subst hl
            first | exact ⟨rfl, HX.out, A', c', HY.out, HO.out, HK.out⟩ | exact ⟨A', c', rfl, HX.out, HY.out, HO.out, HK.out⟩
  · have hT : tabL n l r.sc.at_ (worth x2 - worth x1 + 1).toNat a3 true = ([], a3, true) := by
      cases (worth x2 - worth x1 + 1).toNat <;> rfl
    have HE := Lib.hid (hT.symm.trans HRES.out)
    have HB := Lib.hid ((Bool.true_or _).symm.trans HOK.out)
    have Y := HY.out
    obtain ⟨h1, h2, h3⟩ := HTT.out
    have HYY : Hid (BX v2 h { r with sc := { { r.sc with jump := x0 } with low := x1 }, tA := none, tn := 0, tc := 0 }) := by
      cases r
      subst h1 h2 h3
      exact Lib.hid Y
    clear hT Y HY h1 h2 h3
    go_wp2_with fail
    go_returns
    rw [← HE.out, ← HB.out]
    exact ⟨none, 0, rfl, Z2.out, HYY.out, OV.nil_, HK.out.old⟩
end Go.Proofs.YtolifmpkillglaaGreatDoor
