import Derived.Test.YtolifmpkillglaaGreatDoorHh
import Derived.Deep.CutRange
import Derived.Deep.DeepCutAuto
set_option linter.unusedVariables false
set_option maxRecDepth 100000
namespace Go.Proofs.YtolifmpkillglaaGreatDoor
open Go.RowKit
/-! What stands behind: lookups: the contract. -/
def LookSaid (imm : Int) (n : Nat) (l : List Int) (r : RI) (sc : Sc) (at_ at' : Nat) (s s' ok : Bool) (T M : List Int) : Prop :=
  ∀ (w : World) (g h B c : Nat) (A : Option Addr), TK w g A n c at_ s → BX w h r → g ≠ h → B ≤ g → B ≤ h → Rd w B A n l → n ≤ c →
    Calls Tryz.prog 31 #[.pointer (some ⟨g, 0, none⟩), .pointer (some ⟨h, 0, none⟩), .int .u8 imm] w fun e w' => ∃ A' c' A2 c2, e = .returned (.bool ok) ∧ TK w' g A n c at' s' ∧ BX w' h { r with sc := sc, tA := A', tn := T.length, tc := c', mA := A2, mn := M.length, mc := c2 } ∧ OV inR 3 w' (Lt w.heap.size) A' T.length c' T ∧ OV woR 24 w' (Lt w.heap.size) A2 M.length c2 M ∧ Kp (Old w.heap.size g h) w w'
theorem risN_succ (M : List Int) (k : Nat) : risN M (k + 1) = (risN M k && (decide (k = 0) || decide (worth (M.getD (k - 1) 0) < worth (M.getD k 0)))) := rfl
set_option maxHeartbeats 4000000 in
theorem beh_lookup (n : Nat) (l : List Int) (r : RI) (at_ : Nat) (s : Bool) (hn : n ≤ 281474976710656) (ha : at_ ≤ 281474976710656) (f0 : 0 ≤ r.sc.at_) (f1 : r.sc.at_ ≤ 281474976710656) (ht : r.tA = none ∧ r.tn = 0 ∧ r.tc = 0) (ht2 : r.mA = none ∧ r.mn = 0 ∧ r.mc = 0)
    (res : List Int × List Int × Nat × Bool) (hres : lookL n l r.sc.at_ (twoV l (twoA n at_ s) (twoS n at_ s)).toNat (twoA n (twoA n at_ s) (twoS n at_ s)) (twoS n (twoA n at_ s) (twoS n at_ s)) = res) :
    LookSaid 7 n l r { r.sc with jump := (r.sc.at_ + worth (twoV l at_ s)) } at_ res.2.2.1 s res.2.2.2 (res.2.2.2 || risN res.1 res.1.length) res.2.1 res.1 := by
  intro w g h B c A X Y hne hg hh hr hc
  have hgs : g < w.heap.size := Blk.lt X
  have hhs : h < w.heap.size := Blk.lt Y
  have hrg := hr.rg
  have K : Kp (Not2 g h) w w := Kp.refl _ _
  have HQ := Lib.hid hne
  have y0 : w.cell? ⟨h, 0, none⟩ = some (.int .i64 r.sc.at_) := Y.cells10 0
  have HO := Lib.hid (fun W X hr => jump_any A n c B at_ g r.sc.at_ s l W X hr hc hn (by omega) f0 f1)
  have ha1 := twoA_le n at_ s
  generalize r.sc.at_ + worth (twoV l at_ s) = x0 at HO ⊢
  generalize twoS n at_ s = s1 at HO hres ⊢
  generalize twoA n at_ s = a1 at HO ha1 hres ⊢
  have HO1 := Lib.hid (fun W X hr => two_any A n c B a1 g s1 l W X hr hc hn (by omega))
  have ha2 := twoA_le n a1 s1
  have hv1 := twoV_rg l hrg a1 s1
  generalize twoV l a1 s1 = x1 at HO1 hv1 hres ⊢
  generalize twoS n a1 s1 = s2 at HO1 hres ⊢
  generalize twoA n a1 s1 = a2 at HO1 ha2 hres ⊢
  have HRES := Lib.hid hres
  have HTT := Lib.hid ht
  have HT2 := Lib.hid ht2
  clear hres ht ht2
  have HX := Lib.hid X
  have HY := Lib.hid Y
  have HR := Lib.hid hr
  have HK := Lib.hid K
  clear X Y hr K
  go_enter Tryz.func31, Tryz.ntmps31
  go_wp2_with fail
  refine (HO.out _ HX.out HR.out).mono ?_
  rintro e v0 ⟨rfl, X0, K0⟩
  have Y0 := HY.out.kpn K0 HQ.out
  have R0 := HR.out.kpn K0 hg
  have y100 : v0.cell? ⟨h, 6, none⟩ = some _ := Y0.cells10 6
  have f100 := Blk.froz Y0 6
  have Z0 := Lib.hid (X0.setH 6 (.int .i64 x0) HQ.out)
  have HY := Lib.hid (Y0.set_jump x0)
  have HR := Lib.hid (R0.setH 6 (.int .i64 x0) hh)
  have HK := Lib.hid ((HK.out.trans K0.not1).setH 6 (.int .i64 x0))
  clear X0 K0 Y0 R0 HO y0 HX
  go_upto_region 30 with (fail)
  generalize v0.setCell ⟨h, 6, none⟩ (.int .i64 x0) = w1 at Z0 HY HR HK ⊢
  clear y100 f100
  go_wp2_with fail
  refine (HO1.out _ Z0.out HR.out).mono ?_
  rintro e w3 ⟨rfl, X1, K1⟩
  have HYY : Hid (BX w3 h { r with sc := { r.sc with jump := x0 }, tA := none, tn := 0, tc := 0, mA := none, mn := 0, mc := 0 }) := by
    have Y := HY.out.kpn K1 HQ.out
    obtain ⟨h1, h2, h3⟩ := HTT.out
    obtain ⟨g1, g2, g3⟩ := HT2.out
    cases r
    subst h1 h2 h3 g1 g2 g3
    exact Lib.hid Y
  have Z3 := Lib.hid X1
  have HR0 := Lib.hid (HR.out.kpn K1 hg)
  have HK3 := Lib.hid ((HK.out.trans K1.not1).old (m := w.heap.size))
  have hsz : w.heap.size ≤ w3.heap.size := HK3.out.size
  clear X1 K1 HY HR HK Z0 HO1
  generalize hcnt : x1.toNat = cnt at HRES
  go_wp2_with fail
  go_loopw [11, 12] (fun rb i wr => ∃ (k a : Nat) (sb : Bool) (T M : List Int) (A' : Option Addr) (c' : Nat) (A2 : Option Addr) (c2 : Nat), k ≤ cnt ∧ i = .int .i64 k ∧ rb = .bool (risN res.1 k) ∧ a ≤ at_ + 4 + 4 * k ∧ TK wr g A n c a sb ∧ BX wr h { r with sc := { r.sc with jump := x0 }, tA := A', tn := k, tc := c', mA := A2, mn := k, mc := c2 } ∧ OV inR 3 wr (Off A2 w.heap.size) A' k c' T ∧ OV woR 24 wr (Off A' w.heap.size) A2 k c2 M ∧ Kp (Old w.heap.size g h) w wr ∧ Rd wr B A n l ∧ (M ++ (lookL n l r.sc.at_ (cnt - k) a sb).1, T ++ (lookL n l r.sc.at_ (cnt - k) a sb).2.1, (lookL n l r.sc.at_ (cnt - k) a sb).2.2) = res) (fun _ i _ => cnt - (intOf i).toNat)
  case atStart => exact ⟨0, a2, s2, [], [], none, 0, none, 0, Nat.zero_le _, rfl, rfl, by omega, Z3.out, HYY.out, OV.nil_, OV.nil_, HK3.out, HR0.out, by simpa using HRES.out⟩
  case round =>
    obtain ⟨k, a, sb, T, M, A', c', A2, c2, hk, rfl, rfl, hka, X, Y, O, P, K, hr, hres⟩ := hrel
    clear Z3 HYY HK3 HR0
    have u2 : wr.cell? ⟨g, 2, none⟩ = some (.bool sb) := Blk.cell X 2
    have i1 : (k : Int) ≤ 65536 := by omega
    have i0 : (0 : Int) ≤ (k : Int) := by omega
    generalize hrb : risN res.1 k = rb
    have HRB := Lib.hid hrb
    have HX := Lib.hid X
    have HY := Lib.hid Y
    have HO := Lib.hid O
    have HP := Lib.hid P
    have HK := Lib.hid K
    have HR := Lib.hid hr
    have HS := Lib.hid hres
    have hlT := O.len
    have hlM := P.len
    clear X Y O P K hr hres hrb
    by_cases hlt : (k : Int) < x1
    · cases sb
      · obtain ⟨j, hj⟩ : ∃ j, cnt - k = j + 1 := ⟨cnt - k - 1, by omega⟩
        have hS := HS.out
        rw [hj] at hS
        have hS : (M ++ twoV l a false :: (lookL n l r.sc.at_ j (twoA n (twoA n a false) (twoS n a false)) (twoS n (twoA n a false) (twoS n a false))).1, T ++ (r.sc.at_ + worth (twoV l (twoA n a false) (twoS n a false))) :: (lookL n l r.sc.at_ j (twoA n (twoA n a false) (twoS n a false)) (twoS n (twoA n a false) (twoS n a false))).2.1, (lookL n l r.sc.at_ j (twoA n (twoA n a false) (twoS n a false)) (twoS n (twoA n a false) (twoS n a false))).2.2) = res := hS
        have HJ1 := Lib.hid (fun W X hr => two_any A n c B a g false l W X hr hc hn (by omega))
        have ha4 := twoA_le n a false
        have hvm := twoV_rg l hrg a false
        generalize twoV l a false = xm at hS HJ1 hvm
        generalize twoS n a false = s4 at hS HJ1
        generalize twoA n a false = a4 at hS HJ1 ha4
        have HJ2 := Lib.hid (fun W X hr => jump_any A n c B a4 g r.sc.at_ s4 l W X hr hc hn (by omega) f0 f1)
        have ha5 := twoA_le n a4 s4
        generalize r.sc.at_ + worth (twoV l a4 s4) = xv at hS HJ2
        generalize twoS n a4 s4 = s5 at hS HJ2
        generalize twoA n a4 s4 = a5 at hS HJ2 ha5
        have HSS := Lib.hid hS
        have hmm : xm % 65536 = xm := Int.emod_eq_of_lt hvm.1 hvm.2
        have hmw : IntKind.u16.wrap xm = xm := IntWalk.u16_in _ (by omega)
        have y8 : wr.cell? ⟨h, 8, none⟩ = some (.slice A2 k c2) := HY.out.cells10 8
        have yf : wr.frozen? ⟨h, 8, none⟩ = false := Blk.froz HY.out 8
        have hcs : cnt ≤ 65536 := by omega
        have hsr := HK.out.size
        have HRd : Hid (Rd wr.drew B A n l) := Lib.hid (HR.out.drewN 1)
        clear hS
        go_upto_region 35 with (fail)
        go_cut [] from 144 to 207 (fun wx => ∃ (A4 : Option Addr) (c4 : Nat), TK wx g A n c a4 s4 ∧ BX wx h { r with sc := { r.sc with jump := x0 }, tA := A', tn := k, tc := c', mA := A4, mn := k + 1, mc := c4 } ∧ OV inR 3 wx (Off A4 w.heap.size) A' k c' T ∧ OV woR 24 wx (Off A' w.heap.size) A4 (k + 1) c4 (M ++ [xm]) ∧ Kp (Old w.heap.size g h) w wx ∧ Rd wx B A n l)
        case first =>
          go_region_law (first
            | (refine step_appV woFit rfl (.tmp 160) (.tmp 164) rfl (Off A' w.heap.size) A2 k c2 M rfl (OV.alloc P5 _) _ _ 1 1 [xm] rfl (rv_wo _ _ hvm.1 hvm.2) (k + 1) rfl (M ++ [xm]) rfl (by omega) (fun q hq => by have h2 := O5.off_lt (by omega) q hq; simp; omega) ?_; intro A4 c4 w6 ho6 hb6; have Y6 := Y5.kpl hb6.offLt hhs; have X6 := X5.kpl hb6.offLt hgs; have y67 : w6.cell? ⟨h, 8, none⟩ = some (.slice A2 k c2) := Y6.cells10 8; have y6f : w6.frozen? ⟨h, 8, none⟩ = false := Blk.froz Y6 8)
            | (go_simp; go_at_call 49; refine (HJ1.out wr.drew HX.out HRd.out).mono ?_; rintro e w5 ⟨rfl, X5, K5⟩; have K5 := ((Kp.refl (Not1 g) wr).drew).trans K5; have Y5 := HY.out.kpn K5 HQ.out; have O5 := HO.out.keep (w' := w5) (fun b hb _ _ => K5.block b (show b ≠ g from fun e => hb (.inl (show b < w.heap.size by omega)))); have P5 := HP.out.keep (w' := w5) (fun b hb _ _ => K5.block b (show b ≠ g from fun e => hb (.inl (show b < w.heap.size by omega)))); have z5 := K5.size; have y57 : w5.cell? ⟨h, 8, none⟩ = some (.slice A2 k c2) := Y5.cells10 8; have y5a : (w5.alloc (.cells #[.int .u16 xm] 24)).cell? ⟨h, 8, none⟩ = some (.slice A2 k c2) := (Y5.alloc _).cells10 8; have y5f : w5.frozen? ⟨h, 8, none⟩ = false := Blk.froz Y5 8))
          all_goals
            have k7 := Kp.more (h := h) K5 hb6.offLt (by omega) 8 (.slice A4 (k + 1) c4)
            have hX := Lib.hid (X6.setH 8 (.slice A4 (k + 1) c4) HQ.out)
            have hY := Lib.hid (Y6.set_mat A4 (k + 1) c4)
            have hP := Lib.hid (ho6.set (p := ⟨h, 8, none⟩) (.inl hhs) (.slice A4 (k + 1) c4))
            have hO := Lib.hid (((O5.alloc _).swap ho6 hb6).set (p := ⟨h, 8, none⟩) (.inl hhs) (.slice A4 (k + 1) c4))
            have hR := Lib.hid (HR.out.old k7 hg hh hgs)
            have hK := Lib.hid (HK.out.trans k7)
            clear k7 X6 Y6 ho6 hb6 X5 Y5 O5 P5 K5 y67 y6f y57 y5f y5a
            go_wp2_with fail
            go_meet
            exact ⟨A4, c4, hX.out, hY.out, hO.out, hP.out, hK.out, hR.out⟩
        case rest =>
          obtain ⟨A4, c4, X, Y, O, P, K, R⟩ := hcut
          have hX := Lib.hid X
          have hY := Lib.hid Y
          have hP := Lib.hid P
          have hO := Lib.hid O
          have hR := Lib.hid R
          have hK := Lib.hid K
          clear X Y P O R K HX HY HO HP HK HR y8 yf HRd HJ1
          go_upto_region 36 with (fail)
          have y0 : wc.cell? ⟨h, 0, none⟩ = some (.int .i64 r.sc.at_) := hY.out.cells10 0
          have y7 : wc.cell? ⟨h, 7, none⟩ = some (.slice A' k c') := hY.out.cells10 7
          have yf : wc.frozen? ⟨h, 7, none⟩ = false := Blk.froz hY.out 7
          have hsr := hK.out.size
          have HRd : Hid (Rd wc.drew B A n l) := Lib.hid (hR.out.drewN 1)
          go_cut [] from 144 to 207 (fun wx => ∃ (A5 : Option Addr) (c5 : Nat), TK wx g A n c a5 s5 ∧ BX wx h { r with sc := { r.sc with jump := x0 }, tA := A5, tn := k + 1, tc := c5, mA := A4, mn := k + 1, mc := c4 } ∧ OV inR 3 wx (Off A4 w.heap.size) A5 (k + 1) c5 (T ++ [xv]) ∧ OV woR 24 wx (Off A5 w.heap.size) A4 (k + 1) c4 (M ++ [xm]) ∧ Kp (Old w.heap.size g h) w wx ∧ Rd wx B A n l)
          case first =>
            go_region_law (first
              | (refine step_appV inFit rfl (.tmp 172) (.tmp 179) rfl (Off A4 w.heap.size) A' k c' T rfl (OV.alloc O5 _) _ _ 1 1 [xv] rfl (rv_int _ _) (k + 1) rfl (T ++ [xv]) rfl (by omega) (fun q hq => by have h2 := P5.off_lt (by omega) q hq; simp; omega) ?_; intro A5 c5 w8 ho6 hb6; have Y6 := Y5.kpl hb6.offLt hhs; have X6 := X5.kpl hb6.offLt hgs; have y67 : w8.cell? ⟨h, 7, none⟩ = some (.slice A' k c') := Y6.cells10 7; have y6f : w8.frozen? ⟨h, 7, none⟩ = false := Blk.froz Y6 7)
              | (go_simp; go_at_call 50; refine (HJ2.out wc.drew hX.out HRd.out).mono ?_; rintro e w5 ⟨rfl, X5, K5⟩; have K5 := ((Kp.refl (Not1 g) wc).drew).trans K5; have Y5 := hY.out.kpn K5 HQ.out; have O5 := hO.out.keep (w' := w5) (fun b hb _ _ => K5.block b (show b ≠ g from fun e => hb (.inl (show b < w.heap.size by omega)))); have P5 := hP.out.keep (w' := w5) (fun b hb _ _ => K5.block b (show b ≠ g from fun e => hb (.inl (show b < w.heap.size by omega)))); have z5 := K5.size; have y57 : w5.cell? ⟨h, 7, none⟩ = some (.slice A' k c') := Y5.cells10 7; have y5a : (w5.alloc (.cells #[.int .i64 xv] 3)).cell? ⟨h, 7, none⟩ = some (.slice A' k c') := (Y5.alloc _).cells10 7; have y5f : w5.frozen? ⟨h, 7, none⟩ = false := Blk.froz Y5 7))
            all_goals
              have k7 := Kp.more (h := h) K5 hb6.offLt (by omega) 7 (.slice A5 (k + 1) c5)
              have gX := Lib.hid (X6.setH 7 (.slice A5 (k + 1) c5) HQ.out)
              have gY := Lib.hid (Y6.set_tab A5 (k + 1) c5)
              have gO := Lib.hid (ho6.set (p := ⟨h, 7, none⟩) (.inl hhs) (.slice A5 (k + 1) c5))
              have gP := Lib.hid (((P5.alloc _).swap ho6 hb6).set (p := ⟨h, 7, none⟩) (.inl hhs) (.slice A5 (k + 1) c5))
              have gR := Lib.hid (hR.out.old k7 hg hh hgs)
              have gK := Lib.hid (hK.out.trans k7)
              clear k7 X6 Y6 ho6 hb6 X5 Y5 O5 P5 K5 y67 y6f y57 y5f y5a
              go_wp2_with fail
              go_meet
              exact ⟨A5, c5, gX.out, gY.out, gO.out, gP.out, gK.out, gR.out⟩
          case rest =>
            have hMok := Lib.hid (allok_take (R := woR) hP.out.rg k)
            clear hX hY hP hO hR hK y0 y7 yf HRd HJ2
            obtain ⟨A5, c5, X, Y, O, P, K, R⟩ := hcut
            have gX := Lib.hid X
            have gY := Lib.hid Y
            have gP := Lib.hid P
            have gO := Lib.hid O
            have gR := Lib.hid R
            have gK := Lib.hid K
            clear X Y P O R K
            go_upto_region 37 with (fail)
            have hSx := HSS.out
            have hg1 : res.1.getD k 0 = xm := by rw [← hSx]; exact getD_mid M _ xm k hlM
            have hg2 : 0 < k → res.1.getD (k - 1) 0 = M.getD (k - 1) 0 := fun h => by rw [← hSx]; exact getD_front M _ (k - 1) (by omega)
            have hris : risN res.1 (k + 1) = (rb && (decide (k = 0) || decide (worth (res.1.getD (k - 1) 0) < worth xm))) := by rw [risN_succ, HRB.out, hg1]
            have HR2 := Lib.hid (show (M ++ [xm] ++ (lookL n l r.sc.at_ (cnt - (k + 1)) a5 s5).1, T ++ [xv] ++ (lookL n l r.sc.at_ (cnt - (k + 1)) a5 s5).2.1, (lookL n l r.sc.at_ (cnt - (k + 1)) a5 s5).2.2) = res by
              rw [show cnt - (k + 1) = j by omega, List.append_assoc, List.append_assoc]; exact HSS.out)
            have HRI := Lib.hid hris
            have hMk : 0 < k → (0 ≤ M.getD (k - 1) 0 ∧ M.getD (k - 1) 0 < 65536) := fun _ => by have := allok_getD (R := woR) hMok.out (k - 1); rwa [List.take_left' hlM] at this
            have hgd := hg2
            clear hSx hg1 hris
            cases rb
            · clear hg2 hMk hgd
              go_quiet (fail)
              go_wp2_with fail
              go_roundw
              case rel => exact ⟨k + 1, a5, s5, T ++ [xv], M ++ [xm], A5, c5, A4, c4, by omega, by go_num, by rw [HRI.out]; rfl, by omega, gX.out, gY.out, gO.out, gP.out, gK.out.drewN _, gR.out, HR2.out⟩
              case measure => simp [intOf]; omega
            · by_cases hk0 : k = 0
              · have q0 : ((k : Int) == 0) = true := by simpa using hk0
                have HK0 := Lib.hid hk0
                clear hg2 hMk hgd hk0
                go_quiet (fail)
                go_wp2_with fail
                go_roundw
                case rel => exact ⟨k + 1, a5, s5, T ++ [xv], M ++ [xm], A5, c5, A4, c4, by omega, by go_num, by rw [HRI.out, decide_eq_true HK0.out]; rfl, by omega, gX.out, gY.out, gO.out, gP.out, gK.out.drewN _, gR.out, HR2.out⟩
                case measure => simp [intOf]; omega
              · have q0 : ((k : Int) == 0) = false := beq_eq_false_iff_ne.2 (by omega)
                have hgp := gP.out.rv
                obtain ⟨b4, o4, hA4, hb4, d1⟩ := hgp.wo1 (k - 1) (by omega)
                obtain ⟨b6, o6, hA6, _, d2⟩ := hgp.wo1 k (by omega)
                rw [hA4] at hA6
                cases hA6
                rw [getD_front M [xm] (k - 1) (by omega)] at d1
                rw [getD_mid M [] xm k hlM] at d2
                have y8 : wc.cell? ⟨h, 8, none⟩ = some (.slice A4 (k + 1) c4) := gY.out.cells10 8
                rw [hA4] at y8
                have hb := hMk (by omega)
                rw [hg2 (by omega)] at HRI
                have HW1 := Lib.hid (fun W => worth_any (M.getD (k - 1) 0) W hb.1 hb.2)
                have HW2 := Lib.hid (fun W => worth_any xm W hvm.1 hvm.2)
                generalize M.getD (k - 1) 0 = xq at d1 HW1 HRI
                have e1 : ((k : Int) - 1).toNat = k - 1 := by omega
                have e2 : IntKind.i64.wrap ((k : Int) - 1) = (k : Int) - 1 := IntWalk.i64_in _ (by omega)
                have l1 : (0 : Int) ≤ (k : Int) - 1 := by omega
                have l2 : (k : Int) - 1 < (k : Int) + 1 := by omega
                have l3 : (k : Int) < (k : Int) + 1 := by omega
                have HK0 := Lib.hid (decide_eq_false hk0)
                clear hg2 hMk hgd hk0 hgp hb
                go_quiet (first | (with_reducible exact Calls.quiet_of_same (HW1.out _)) | (with_reducible exact Calls.quiet_of_same (HW2.out _)))
                go_wp2_with fail
                go_roundw
                case rel => exact ⟨k + 1, a5, s5, T ++ [xv], M ++ [xm], A5, c5, A4, c4, by omega, by go_num, by rw [HRI.out, HK0.out]; rfl, by omega, gX.out, gY.out, gO.out, gP.out, gK.out.drewN _, gR.out, HR2.out⟩
                case measure => simp [intOf]; omega
      · have he : lookL n l r.sc.at_ (cnt - k) a true = ([], [], a, true) := by
          cases cnt - k <;> rfl
        have hS := HS.out
        rw [he, List.append_nil, List.append_nil] at hS
        have HE := Lib.hid hS
        clear he hS
        go_wp2_with fail
        go_returns
        have hb := HRB.out
        rw [← HE.out] at hb ⊢
        subst hlT
        have hz := hlM
        first | exact ⟨rfl, HX.out, A', c', A2, c2, by rw [hlM]; exact HY.out, HO.out.offLt, by rw [hlM]; exact HP.out.offLt, HK.out⟩ | exact ⟨A', c', A2, c2, rfl, HX.out, by rw [hlM]; exact HY.out, HO.out.offLt, by rw [hlM]; exact HP.out.offLt, HK.out⟩
    · have he : lookL n l r.sc.at_ (cnt - k) a sb = ([], [], a, sb) := by
        rw [show cnt - k = 0 by omega]; rfl
      have hS := HS.out
      rw [he, List.append_nil, List.append_nil] at hS
      have HE := Lib.hid hS
      clear he hS
      cases sb
      all_goals
        cases rb
        all_goals
          go_wp2_with fail
          go_returns
          have hb := HRB.out
          rw [← HE.out] at hb ⊢
          subst hlT
          first | exact ⟨by simp only [hlM, hb]; rfl, HX.out, A', c', A2, c2, by rw [hlM]; exact HY.out, HO.out.offLt, by rw [hlM]; exact HP.out.offLt, HK.out⟩ | exact ⟨A', c', A2, c2, by simp only [hlM, hb]; rfl, HX.out, by rw [hlM]; exact HY.out, HO.out.offLt, by rw [hlM]; exact HP.out.offLt, HK.out⟩
end Go.Proofs.YtolifmpkillglaaGreatDoor
