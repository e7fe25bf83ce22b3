import Derived.Test.YtolifmpkillglaaGreatDoorIc
import Derived.Test.YtolifmpkillglaaGreatDoorHh
import Derived.Deep.CutRange
set_option linter.unusedVariables false
set_option maxRecDepth 100000
namespace Go.Proofs.YtolifmpkillglaaGreatDoor
open Go.RowKit
/-! A switch's rows: the places, and the matches. -/

def tabC (k : Nat) (f : Int) (b : List Int) (cnt : Nat) : List Int := (List.range cnt).map fun i => f + worth (wd b (if k = 7 then 4 * i + 2 else 2 * i))
def matC (k : Nat) (b : List Int) (cnt : Nat) : List Int := if k = 7 then (List.range cnt).map fun i => wd b (4 * i) else []
theorem tabC_succ (k : Nat) (f : Int) (b : List Int) (j : Nat) : tabC k f b (j + 1) = tabC k f b j ++ [f + worth (wd b (if k = 7 then 4 * j + 2 else 2 * j))] := by
  unfold tabC
  rw [List.range_succ, List.map_append]
  rfl
theorem matC_succ (b : List Int) (j : Nat) : matC 7 b (j + 1) = matC 7 b j ++ [wd b (4 * j)] := by
  unfold matC
  rw [if_pos rfl, if_pos rfl, List.range_succ, List.map_append]
  rfl
theorem tabC_len (k : Nat) (f : Int) (b : List Int) (j : Nat) : (tabC k f b j).length = j := by simp [tabC]
theorem matC_len (b : List Int) (j : Nat) : (matC 7 b j).length = j := by simp [matC]
/-- What fillRows leaves of an instruction's rows. -/
def RowsSaid (k : Nat) (f : Int) (b : List Int) (cnt : Nat) : Prop :=
  ∀ (t h : Nat) (S : Nat → Prop) (r : RI) (w : World), TL w t S b f → BX w h r → t ≠ h → ¬ S h → (∀ q, S q → q < w.heap.size) → r.tA = none ∧ r.tn = 0 ∧ r.tc = 0 → r.mA = none ∧ r.mn = 0 ∧ r.mc = 0 →
    Calls Tryz.prog 58 #[.pointer (some ⟨t, 0, none⟩), .pointer (some ⟨h, 0, none⟩), .int .u8 k, .int .i64 cnt] w fun e w' => ∃ A' c' A2 c2, e = .returned (.tuple #[]) ∧
      BX w' h { r with tA := A', tn := (tabC k f b cnt).length, tc := c', mA := A2, mn := (matC k b cnt).length, mc := c2 } ∧ OV inR 3 w' (Lt w.heap.size) A' (tabC k f b cnt).length c' (tabC k f b cnt) ∧ OV woR 24 w' (Lt w.heap.size) A2 (matC k b cnt).length c2 (matC k b cnt) ∧ Kp (Old w.heap.size t h) w w'
theorem fr_none (k : Nat) (hk : k < 12) (f : Int) (b : List Int) (h7 : k ≠ 7) : RowsSaid k f b 0 := by
  intro t h S r w X Y hne hh hSw ht hm
  have e1 : tabC k f b 0 = [] := rfl
  have e2 : matC k b 0 = [] := by unfold matC; rw [if_neg h7]
  rw [e1, e2]
  have HY : Hid (BX w h { r with tA := none, tn := 0, tc := 0, mA := none, mn := 0, mc := 0 }) := by
    obtain ⟨h1, h2, h3⟩ := ht
    obtain ⟨g1, g2, g3⟩ := hm
    cases r
    subst h1 h2 h3 g1 g2 g3
    exact Lib.hid Y
  clear X Y ht hm
  go_enter Tryz.func58, Tryz.ntmps58
  go_wp2_with fail
  go_loopw [9] (fun i wr => i = .int .i64 0 ∧ wr = w) (fun i _ => 0)
  case atStart => exact ⟨rfl, rfl⟩
  case round =>
    obtain ⟨rfl, rfl⟩ := hrel
    go_wp2_with fail
    go_returns
    exact ⟨none, 0, none, 0, rfl, HY.out, OV.nil_, OV.nil_, Kp.refl _ _⟩
theorem matC6 (b : List Int) (j : Nat) : matC 6 b j = [] := rfl
set_option maxHeartbeats 4000000 in
theorem fr_tab (f : Int) (b : List Int) (cnt : Nat) (f0 : 0 ≤ f) (f1 : f ≤ 281474976710656) (hb : 2 * cnt ≤ b.length) (hcs : cnt ≤ 65536) : RowsSaid 6 f b cnt := by
  intro t h S r w X Y hne hh hSw ht hm
  rw [tabC_len, matC6]
  have hts : t < w.heap.size := X.blk
  have hhs : h < w.heap.size := Blk.lt Y
  have HQ := Lib.hid hne
  have HQ2 := Lib.hid hne.symm
  have HY : Hid (BX w h { r with tA := none, tn := 0, tc := 0, mA := none, mn := 0, mc := 0 }) := by
    obtain ⟨h1, h2, h3⟩ := ht
    obtain ⟨g1, g2, g3⟩ := hm
    cases r
    subst h1 h2 h3 g1 g2 g3
    exact Lib.hid Y
  have HX := Lib.hid X
  clear X Y ht hm
  go_enter Tryz.func58, Tryz.ntmps58
  go_wp2_with fail
  go_loopw [9] (fun i wr => ∃ (k : Nat) (A' : Option Addr) (c' : Nat), k ≤ cnt ∧ i = .int .i64 k ∧ TL wr t S (b.drop (2 * k)) f ∧ BX wr h { r with tA := A', tn := k, tc := c', mA := none, mn := 0, mc := 0 } ∧ OV inR 3 wr (Lt w.heap.size) A' k c' (tabC 6 f b k) ∧ Kp (Old w.heap.size t h) w wr) (fun i _ => cnt - (intOf i).toNat)
  case atStart => exact ⟨0, none, 0, Nat.zero_le _, rfl, HX.out, HY.out, OV.nil_, Kp.refl _ _⟩
  case round =>
    obtain ⟨k, A', c', hk, rfl, X, Y, O, K⟩ := hrel
    clear HX HY
    have i1 : (k : Int) ≤ 65536 := by omega
    have i0 : (0 : Int) ≤ (k : Int) := by omega
    have HX := Lib.hid X
    have HY := Lib.hid Y
    have HO := Lib.hid O
    have HK := Lib.hid K
    clear X Y O K
    by_cases hlt : (k : Int) < (cnt : Int)
    · have HJ := Lib.hid (fun W X => takej_at t S b f (2 * k) W (by omega) X f0 f1)
      have hS := tabC_succ 6 f b k
      rw [if_neg (by decide)] at hS
      generalize f + worth (wd b (2 * k)) = xv at hS HJ
      have HS := Lib.hid hS
      clear hS
      have y7 : wr.cell? ⟨h, 7, none⟩ = some (.slice A' k c') := HY.out.cells10 7
      have yf : wr.frozen? ⟨h, 7, none⟩ = false := Blk.froz HY.out 7
      have hsr := HK.out.size
      have HXd : Hid (TL wr.drew t S (b.drop (2 * k)) f) := Lib.hid (HX.out.drewN 1)
      go_upto_region 4 with (fail)
      go_region_law (first
        | (refine step_appV inFit rfl (.tmp 28) (.tmp 31) rfl (Lt w.heap.size) A' k c' (tabC 6 f b k) rfl (OV.alloc O5 _) _ _ 1 1 [xv] rfl (rv_int _ _) (k + 1) rfl (tabC 6 f b k ++ [xv]) rfl (by omega) (by intro j h; (have h2 : j < w.heap.size := h); simp; omega) ?_; intro A4 c4 w6 ho6 hb6; have Y6 := Y5.kpl hb6 hhs; have X6 := (X5.below (Below.alloc (Below.refl _ _) (Nat.le_refl _) _)).kp hb6 (fun q hq => show q < w.heap.size from hq.elim (hSw q) (fun e => e ▸ hts)); have y67 : w6.cell? ⟨h, 7, none⟩ = some (.slice A' k c') := Y6.cells10 7; have y6f : w6.frozen? ⟨h, 7, none⟩ = false := Blk.froz Y6 7)
        | (go_simp; go_at_call 69; refine (HJ.out wr.drew HXd.out).mono ?_; rintro e w5 ⟨rfl, X5, K5⟩; have K5 := ((Kp.refl (Not1 t) wr).drew).trans K5; have Y5 := HY.out.kpn K5 HQ.out; have O5 := HO.out.keep (w' := w5) (fun q hq _ _ => K5.block q (show q ≠ t from fun e => hq (show q < w.heap.size by omega))); have z5 := K5.size; have y57 : w5.cell? ⟨h, 7, none⟩ = some (.slice A' k c') := Y5.cells10 7; have y5a : (w5.alloc (.cells #[.int .i64 xv] 3)).cell? ⟨h, 7, none⟩ = some (.slice A' k c') := (Y5.alloc _).cells10 7; have y5f : w5.frozen? ⟨h, 7, none⟩ = false := Blk.froz Y5 7))
      all_goals
        have k7 := Kp.more (h := h) K5 hb6 (by omega) 7 (.slice A4 (k + 1) c4)
        have hX := Lib.hid (X6.other ⟨h, 7, none⟩ (.slice A4 (k + 1) c4) hh HQ2.out)
        have hY := Lib.hid (Y6.set_tab A4 (k + 1) c4)
        have hO := Lib.hid (ho6.set (p := ⟨h, 7, none⟩) hhs (.slice A4 (k + 1) c4))
        have hK := Lib.hid (HK.out.trans k7)
        clear k7 X6 Y6 ho6 hb6 X5 Y5 O5 K5 y67 y6f y57 y5f y5a
        generalize w6.setCell ⟨h, 7, none⟩ (.slice A4 (k + 1) c4) = w7 at hX hY hO hK ⊢
        go_wp2_with fail
        go_roundw
        case rel => exact ⟨k + 1, by omega, by go_num, hX.out, A4, c4, hY.out, by rw [HS.out]; exact hO.out, hK.out⟩
        case measure => simp [intOf]; omega
    · obtain rfl : k = cnt := by omega
      go_wp2_with fail
      go_returns
      exact ⟨rfl, A', c', none, 0, HY.out, HO.out, OV.nil_, HK.out⟩
set_option maxHeartbeats 4000000 in
theorem fr_look (f : Int) (b : List Int) (cnt : Nat) (f0 : 0 ≤ f) (f1 : f ≤ 281474976710656) (hb : 4 * cnt ≤ b.length) (hcs : cnt ≤ 65536) : RowsSaid 7 f b cnt := by
  intro t h S r w X Y hne hh hSw ht hm
  rw [tabC_len, matC_len]
  have hts : t < w.heap.size := X.blk
  have hhs : h < w.heap.size := Blk.lt Y
  have HQ := Lib.hid hne
  have HQ2 := Lib.hid hne.symm
  have hrg := X.rg
  have HY : Hid (BX w h { r with tA := none, tn := 0, tc := 0, mA := none, mn := 0, mc := 0 }) := by
    obtain ⟨h1, h2, h3⟩ := ht
    obtain ⟨g1, g2, g3⟩ := hm
    cases r
    subst h1 h2 h3 g1 g2 g3
    exact Lib.hid Y
  have HX := Lib.hid X
  have X : TL w t S (b.drop (4 * 0)) f := by simpa using X
  have HX := Lib.hid X
  clear X Y ht hm
  go_enter Tryz.func58, Tryz.ntmps58
  go_wp2_with fail
  go_loopw [9] (fun i wr => ∃ (k : Nat) (A' : Option Addr) (c' : Nat) (A2 : Option Addr) (c2 : Nat), k ≤ cnt ∧ i = .int .i64 k ∧ TL wr t S (b.drop (4 * k)) f ∧ BX wr h { r with tA := A', tn := k, tc := c', mA := A2, mn := k, mc := c2 } ∧ OV inR 3 wr (Off A2 w.heap.size) A' k c' (tabC 7 f b k) ∧ OV woR 24 wr (Off A' w.heap.size) A2 k c2 (matC 7 b k) ∧ Kp (Old w.heap.size t h) w wr) (fun i _ => cnt - (intOf i).toNat)
  case atStart => exact ⟨0, none, 0, none, 0, Nat.zero_le _, rfl, HX.out, HY.out, OV.nil_, OV.nil_, Kp.refl _ _⟩
  case round =>
    obtain ⟨k, A', c', A2, c2, hk, rfl, X, Y, O, P, K⟩ := hrel
    clear HX HY
    have i1 : (k : Int) ≤ 65536 := by omega
    have i0 : (0 : Int) ≤ (k : Int) := by omega
    have HX := Lib.hid X
    have HY := Lib.hid Y
    have HO := Lib.hid O
    have HP := Lib.hid P
    have HK := Lib.hid K
    clear X Y O P K
    by_cases hlt : (k : Int) < (cnt : Int)
    · have HJ1 := Lib.hid (fun W X => takew_at t S b f (4 * k) W (by omega) X)
      have HJ2 := Lib.hid (fun W X => takej_at t S b f (4 * k + 2) W (by omega) X f0 f1)
      have hS := tabC_succ 7 f b k
      rw [if_pos rfl] at hS
      have hM := matC_succ b k
      have hvm := wd_rg b hrg (4 * k)
      generalize f + worth (wd b (4 * k + 2)) = xv at hS HJ2
      generalize wd b (4 * k) = xm at hM HJ1 hvm
      have HS := Lib.hid hS
      have HM := Lib.hid hM
      clear hS hM
      have hmm : xm % 65536 = xm := Int.emod_eq_of_lt hvm.1 hvm.2
      have hmw : IntKind.u16.wrap xm = xm := IntWalk.u16_in _ (by omega)
      have y8 : wr.cell? ⟨h, 8, none⟩ = some (.slice A2 k c2) := HY.out.cells10 8
      have yf : wr.frozen? ⟨h, 8, none⟩ = false := Blk.froz HY.out 8
      have hsr := HK.out.size
      have HXd : Hid (TL wr.drew t S (b.drop (4 * k)) f) := Lib.hid (HX.out.drewN 1)
      go_upto_region 3 with (fail)
      go_cut [9] from 9 to 35 (fun i wx => i = .int .i64 k ∧ ∃ (A4 : Option Addr) (c4 : Nat), TL wx t S (b.drop (4 * k + 2)) f ∧ BX wx h { r with tA := A', tn := k, tc := c', mA := A4, mn := k + 1, mc := c4 } ∧ OV inR 3 wx (Off A4 w.heap.size) A' k c' (tabC 7 f b k) ∧ OV woR 24 wx (Off A' w.heap.size) A4 (k + 1) c4 (matC 7 b (k + 1)) ∧ Kp (Old w.heap.size t h) w wx)
      case first =>
        go_region_law (first
          | (refine step_appV woFit rfl (.tmp 17) (.tmp 20) rfl (Off A' w.heap.size) A2 k c2 (matC 7 b k) rfl (OV.alloc P5 _) _ _ 1 1 [xm] rfl (rv_wo _ _ hvm.1 hvm.2) (k + 1) rfl (matC 7 b k ++ [xm]) rfl (by omega) (fun q hq => by have h2 := O5.off_lt (by omega) q hq; simp; omega) ?_; intro A4 c4 w6 ho6 hb6; have Y6 := Y5.kpl hb6.offLt hhs; have X6 := (X5.below (Below.alloc (Below.refl _ _) (Nat.le_refl _) _)).kp hb6.offLt (fun q hq => show q < w.heap.size from hq.elim (hSw q) (fun e => e ▸ hts)); have y67 : w6.cell? ⟨h, 8, none⟩ = some (.slice A2 k c2) := Y6.cells10 8; have y6f : w6.frozen? ⟨h, 8, none⟩ = false := Blk.froz Y6 8)
          | (go_simp; go_at_call 68; refine (HJ1.out wr.drew HXd.out).mono ?_; rintro e w5 ⟨rfl, X5, K5⟩; have K5 := ((Kp.refl (Not1 t) wr).drew).trans K5; have Y5 := HY.out.kpn K5 HQ.out; have O5 := HO.out.keep (w' := w5) (fun q hq _ _ => K5.block q (show q ≠ t from fun e => hq (.inl (show q < w.heap.size by omega)))); have P5 := HP.out.keep (w' := w5) (fun q hq _ _ => K5.block q (show q ≠ t from fun e => hq (.inl (show q < w.heap.size by omega)))); have z5 := K5.size; have y57 : w5.cell? ⟨h, 8, none⟩ = some (.slice A2 k c2) := Y5.cells10 8; have y5a : (w5.alloc (.cells #[.int .u16 xm] 24)).cell? ⟨h, 8, none⟩ = some (.slice A2 k c2) := (Y5.alloc _).cells10 8; have y5f : w5.frozen? ⟨h, 8, none⟩ = false := Blk.froz Y5 8))
        all_goals
          have k7 := Kp.more (h := h) K5 hb6.offLt (by omega) 8 (.slice A4 (k + 1) c4)
          have hX := Lib.hid (X6.other ⟨h, 8, none⟩ (.slice A4 (k + 1) c4) hh HQ2.out)
          have hY := Lib.hid (Y6.set_mat A4 (k + 1) c4)
          have hP := Lib.hid (ho6.set (p := ⟨h, 8, none⟩) (.inl hhs) (.slice A4 (k + 1) c4))
          have hO := Lib.hid (((O5.alloc _).swap ho6 hb6).set (p := ⟨h, 8, none⟩) (.inl hhs) (.slice A4 (k + 1) c4))
          have hK := Lib.hid (HK.out.trans k7)
          clear k7 X6 Y6 ho6 hb6 X5 Y5 O5 P5 K5 y67 y6f y57 y5f y5a
          generalize w6.setCell ⟨h, 8, none⟩ (.slice A4 (k + 1) c4) = w7 at hX hY hO hP hK ⊢
          go_wp2_with fail
          go_meet
          exact ⟨rfl, A4, c4, hX.out, hY.out, hO.out, by rw [HM.out]; exact hP.out, hK.out⟩
      case rest =>
        obtain ⟨rfl, A4, c4, X, Y, O, P, K⟩ := hcut
        clear HX HY HO HP HK HXd y8 yf
        have HX := Lib.hid X
        have HY := Lib.hid Y
        have HO := Lib.hid O
        have HP := Lib.hid P
        have HK := Lib.hid K
        clear X Y O P K
        have y7 : wc.cell? ⟨h, 7, none⟩ = some (.slice A' k c') := HY.out.cells10 7
        have yf : wc.frozen? ⟨h, 7, none⟩ = false := Blk.froz HY.out 7
        have hsc := HK.out.size
        have HXd : Hid (TL wc.drew t S (b.drop (4 * k + 2)) f) := Lib.hid (HX.out.drewN 1)
        go_upto_region 4 with (fail)
        go_region_law (first
          | (refine step_appV inFit rfl (.tmp 28) (.tmp 31) rfl (Off A4 w.heap.size) A' k c' (tabC 7 f b k) rfl (OV.alloc O5 _) _ _ 1 1 [xv] rfl (rv_int _ _) (k + 1) rfl (tabC 7 f b k ++ [xv]) rfl (by omega) (fun q hq => by have h2 := P5.off_lt (by omega) q hq; simp; omega) ?_; intro A5 c5 w8 ho6 hb6; have Y6 := Y5.kpl hb6.offLt hhs; have X6 := (X5.below (Below.alloc (Below.refl _ _) (Nat.le_refl _) _)).kp hb6.offLt (fun q hq => show q < w.heap.size from hq.elim (hSw q) (fun e => e ▸ hts)); have y67 : w8.cell? ⟨h, 7, none⟩ = some (.slice A' k c') := Y6.cells10 7; have y6f : w8.frozen? ⟨h, 7, none⟩ = false := Blk.froz Y6 7)
          | (go_simp; go_at_call 69; refine (HJ2.out wc.drew HXd.out).mono ?_; rintro e w5 ⟨rfl, X5, K5⟩; have K5 := ((Kp.refl (Not1 t) wc).drew).trans K5; have Y5 := HY.out.kpn K5 HQ.out; have O5 := HO.out.keep (w' := w5) (fun q hq _ _ => K5.block q (show q ≠ t from fun e => hq (.inl (show q < w.heap.size by omega)))); have P5 := HP.out.keep (w' := w5) (fun q hq _ _ => K5.block q (show q ≠ t from fun e => hq (.inl (show q < w.heap.size by omega)))); have z5 := K5.size; have y57 : w5.cell? ⟨h, 7, none⟩ = some (.slice A' k c') := Y5.cells10 7; have y5a : (w5.alloc (.cells #[.int .i64 xv] 3)).cell? ⟨h, 7, none⟩ = some (.slice A' k c') := (Y5.alloc _).cells10 7; have y5f : w5.frozen? ⟨h, 7, none⟩ = false := Blk.froz Y5 7))
        all_goals
          have k7 := Kp.more (h := h) K5 hb6.offLt (by omega) 7 (.slice A5 (k + 1) c5)
          have hX := Lib.hid (X6.other ⟨h, 7, none⟩ (.slice A5 (k + 1) c5) hh HQ2.out)
          have hY := Lib.hid (Y6.set_tab A5 (k + 1) c5)
          have hO := Lib.hid (ho6.set (p := ⟨h, 7, none⟩) (.inl hhs) (.slice A5 (k + 1) c5))
          have hP := Lib.hid (((P5.alloc _).swap ho6 hb6).set (p := ⟨h, 7, none⟩) (.inl hhs) (.slice A5 (k + 1) c5))
          have hK := Lib.hid (HK.out.trans k7)
          clear k7 X6 Y6 ho6 hb6 X5 Y5 O5 P5 K5 y67 y6f y57 y5f y5a
          generalize w8.setCell ⟨h, 7, none⟩ (.slice A5 (k + 1) c5) = w9 at hX hY hO hP hK ⊢
          go_wp2_with fail
          go_roundw
          case rel => exact ⟨k + 1, by omega, by go_num, hX.out, A5, c5, A4, c4, hY.out, by rw [HS.out]; exact hO.out, hP.out, hK.out⟩
          case measure => simp [intOf]; omega
    · obtain rfl : k = cnt := by omega
      go_wp2_with fail
      go_returns
      exact ⟨rfl, A', c', A2, c2, HY.out, HO.out.offLt, HP.out.offLt, HK.out⟩
end Go.Proofs.YtolifmpkillglaaGreatDoor
