import Derived.Test.YtolifmpkillglaaGreatDoorIa
import Derived.Test.YtolifmpkillglaaGreatDoorHf
import Derived.Test.YtolifmpkillglaaGreatDoorGe
set_option linter.unusedVariables false
set_option maxRecDepth 100000
namespace Go.Proofs.YtolifmpkillglaaGreatDoor
open Go.RowKit
/-! How many bytes stand behind a number; Kinds; jumps that are taken off. -/
def hdS : Nat → Nat
  | 1 => 1 | 2 => 2 | 3 => 1 | 4 => 2 | 5 => 2 | 6 => 6 | 7 => 4 | 8 => 2 | 9 => 4 | 10 => 1 | 11 => 3 | _ => 0
def rwS : Nat → Nat
  | 6 => 2 | 7 => 4 | _ => 0
theorem hd_any (k : Nat) (hk : k < 12) (w : World) : Calls Tryz.prog 18 #[.int .u8 k] w fun e w' => e = .returned (.int .i64 (hdS k)) ∧ w' = w := by
  have h : k = 0 ∨ k = 1 ∨ k = 2 ∨ k = 3 ∨ k = 4 ∨ k = 5 ∨ k = 6 ∨ k = 7 ∨ k = 8 ∨ k = 9 ∨ k = 10 ∨ k = 11 := by omega
  rcases h with rfl | rfl | rfl | rfl | rfl | rfl | rfl | rfl | rfl | rfl | rfl | rfl
  all_goals
    go_enter Tryz.func18, Tryz.ntmps18
    go_wp2_with fail
    go_returns
    exact ⟨rfl, rfl⟩
theorem rw_any (k : Nat) (hk : k < 12) (w : World) : Calls Tryz.prog 19 #[.int .u8 k] w fun e w' => e = .returned (.int .i64 (rwS k)) ∧ w' = w := by
  have h : k = 0 ∨ k = 1 ∨ k = 2 ∨ k = 3 ∨ k = 4 ∨ k = 5 ∨ k = 6 ∨ k = 7 ∨ k = 8 ∨ k = 9 ∨ k = 10 ∨ k = 11 := by omega
  rcases h with rfl | rfl | rfl | rfl | rfl | rfl | rfl | rfl | rfl | rfl | rfl | rfl
  all_goals
    go_enter Tryz.func19, Tryz.ntmps19
    go_wp2_with fail
    go_returns
    exact ⟨rfl, rfl⟩
def byCl (x : Int) : Bool := x == 0 || x == 7
def ofNum (x : Int) : Bool := decide (4 ≤ x) && decide (x ≤ 6)
theorem bycl_any (x : Int) (w : World) : Calls Tryz.prog 71 #[.int .i64 x] w fun e w' => e = .returned (.bool (byCl x)) ∧ w' = w := by
  unfold byCl
  by_cases h0 : x = 0
  · subst h0
    go_enter Tryz.func71, Tryz.ntmps71
    go_wp2_with fail
    go_returns
    exact ⟨rfl, rfl⟩
  · have b0 : (x == 0) = false := by simpa using h0
    by_cases h7 : x = 7
    · subst h7
      go_enter Tryz.func71, Tryz.ntmps71
      go_wp2_with fail
      go_returns
      exact ⟨rfl, rfl⟩
    · have b7 : (x == 7) = false := by simpa using h7
      rw [b0, b7]
      go_enter Tryz.func71, Tryz.ntmps71
      go_wp2_with fail
      go_returns
      exact ⟨rfl, rfl⟩
theorem ofnum_any (x : Int) (w : World) : Calls Tryz.prog 72 #[.int .i64 x] w fun e w' => e = .returned (.bool (ofNum x)) ∧ w' = w := by
  unfold ofNum
  by_cases h4 : 4 ≤ x
  · have b4 : decide (4 ≤ x) = true := by simpa using h4
    by_cases h6 : x ≤ 6
    · have b6 : decide (x ≤ 6) = true := by simpa using h6
      rw [b4, b6]
      go_enter Tryz.func72, Tryz.ntmps72
      go_wp2_with fail
      go_returns
      exact ⟨rfl, rfl⟩
    · have b6 : decide (x ≤ 6) = false := by simpa using h6
      rw [b4, b6]
      go_enter Tryz.func72, Tryz.ntmps72
      go_wp2_with fail
      go_returns
      exact ⟨rfl, rfl⟩
  · have b4 : decide (4 ≤ x) = false := by simpa using h4
    rw [b4]
    go_enter Tryz.func72, Tryz.ntmps72
    go_wp2_with fail
    go_returns
    exact ⟨rfl, rfl⟩
theorem TL.c1 {w : World} {t : Nat} {S : Nat → Prop} {l : List Int} {f : Int} (h : TL w t S l f) : w.cell? ⟨t, 1, none⟩ = some (.int .i64 f) := by obtain ⟨A, n, c, B, h, _⟩ := h; exact h.cell 1
theorem takej_any (t : Nat) (S : Nat → Prop) (l : List Int) (f : Int) (w : World) (h : 2 ≤ l.length) (X : TL w t S l f) (f0 : 0 ≤ f) (f1 : f ≤ 281474976710656) :
    Calls Tryz.prog 69 #[.pointer (some ⟨t, 0, none⟩)] w fun e w' => e = .returned (.int .i64 (f + worth (wd l 0))) ∧ TL w' t S (l.drop 2) f ∧ Kp (Not1 t) w w' := by
  have HT := Lib.hid (fun W X => takew_any t S l f W h X)
  have hb := wd_rg l X.rg 0
  have y1 := X.c1
  have hg := worth_rg (wd l 0) hb.1 hb.2
  have HW := Lib.hid (fun W => cworth_any (wd l 0) W hb.1 hb.2)
  generalize worth (wd l 0) = y at HW hg ⊢
  generalize wd l 0 = x at HT HW hb
  have HX : Hid (TL w.drew t S l f) := Lib.hid (X.drewN 1)
  have HWR : Hid (IntKind.i64.wrap (f + y) = f + y) := Lib.hid (IntWalk.i64_in _ (by omega))
  clear X
  go_enter Tryz.func69, Tryz.ntmps69
  go_upto_region 1 with (fail)
  go_region_law (first
    | (go_simp; go_at_call 68; refine (HT.out w.drew HX.out).mono ?_; rintro e w1 ⟨rfl, X1, K1⟩; have y11 := X1.c1)
    | (go_simp; go_at_call 73; refine (HW.out _).mono ?_; rintro e w2 ⟨rfl, hw⟩; obtain rfl := hw.symm))
  all_goals
    have HX1 := Lib.hid X1
    have HK1 : Hid (Kp (Not1 t) w w1) := Lib.hid (((Kp.refl (Not1 t) w).drew).trans K1)
    clear X1 K1
    go_wp2_with fail
    go_returns
    exact ⟨by show Ending.returned (.int .i64 (IntKind.i64.wrap (f + y))) = _; rw [HWR.out], HX1.out, HK1.out⟩
/-- How many places a table has from the lowest to the highest. -/
def rowsT (lo hi : Int) : Int := if worth hi < worth lo then -1 else worth hi - worth lo + 1
theorem rowsTo_any (lo hi : Int) (w : World) (a0 : 0 ≤ lo) (a1 : lo < 65536) (b0 : 0 ≤ hi) (b1 : hi < 65536) : Calls Tryz.prog 70 #[.int .u16 lo, .int .u16 hi] w fun e w' => e = .returned (.int .i64 (rowsT lo hi)) ∧ ∃ q, w' = w.drewN q := by
  unfold rowsT
  have ha := worth_rg lo a0 a1
  have hb := worth_rg hi b0 b1
  have HA := Lib.hid (fun W => cworth_any lo W a0 a1)
  have HB := Lib.hid (fun W => cworth_any hi W b0 b1)
  generalize worth lo = x at HA ha ⊢
  generalize worth hi = y at HB hb ⊢
  by_cases h : y < x
  · rw [if_pos h]
    go_enter Tryz.func70, Tryz.ntmps70
    go_wp2_with (first | (with_reducible refine (HB.out _).mono ?_; rintro e w2 ⟨rfl, hw⟩; obtain rfl := hw.symm) | (with_reducible refine (HA.out _).mono ?_; rintro e w2 ⟨rfl, hw⟩; obtain rfl := hw.symm))
    go_returns
    exact ⟨rfl, 0, rfl⟩
  · rw [if_neg h]
    go_enter Tryz.func70, Tryz.ntmps70
    go_wp2_with (first | (with_reducible refine (HB.out _).mono ?_; rintro e w2 ⟨rfl, hw⟩; obtain rfl := hw.symm) | (with_reducible refine (HA.out _).mono ?_; rintro e w2 ⟨rfl, hw⟩; obtain rfl := hw.symm))
    go_returns
    exact ⟨rfl, 0, rfl⟩
end Go.Proofs.YtolifmpkillglaaGreatDoor
