import Derived.Test.YtolifmpkillglaaGreatDoorDd
import Derived.Test.YtolifmpkillglaaGreatDoorFa
set_option linter.unusedVariables false
set_option maxRecDepth 100000
namespace Go.Proofs.YtolifmpkillglaaGreatDoor
open Go.RowKit
/-! The document's taker: one byte, two bytes, a jump; worths; a word's bytes. -/
theorem numh_1 (l : List Int) (i : Nat) (h : i < l.length) : num ((l.drop i).take 1) = l.getD i 0 := by
  rw [List.drop_eq_getElem_cons h, List.getD_eq_getElem?_getD, List.getElem?_eq_getElem h, List.take_succ_cons, List.take_zero]
  simp [num]
theorem numh_2 (l : List Int) (i : Nat) (h : i + 1 < l.length) : num ((l.drop i).take 2) = 256 * l.getD i 0 + l.getD (i + 1) 0 := by
  rw [List.drop_eq_getElem_cons (by omega), List.drop_eq_getElem_cons (i := i + 1) h, List.getD_eq_getElem?_getD, List.getElem?_eq_getElem (by omega), List.getD_eq_getElem?_getD, List.getElem?_eq_getElem h, List.take_succ_cons, List.take_succ_cons, List.take_zero]
  simp [num]
def worth (x : Int) : Int := if 32768 ≤ x then x - 65536 else x
theorem worth_any (x : Int) (w : World) (h0 : 0 ≤ x) (h1 : x < 65536) : Calls Tryz.prog 30 #[.int .u16 x] w fun e w' => e = .returned (.int .i64 (worth x)) ∧ w' = w := by
  unfold worth
  by_cases h : 32768 ≤ x
  · rw [if_pos h]
    go_enter Tryz.func30, Tryz.ntmps30
    go_wp2_with fail
    go_returns
    exact ⟨rfl, rfl⟩
  · rw [if_neg h]
    go_enter Tryz.func30, Tryz.ntmps30
    go_wp2_with fail
    go_returns
    exact ⟨rfl, rfl⟩
def TK (w : World) (g : Nat) (A : Option Addr) (n c : Nat) (at_ : Nat) (s : Bool) : Prop := Blk w g #[.slice A n c, .int .i64 at_, .bool s] 64
def v1 (l : List Int) (i : Nat) : Int := if i + 1 ≤ l.length then l.getD i 0 else 0
def Not1 (g : Nat) : Nat → Prop := fun k => k ≠ g
theorem Kp.set1 {w : World} {g : Nat} (k : Nat) (v : Value) : Kp (Not1 g) w (w.setCell ⟨g, k, none⟩ v) := (Kp.refl _ _).setCell (fun h => h rfl) v
theorem TK.upd {w : World} {g n c at_ : Nat} {A : Option Addr} {s : Bool} (X : TK w g A n c at_ s) (q : Nat) (s' : Bool) (at' : Nat) (z : Int) (hz : z = at') :
    TK (((w.drewN q).setCell ⟨g, 2, none⟩ (.bool s')).setCell ⟨g, 1, none⟩ (.int .i64 z)) g A n c at' s' := by
  subst hz
  have := ((Blk.drewN X q).set 2 (.bool s')).set 1 (.int .i64 at')
  simpa [TK] using this
theorem Kp.upd {w : World} {g : Nat} (q : Nat) (u v : Value) : Kp (Not1 g) w (((w.drewN q).setCell ⟨g, 2, none⟩ u).setCell ⟨g, 1, none⟩ v) :=
  (((Kp.refl _ _).drewN q).setCell (fun h => h rfl) u).setCell (fun h => h rfl) v
/-- What Get answers of s bytes at a place: the number, or its error. -/
def getE (n : Nat) (at_ s : Nat) : Int := if at_ + s ≤ n then 0 else if at_ ≤ n then 4 else 2
def getV (l : List Int) (at_ s : Nat) : Int := if at_ + s ≤ l.length then num ((l.drop at_).take s) else 0
theorem refget_all (A : Option Addr) (n c B at_ s : Nat) (l : List Int) (w : World) (hn : n ≤ c) (hc : n ≤ 281474976710656) (hr : Rd w B A n l) (hs : s = 1 ∨ s = 2) :
    Calls Tryz.prog 62 #[.slice A n c, .int .i64 at_, .int .i64 s] w fun e w' => e = .returned (.tuple #[.int .u32 (getV l at_ s), .int .i64 (getE n at_ s)]) ∧ w' = w := by
  have hl := hr.len
  have hs2 : s = 1 ∨ s = 2 ∨ s = 4 := hs.elim .inl (fun h => .inr (.inl h))
  have hs3 : (s : Int) = 1 ∨ (s : Int) = 2 ∨ (s : Int) = 4 := by omega
  unfold getV getE
  by_cases h : at_ + s ≤ n
  · rw [if_pos (by omega), if_pos h]
    exact (refget_ok A n c B at_ s l w hn hc hr hs2 h).mono fun e w' ⟨he, hw⟩ => ⟨he, hw.symm⟩
  · rw [if_neg (by omega), if_neg h]
    by_cases h2 : at_ ≤ n
    · rw [if_pos h2]
      exact (refget_short A n c at_ s w hn hc hs3 (by omega) (by omega) (by omega)).mono fun e w' ⟨he, hw⟩ => ⟨he, hw.symm⟩
    · rw [if_neg h2]
      exact (refget_arg A n c at_ s w hn hc (.inr (.inr (by omega)))).mono fun e w' ⟨he, hw⟩ => ⟨he, hw.symm⟩
theorem getV_rg (l : List Int) (hr : rng l) (at_ s : Nat) (hs : s = 1 ∨ s = 2) : 0 ≤ getV l at_ s ∧ getV l at_ s < 65536 := by
  unfold getV
  by_cases h : at_ + s ≤ l.length
  · rw [if_pos h]
    have b1 := rng_getD hr at_
    have b2 := rng_getD hr (at_ + 1)
    rcases hs with rfl | rfl
    · rw [numh_1 l at_ (by omega)]; omega
    · rw [numh_2 l at_ (by omega)]; omega
  · rw [if_neg h]; omega
theorem getE_ne (n at_ s : Nat) : (getE n at_ s != 0) = decide (n < at_ + s) := by
  unfold getE
  by_cases h : at_ + s ≤ n
  · rw [if_pos h, decide_eq_false (by omega)]; rfl
  · rw [if_neg h, decide_eq_true (by omega)]
    by_cases h2 : at_ ≤ n
    · rw [if_pos h2]; rfl
    · rw [if_neg h2]; rfl
theorem one_any (A : Option Addr) (n c B at_ g : Nat) (s : Bool) (l : List Int) (w : World) (X : TK w g A n c at_ s) (hr : Rd w B A n l) (hn : n ≤ c) (hc : n ≤ 281474976710656) (ha : at_ ≤ 1000000000000000) :
    Calls Tryz.prog 48 #[.pointer (some ⟨g, 0, none⟩)] w fun e w' => e = .returned (.int .i64 (getV l at_ 1)) ∧ TK w' g A n c (at_ + 1) (s || decide (n < at_ + 1)) ∧ Kp (Not1 g) w w' := by
  have y0 : w.cell? ⟨g, 0, none⟩ = some (.slice A n c) := X.cell 0
  have y1 : w.cell? ⟨g, 1, none⟩ = some (.int .i64 at_) := X.cell 1
  have y2 : w.cell? ⟨g, 2, none⟩ = some (.bool s) := X.cell 2
  have f1 := X.froz 1
  have f2 := X.froz 2
  have HR := Lib.hid hr
  have HX := Lib.hid X
  have HG := Lib.hid (fun w (hr : Rd w B A n l) => refget_all A n c B at_ 1 l w hn hc hr (.inl rfl))
  have hb := getV_rg l hr.rg at_ 1 (.inl rfl)
  have hE := getE_ne n at_ 1
  generalize getV l at_ 1 = x at HG hb ⊢
  generalize getE n at_ 1 = er at HG hE
  rw [← hE]
  clear hr X hE
  cases s
  all_goals
    go_enter Tryz.func48, Tryz.ntmps48
    go_wp2_with fail
    go_quiet (exact Calls.quiet_of_same (HG.out _ (HR.out.drewN _)))
    go_wp2_with fail
    go_returns
    exact ⟨rfl, TK.upd HX.out nq _ _ _ (by omega), Kp.upd nq _ _⟩
/-- Two bytes: the number, the place behind, and whether it was short. -/
def twoV (l : List Int) (at_ : Nat) (s : Bool) : Int := if s || decide (l.length < at_) then 0 else getV l at_ 2
def twoA (n : Nat) (at_ : Nat) (s : Bool) : Nat := if s || decide (n < at_) then at_ else at_ + 2
def twoS (n : Nat) (at_ : Nat) (s : Bool) : Bool := s || decide (n < at_ + 2)
theorem two_any (A : Option Addr) (n c B at_ g : Nat) (s : Bool) (l : List Int) (w : World) (X : TK w g A n c at_ s) (hr : Rd w B A n l) (hn : n ≤ c) (hc : n ≤ 281474976710656) (ha : at_ ≤ 1000000000000000) :
    Calls Tryz.prog 49 #[.pointer (some ⟨g, 0, none⟩)] w fun e w' => e = .returned (.int .i64 (twoV l at_ s)) ∧ TK w' g A n c (twoA n at_ s) (twoS n at_ s) ∧ Kp (Not1 g) w w' := by
  have hl := hr.len
  have y0 : w.cell? ⟨g, 0, none⟩ = some (.slice A n c) := X.cell 0
  have y1 : w.cell? ⟨g, 1, none⟩ = some (.int .i64 at_) := X.cell 1
  have y2 : w.cell? ⟨g, 2, none⟩ = some (.bool s) := X.cell 2
  have f1 := X.froz 1
  have f2 := X.froz 2
  have HR := Lib.hid hr
  have HX := Lib.hid X
  unfold twoV twoA twoS
  rw [hl]
  cases s
  · by_cases h : n < at_
    · have hd : decide ((n : Int) < at_) = true := by rw [decide_eq_true_eq]; omega
      rw [decide_eq_true h, decide_eq_true (show n < at_ + 2 by omega)]
      clear hr X
      go_enter Tryz.func49, Tryz.ntmps49
      go_wp2_with fail
      go_quiet (fail)
      go_wp2_with fail
      go_returns
      refine ⟨rfl, ?_, ((Kp.refl _ _).drewN nq).setCell (fun h => h rfl) _⟩
      have := (Blk.drewN HX.out nq).set 2 (.bool true)
      simpa [TK] using this
    · have hd : decide ((n : Int) < at_) = false := by rw [decide_eq_false_iff_not]; omega
      have hle : (at_ : Int) ≤ n := by omega
      have HG := Lib.hid (fun w (hr : Rd w B A n l) => refget_all A n c B at_ 2 l w hn hc hr (.inr rfl))
      have hb := getV_rg l hr.rg at_ 2 (.inr rfl)
      have hE := getE_ne n at_ 2
      generalize getV l at_ 2 = x at HG hb ⊢
      generalize getE n at_ 2 = er at HG hE
      rw [← hE, decide_eq_false h]
      clear hr X hE
      go_enter Tryz.func49, Tryz.ntmps49
      go_wp2_with fail
      go_quiet (fail)
      have HX1 := Lib.hid (Blk.drewN HX.out nq)
      have HR1 := Lib.hid (HR.out.drewN nq)
      have HK1 := Lib.hid ((Kp.refl (Not1 g) w).drewN nq)
      clear y0 y1 y2 f1 f2
      generalize w.drewN nq = w1 at HX1 HR1 HK1 ⊢
      have y0 : w1.cell? ⟨g, 0, none⟩ = some (.slice A n c) := HX1.out.cell 0
      have y1 : w1.cell? ⟨g, 1, none⟩ = some (.int .i64 at_) := HX1.out.cell 1
      have y2 : w1.cell? ⟨g, 2, none⟩ = some (.bool false) := HX1.out.cell 2
      have f1 := HX1.out.froz 1
      have f2 := HX1.out.froz 2
      go_wp2_with fail
      go_quiet (exact Calls.quiet_of_same (HG.out _ (HR1.out.drewN _)))
      go_wp2_with fail
      go_returns
      exact ⟨rfl, TK.upd HX1.out nq _ _ _ (by omega), HK1.out.trans (Kp.upd nq _ _)⟩
  · clear hr X
    go_enter Tryz.func49, Tryz.ntmps49
    go_wp2_with fail
    go_quiet (fail)
    go_wp2_with fail
    go_returns
    refine ⟨rfl, ?_, ((Kp.refl _ _).drewN nq).setCell (fun h => h rfl) _⟩
    have := (Blk.drewN HX.out nq).set 2 (.bool true)
    simpa [TK] using this
theorem twoV_rg (l : List Int) (hr : rng l) (at_ : Nat) (s : Bool) : 0 ≤ twoV l at_ s ∧ twoV l at_ s < 65536 := by
  unfold twoV
  split
  · omega
  · exact getV_rg l hr at_ 2 (.inr rfl)
theorem worth_rg (x : Int) (h0 : 0 ≤ x) (h1 : x < 65536) : -32768 ≤ worth x ∧ worth x < 32768 := by unfold worth; split <;> omega
theorem jump_any (A : Option Addr) (n c B at_ g : Nat) (from_ : Int) (s : Bool) (l : List Int) (w : World) (X : TK w g A n c at_ s) (hr : Rd w B A n l) (hn : n ≤ c) (hc : n ≤ 281474976710656) (ha : at_ ≤ 1000000000000000) (f0 : 0 ≤ from_) (f1 : from_ ≤ 281474976710656) :
    Calls Tryz.prog 50 #[.pointer (some ⟨g, 0, none⟩), .int .i64 from_] w fun e w' => e = .returned (.int .i64 (from_ + worth (twoV l at_ s))) ∧ TK w' g A n c (twoA n at_ s) (twoS n at_ s) ∧ Kp (Not1 g) w w' := by
  have HT := Lib.hid (two_any A n c B at_ g s l w X hr hn hc ha)
  have hb := twoV_rg l hr.rg at_ s
  generalize twoV l at_ s = x at HT hb ⊢
  have hm : x % 65536 = x := Int.emod_eq_of_lt hb.1 hb.2
  have hg := worth_rg x hb.1 hb.2
  have HW := Lib.hid (fun w => worth_any x w hb.1 hb.2)
  clear hr X
  go_enter Tryz.func50, Tryz.ntmps50
  go_wp2_with fail
  refine HT.out.mono ?_
  rintro e w1 ⟨rfl, X1, K1⟩
  have HX := Lib.hid X1
  have HK := Lib.hid K1
  clear X1 K1
  go_wp2_with fail
  refine (HW.out _).mono ?_
  rintro e w2 ⟨rfl, hw⟩
  obtain rfl := hw.symm
  generalize hy : worth x = y at hg ⊢
  have HY := Lib.hid hy
  clear hy
  go_wp2_with fail
  go_returns
  exact ⟨by rw [HY.out]; rfl, HX.out, HK.out⟩
/-- A word's bytes: the low 16 bits of a number, the highest first. -/
def wordL (x : Int) : List Int := [x / 256 % 256, x % 256]
theorem word_any (x : Int) (w : World) (h0 : -9223372036854775808 ≤ x) (h1 : x < 9223372036854775808) : Calls Tryz.prog 29 #[.int .i64 x] w fun e w' => e = .returned (.slice (some ⟨w.heap.size, 0, none⟩) 2 2) ∧ w' = w.alloc (.cells (BL (wordL x)) 5) := by
  go_enter Tryz.func29, Tryz.ntmps29
  go_wp2_with fail
  go_returns
  exact ⟨rfl, rfl⟩
end Go.Proofs.YtolifmpkillglaaGreatDoor
