import Derived.Test.YtihdfogcnghfaaaFj
import Derived.Test.YtihdfogcnghfaaaDn
set_option linter.unusedVariables false
namespace Go.Proofs.Ytihdfogcnghfaaa
open Go.RowKit
/-! The layer works. -/
theorem tlit (w : World) (G : Nat) (hG : G = w.heap.size) (l : List Int) (n : Nat) (hn : l.length = n) (hm : n ≤ maxLen) (hr : rng l) : Rd (w.alloc (.cells (BL l) 5)) (w.heap.size + 1) (some ⟨G, 0, none⟩) n l := by
  subst hG; exact rd_lit w l n hn hm hr
set_option maxHeartbeats 1000000 in
theorem tworks_any (w : World) : Calls Try.prog 21 #[] w fun e w' => e = .returned (.bool true) ∧ Below w.heap.size w w' := by
  have p1 := tput_any 2 0 ⟨⟨by omega, by omega⟩, by omega, by omega⟩
  rw [show putP 2 0 = [2] from by decide, show putE 2 0 = 0 from by decide] at p1
  have P1 := Lib.hid p1
  have p2 := tput_any 4 258 ⟨⟨by omega, by omega⟩, by omega, by omega⟩
  rw [show putP 4 258 = [4, 1, 2] from by decide, show putE 4 258 = 0 from by decide] at p2
  have P2 := Lib.hid p2
  have p3 := putsig_any 1 0 0 [(3, 0)] (by omega) ⟨⟨by omega, by omega⟩, by omega, by omega⟩
  rw [show sigP 0 0 [(3, 0)] = [0, 1, 3] from by decide, show sigE 0 0 [(3, 0)] = 0 from by decide] at p3
  have P3 := Lib.hid p3
  have p4 := tget_any 1 [0] 0 (by omega) rfl (rng_lit rfl)
  rw [show gTy [0] 0 = ⟨0, 0, 0, 5⟩ from by rfl] at p4
  have P4 := Lib.hid p4
  have P5 := Lib.hid (fun w => tysize_any 6 0 w (by omega))
  rw [show sizeT 6 = 1 from rfl] at P5
  clear p1 p2 p3 p4
  go_enter Try.func21, Try.ntmps21
  go_wp2_with fail
  refine (P1.out _).mono ?_
  rintro e w1 ⟨A1, c1, rfl, ho1, hb1⟩
  go_wp2_with fail
  refine (P2.out _).mono ?_
  rintro e w2 ⟨A2, c2, rfl, ho2, hb2⟩
  have E2 := hb1.trans (hb2.mono hb1.size)
  have HO1 := Lib.hid (ho1.below hb2)
  have HO2 := Lib.hid ho2
  have HRV := Lib.hid (rv_lit w2 3 0 ⟨⟨by omega, by omega⟩, by omega, by omega⟩)
  clear ho1 ho2 hb1 hb2
  go_wp2_with fail
  refine (P3.out _ _ 1 _ HRV.out (by simp)).mono ?_
  rintro e w3 ⟨A3, c3, rfl, ho3, hb3⟩
  have E3 := (E2.alloc E2.size _).trans (hb3.mono (by have := E2.size; simp; omega))
  have HO13 := Lib.hid ((HO1.out.alloc _).below hb3)
  have HO23 := Lib.hid ((HO2.out.alloc _).below hb3)
  have HO3 := Lib.hid ho3
  clear ho3 hb3 E2
  go_wp2_with fail
  refine (P4.out _ _ 1 _ (tlit w3 _ rfl [0] 1 rfl (by simp [maxLen]) (rng_lit rfl)) (Nat.le_refl _) (by simp)).mono ?_
  rintro e w4 ⟨rfl, hb4⟩
  have E4 := (E3.alloc E3.size _).trans (hb4.mono (by have := E3.size; simp; omega))
  have R1 := ((HO13.out.alloc (.cells #[.int .u8 0] 5)).below hb4).rd
  have R2 := ((HO23.out.alloc (.cells #[.int .u8 0] 5)).below hb4).rd
  have R3 := ((HO3.out.alloc (.cells #[.int .u8 0] 5)).below hb4).rd
  have HR1 := Lib.hid R1
  have HR2 := Lib.hid R2
  have HR3 := Lib.hid R3
  clear R1 R2 R3 hb4 E3
  go_wp2_with fail
  refine (same_yes A1 _ 1 c1 1 w4.heap.size _ [2] _ (by omega) ((HR1.out.alloc (Nat.le_refl _) _).alloc (by simp) _) (tlit _ _ (by simp) [2] 1 rfl (by simp [maxLen]) (rng_lit rfl))).mono ?_
  rintro e w5 ⟨rfl, q5, rfl⟩
  go_wp2_with fail
  refine (same_yes A2 _ 3 c2 3 w4.heap.size _ [4, 1, 2] _ (by omega) ((((HR2.out.alloc (Nat.le_refl _) _).alloc (by simp) _).drewN q5).alloc (by simp; omega) _) (tlit _ _ (by simp) [4, 1, 2] 3 rfl (by simp [maxLen]) (rng_lit rfl))).mono ?_
  rintro e w6 ⟨rfl, q6, rfl⟩
  go_wp2_with fail
  refine (same_yes A3 _ 3 c3 3 w4.heap.size _ [0, 1, 3] _ (by omega) ((((((HR3.out.alloc (Nat.le_refl _) _).alloc (by simp) _).drewN q5).alloc (by simp; omega) _).drewN q6).alloc (by simp; omega) _) (tlit _ _ (by simp) [0, 1, 3] 3 rfl (by simp [maxLen]) (rng_lit rfl))).mono ?_
  rintro e w7 ⟨rfl, q7, rfl⟩
  go_wp2_with fail
  refine (P5.out _).mono ?_
  rintro e w8 ⟨rfl, hb8⟩
  go_wp2_with fail
  go_returns
  have z4 := E4.size
  refine ⟨rfl, Below.trans ?_ (hb8.mono ?_)⟩
  · refine below_drewN (Below.alloc (below_drewN (Below.alloc (below_drewN ((E4.alloc z4 _).alloc ?_ _) _) ?_ _) _) ?_ _) _ <;> (simp; omega)
  · simp; omega
end Go.Proofs.Ytihdfogcnghfaaa
