import Derived.Test.YtojekhalpedfhaaEc
import Derived.Deep.RegionHeld3
set_option linter.unusedVariables false
namespace Go.Proofs.Ytojekhalpedfhaa
open Go.RowKit
/-! The layer works. -/
theorem lit5 (w : World) (G : Nat) (hG : G = w.heap.size) : Rd (w.alloc (.cells #[.int .u8 4, .int .u8 1, .int .u8 2, .int .u8 3, .int .u8 4] 5)) (w.heap.size + 1) (some ⟨G, 0, none⟩) 5 [4, 1, 2, 3, 4] := by subst hG; exact rd_lit w [4, 1, 2, 3, 4] 5 rfl (by simp [maxLen]) (rng_lit rfl)
theorem lit7 (w : World) (G : Nat) (hG : G = w.heap.size) : Rd (w.alloc (.cells #[.int .u8 5, .int .u8 1, .int .u8 2, .int .u8 3, .int .u8 4, .int .u8 5, .int .u8 9] 5)) (w.heap.size + 1) (some ⟨G, 0, none⟩) 7 [5, 1, 2, 3, 4, 5, 9] := by subst hG; exact rd_lit w [5, 1, 2, 3, 4, 5, 9] 7 rfl (by simp [maxLen]) (rng_lit rfl)
theorem lit12345 (w : World) (G : Nat) (hG : G = w.heap.size) : Rd (w.alloc (.cells #[.int .u8 1, .int .u8 2, .int .u8 3, .int .u8 4, .int .u8 5] 5)) (w.heap.size + 1) (some ⟨G, 0, none⟩) 5 [1, 2, 3, 4, 5] := by subst hG; exact rd_lit w [1, 2, 3, 4, 5] 5 rfl (by simp [maxLen]) (rng_lit rfl)
theorem works_any (w : World) : Calls Try.prog 16 #[] w fun e w' => e = .returned (.bool true) ∧ Below w.heap.size w w' := by
  have g1 : GetRowSaid 33 5 [4, 1, 2, 3, 4] 0 1 4 [1, 2, 3, 4] 5 0 := fun w A c B hr hc hB => getrow_ok A 5 c B 0 1 4 [4, 1, 2, 3, 4] w hc (by omega) (by omega) hr hB (.inl rfl) (by decide) (by omega) (by omega)
  have g2 : GetRowSaid 33 7 [5, 1, 2, 3, 4, 5, 9] 0 1 5 [1, 2, 3, 4, 5] 6 0 := fun w A c B hr hc hB => getrow_ok A 7 c B 0 1 5 [5, 1, 2, 3, 4, 5, 9] w hc (by omega) (by omega) hr hB (.inl rfl) (by decide) (by omega) (by omega)
  have P1 := Lib.hid (aget_form 5 4 _ _ 0 5 (by omega) (by decide) g1)
  have P2 := Lib.hid (aget_ok 7 5 _ _ 0 6 (by omega) (by decide) g2)
  have m4 : mayB 4 = false := by decide
  have m5 : mayB 5 = true := by decide
  have m17 : mayB 17 = false := by decide
  have sv : servB 1 3 1 2 = true := by decide
  have hmk := fun w => mk_full 17 17 rfl (by omega) w
  clear g1 g2
  go_enter Try.func16, Try.ntmps16
  go_wp2_with fail
  refine (P1.out _ _ _ _ (lit5 _ _ rfl) (by omega) (by simp)).mono ?_
  rintro e w1 ⟨A1, c1, rfl, ho1, hb1⟩
  have B1 : Below w.heap.size w w1 := ((Below.refl _ _).alloc (Nat.le_refl _) _).trans (hb1.mono (by simp))
  clear ho1 hb1
  go_wp2_with fail
  refine (P2.out _ _ _ _ (lit7 _ _ rfl) (by omega) (by simp)).mono ?_
  rintro e w2 ⟨A2, c2, rfl, ho2, hb2⟩
  have B2 : Below w.heap.size w w2 := (B1.alloc B1.size _).trans (hb2.mono (Nat.le_trans B1.size (by simp)))
  clear hb2
  go_wp2_with fail
  refine (may_any _ _ _ _ (by omega)).mono ?_
  rintro e w' ⟨rfl, rfl⟩
  go_wp2_with fail
  refine (may_any _ _ _ _ (by omega)).mono ?_
  rintro e w' ⟨rfl, rfl⟩
  go_wp2_with fail
  refine (may_any _ _ _ _ (by omega)).mono ?_
  rintro e w' ⟨rfl, rfl⟩
  go_wp2_with fail
  have z2 := B2.size
  refine (same_yes A2 (some ⟨w2.heap.size + 1 + 1 + 1, 0, none⟩) 5 c2 5 w2.heap.size _ [1, 2, 3, 4, 5] _ (by omega) (by exact ((((ho2.rd.alloc (Nat.le_refl _) _).alloc (by simp) _).alloc (by simp; omega) _).alloc (by simp; omega) _)) (lit12345 _ _ (by simp))).mono ?_
  rintro e w3 ⟨rfl, q, rfl⟩
  go_wp2_with fail
  refine (serves_any _ _ _ _ _).mono ?_
  rintro e w4 ⟨rfl, hb4⟩
  go_wp2_with fail
  go_returns
  refine ⟨rfl, Below.trans ?_ (hb4.mono ?_)⟩
  · refine below_drewN (((((B2.alloc z2 _).alloc ?_ _).alloc ?_ _).alloc ?_ _)) _ <;> (simp; omega)
  · simp; omega
end Go.Proofs.Ytojekhalpedfhaa
