import Derived.Test.YtkdnnoioejfpgaaKd
import Derived.Test.YtkdnnoioejfpgaaKf
import Derived.Test.YtkdnnoioejfpgaaKg
set_option linter.unusedVariables false
set_option maxRecDepth 100000
namespace Go.Proofs.Ytkdnnoioejfpgaa
open Go.RowKit
/-! The laws' walks: what is put, what is got, references. -/
theorem putP_len (l : List En) : (putP l).length ≤ 2000 := by
  unfold putP
  split
  · split
    · simp
    · unfold putB; rw [putL_len l _ (Nat.le_refl _)]; omega
  · simp
theorem pwalk_puts (A : Option Addr) (n c : Nat) (l : List En) (w : World) (hn : n * 10 ≤ 140737488351232) (hr : RV enR w w.heap.size A n l) :
    Calls Try.prog 3 #[.slice A n c] w fun e w' => e = .returned (.bool true) ∧ Below w.heap.size w w' := by
  have P1 := Lib.hid (put7_any n l (by omega))
  have P2 := Lib.hid (refput7_any n l (by omega))
  have HR := Lib.hid hr
  have HLn := Lib.hid (putP_len l)
  clear hr
  generalize putP l = p at P1 P2 HLn
  generalize putE l = E at P1 P2
  go_enter Try.func3, Try.ntmps3
  go_wp2_with fail
  refine (P1.out _ _ _ _ HR.out (Nat.le_refl _)).mono ?_
  rintro e w1 ⟨A1, c1, rfl, ho1, hb1⟩
  have HO1 := Lib.hid ho1
  have HB1 := Lib.hid hb1
  clear ho1 hb1
  go_wp2_with fail
  refine (P2.out _ _ _ _ (HR.out.below HB1.out (Nat.le_refl _)) HB1.out.size).mono ?_
  rintro e w2 ⟨A2, c2, rfl, ho2, hb2⟩
  have HS := Lib.hid (same_yes A1 A2 _ c1 c2 _ _ p w2 (by have := HLn.out; omega) (HO1.out.below hb2).rd ho2.rd)
  have HB2 := Lib.hid (HB1.out.trans (hb2.mono HB1.out.size))
  clear ho2 hb2 P1 P2
  generalize p.length = k at HS ⊢
  go_wp2_with fail
  refine HS.out.mono ?_
  rintro e w3 ⟨rfl, q, rfl⟩
  go_wp2_with fail
  refine (pworks_any _).mono ?_
  rintro e w4 ⟨rfl, hb4⟩
  go_wp2_with fail
  go_returns
  exact ⟨rfl, (below_drewN HB2.out _).trans (hb4.mono HB2.out.size)⟩
theorem pwalk_gets (A : Option Addr) (n c : Nat) (l : List Int) (w : World) (hn : n ≤ 140737488355328) (hc : n ≤ c) (hr : Rd w w.heap.size A n l) :
    Calls Try.prog 4 #[.slice A n c] w fun e w' => e = .returned (.bool true) ∧ Below w.heap.size w w' := by
  have P1 := Lib.hid (get7_any n l (by omega) hr.len hr.rg)
  have P2 := Lib.hid (refget7_any n l (by omega) hr.len hr.rg)
  have HR := Lib.hid hr
  have HLn := Lib.hid (gP_len l hr.rg)
  clear hr
  generalize gP l = g at P1 P2 HLn
  obtain ⟨ts, E⟩ := g
  simp only at P1 P2 HLn
  unfold GetESaid at P1 P2
  simp only at P1 P2
  go_enter Try.func4, Try.ntmps4
  go_wp2_with fail
  refine (P1.out _ _ _ _ HR.out hc (Nat.le_refl _)).mono ?_
  rintro e w1 ⟨A1, c1, rfl, ho1, hb1⟩
  have HO1 := Lib.hid ho1
  have HB1 := Lib.hid hb1
  clear ho1 hb1
  go_wp2_with fail
  refine (P2.out _ _ _ _ (HR.out.below HB1.out (Nat.le_refl _)) hc HB1.out.size).mono ?_
  rintro e w2 ⟨A2, c2, rfl, ho2, hb2⟩
  have HS := Lib.hid (sameE_yes A1 A2 _ c1 c2 _ _ ts w2 (by have := HLn.out; omega) (HO1.out.below hb2).rv ho2.rv)
  have HB2 := Lib.hid (HB1.out.trans (hb2.mono HB1.out.size))
  clear ho2 hb2 P1 P2 HO1
  generalize ts.length = k at HS ⊢
  go_wp2_with fail
  refine HS.out.mono ?_
  rintro e w3 ⟨rfl, q, rfl⟩
  go_wp2_with fail
  refine (pworks_any _).mono ?_
  rintro e w4 ⟨rfl, hb4⟩
  go_wp2_with fail
  go_returns
  exact ⟨rfl, (below_drewN HB2.out _).trans (hb4.mono HB2.out.size)⟩
theorem pwalk_refs (r : Int) (i : Bool) (n t : Int) (w : World) (hr : 0 ≤ r ∧ r < 65536) (n0 : -9223372036854775808 ≤ n ∧ n ≤ 9223372036854775807) (t0 : -9223372036854775808 ≤ t ∧ t ≤ 9223372036854775807) :
    Calls Try.prog 5 #[.int .u16 r, .bool i, .int .i64 n, .int .i64 t] w fun e w' => e = .returned (.bool true) ∧ Below w.heap.size w w' := by
  have P1 := Lib.hid (fun w => split_any r w hr.1 hr.2)
  have P2 := Lib.hid (fun w => refsplit_any r w hr.1 hr.2)
  have P3 := Lib.hid (fun w => ref7_any i n t w n0.1 n0.2 t0.1 t0.2)
  have P4 := Lib.hid (fun w => refref_any i n t w n0.1 n0.2 t0.1 t0.2)
  clear hr n0 t0
  generalize splB r = v1 at P1 P2
  generalize splN r = v2 at P1 P2
  generalize splT r = v3 at P1 P2
  generalize refV i n t = v4 at P3 P4
  generalize refE i n t = v5 at P3 P4
  have b1 : (v1 == v1) = true := by simp
  go_enter Try.func5, Try.ntmps5
  go_wp2_with fail
  refine (P1.out _).mono ?_
  rintro e w1 ⟨rfl, rfl⟩
  go_wp2_with fail
  refine (P2.out _).mono ?_
  rintro e w1 ⟨rfl, rfl⟩
  go_wp2_with fail
  refine (P3.out _).mono ?_
  rintro e w1 ⟨rfl, rfl⟩
  go_wp2_with fail
  refine (P4.out _).mono ?_
  rintro e w1 ⟨rfl, rfl⟩
  go_wp2_with fail
  refine (pworks_any _).mono ?_
  rintro e w4 ⟨rfl, hb4⟩
  go_wp2_with fail
  go_returns
  exact ⟨rfl, hb4⟩
end Go.Proofs.Ytkdnnoioejfpgaa
