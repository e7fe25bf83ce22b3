import Derived.Test.YtkdnnoioejfpgaaKi
import Derived.Test.YtkdnnoioejfpgaaDi
set_option linter.unusedVariables false
set_option maxRecDepth 100000
namespace Go.Proofs.Ytkdnnoioejfpgaa
open Go.RowKit
/-! PoolFresh's walk. -/
theorem Wd.rg {w : World} {base n : Nat} {A : Option Addr} {l : List Int} (h : Wd w base A n l) : l.length = n ∧ rng l := ⟨h.1, h.2.1⟩
/-- A block of so many cells, whatever they hold. -/
def Some7 (w : World) (g N : Nat) (t : TypeId) : Prop := ∃ cs : Array Value, Blk w g cs t ∧ cs.size = N
theorem Some7.set {w : World} {g N : Nat} {t : TypeId} (h : Some7 w g N t) (k : Nat) (v : Value) : Some7 (w.setCell ⟨g, k, none⟩ v) g N t := by
  obtain ⟨cs, h1, h2⟩ := h
  exact ⟨_, h1.set k v, by simpa using h2⟩
theorem Some7.froz {w : World} {g N : Nat} {t : TypeId} (h : Some7 w g N t) (k : Nat) : w.frozen? ⟨g, k, none⟩ = false := by
  obtain ⟨cs, h1, h2⟩ := h
  exact h1.froz k
theorem Some7.cell {w : World} {g N : Nat} {t : TypeId} (h : Some7 w g N t) (k : Nat) (hk : k < N) : ∃ v, w.cell? ⟨g, k, none⟩ = some v := by
  obtain ⟨cs, h1, h2⟩ := h
  rw [h1.cell k]
  exact ⟨cs[k]'(by omega), Array.getElem?_eq_getElem (by omega)⟩
set_option maxHeartbeats 2000000 in
theorem pwalk_fresh (A A1 : Option Addr) (n c n1 c1 : Nat) (l : List En) (b : List Int) (w : World) (hn : n * 10 ≤ 140737488351232) (hn1 : n1 ≤ 140737488351232) (hc1 : n1 ≤ c1)
    (hr : RV enR w w.heap.size A n l) (hr1 : Rd w w.heap.size A1 n1 b) :
    Calls Try.prog 8 #[.slice A n c, .slice A1 n1 c1] w fun e w' => e = .returned (.bool true) ∧ Below w.heap.size w w' := by
  have P1 := Lib.hid (put7_any n l (by omega))
  have G1 := Lib.hid (get7_any n1 b (by omega) hr1.len hr1.rg)
  have G2 := Lib.hid (refget7_any n1 b (by omega) hr1.len hr1.rg)
  have HLn := Lib.hid (gP_len b hr1.rg)
  have HR := Lib.hid hr
  have HR1 := Lib.hid hr1
  clear hr hr1
  generalize gP b = g at G1 G2 HLn
  obtain ⟨ts, E⟩ := g
  unfold GetESaid at G1 G2
  simp only at G1 G2 HLn
  generalize putP l = p at P1
  generalize putE l = Ep at P1
  go_enter Try.func8, Try.ntmps8
  go_wp2_with (at_builtin; refine wpList_appV enFit rfl _ _ rfl (Lt w.heap.size) none 0 0 [] rfl OV.nil_ _ A n c l rfl HR.out n (by omega) l rfl (by omega) (lt_lt w) ?_; intro A2 d2 w1 ho1 hb1)
  have HB1 := Lib.hid (hb1.below (B := w.heap.size) fun _ h => h)
  have HO1 := Lib.hid ho1
  clear ho1 hb1
  refine (P1.out _ _ _ _ HO1.out.rv (Nat.le_refl _)).mono ?_
  rintro e w2 ⟨A3, d3, rfl, ho2, hb2⟩
  have HO2 := Lib.hid (ho2.ob (base := w1.heap.size) fun _ h => h)
  have HB2 := Lib.hid hb2
  clear ho2 hb2
  go_wp2_with fail
  refine (spoil_any _ A3 _ d3 p 1 w2 HO2.out HB2.out.size (by omega) (by omega)).mono ?_
  rintro e w3 ⟨rfl, hb3⟩
  have HB3 := Lib.hid (HB2.out.trans hb3)
  clear hb3 HO2 HB2
  go_wp2_with fail
  refine (wide_any A1 n1 c1 w.heap.size b w3 (by omega) (HR1.out.below (HB1.out.trans (HB3.out.mono HB1.out.size)) (Nat.le_refl _)) (Nat.le_trans HB1.out.size HB3.out.size)).mono ?_
  rintro e w4 ⟨A4, rfl, hw4, hb4⟩
  have HW4 := Lib.hid hw4
  have HB4 := Lib.hid (HB3.out.trans (hb4.mono HB3.out.size))
  clear hw4 hb4 HB3
  go_wp2_with fail
  refine (G1.out _ _ _ _ HW4.out.rd (by omega) (Nat.le_refl _)).mono ?_
  rintro e w5 ⟨A5, d5, rfl, ho5, hb5⟩
  have HB5 := Lib.hid hb5
  obtain ⟨N, hN⟩ : ∃ N, N = ts.length := ⟨_, rfl⟩
  rw [← hN]
  have HN := Lib.hid hN
  have hsv : N = 0 ∨ ∃ gg M, A5 = some ⟨gg, 0, none⟩ ∧ w4.heap.size ≤ gg ∧ N ≤ M ∧ Some7 w5 gg (M * 7) 45 := by
    obtain ⟨h1, h2, h3, h4, h5⟩ := ho5
    rcases h5 with ⟨_, h0, _⟩ | ⟨gg, zs, rfl, hg, hh, hz, ht, _⟩
    · exact .inl (by omega)
    · refine .inr ⟨gg, d5, rfl, Nat.le_of_not_lt hg, by omega, enA enR zs, hh, ?_⟩
      simp [enA, enL_len, hz, enR]
  have HSV := Lib.hid hsv
  have hNs : N ≤ 255 := by rw [hN]; exact HLn.out
  clear ho5 hb5 hsv hN
  go_wp2_with fail
  go_loopw [11] (fun i wr => ∃ j : Nat, j ≤ N ∧ i = .int .i64 j ∧ Below w4.heap.size w4 wr ∧ (N = 0 ∨ ∃ gg M, A5 = some ⟨gg, 0, none⟩ ∧ w4.heap.size ≤ gg ∧ N ≤ M ∧ Some7 wr gg (M * 7) 45)) (fun i _ => N - (intOf i).toNat)
  case atStart => exact ⟨0, Nat.zero_le _, rfl, HB5.out, HSV.out⟩
  case round =>
    clear HSV HB5
    obtain ⟨j, hj, rfl, hbr, hsv⟩ := hrel
    have HB := Lib.hid hbr
    clear hbr
    by_cases hlt : j < N
    · rcases hsv with h0 | ⟨gg, M, rfl, hgg, hNM, hs7⟩
      · omega
      · have f0 := hs7.froz (j * 7)
        have f1 := hs7.froz (j * 7 + 1)
        have f2 := hs7.froz (j * 7 + 2)
        have f3 := hs7.froz (j * 7 + 3)
        have f4 := hs7.froz (j * 7 + 4)
        have f5 := hs7.froz (j * 7 + 5)
        have f6 := hs7.froz (j * 7 + 6)
        obtain ⟨v0, k0⟩ := hs7.cell (j * 7) (by omega)
        obtain ⟨v1, k1⟩ := hs7.cell (j * 7 + 1) (by omega)
        obtain ⟨v2, k2⟩ := hs7.cell (j * 7 + 2) (by omega)
        obtain ⟨v3, k3⟩ := hs7.cell (j * 7 + 3) (by omega)
        obtain ⟨v4, k4⟩ := hs7.cell (j * 7 + 4) (by omega)
        obtain ⟨v5, k5⟩ := hs7.cell (j * 7 + 5) (by omega)
        obtain ⟨v6, k6⟩ := hs7.cell (j * 7 + 6) (by omega)
        have HS7 := Lib.hid hs7
        clear hs7
        go_wp2_with fail
        go_roundw
        case rel =>
          refine ⟨j + 1, by omega, by go_num, ?_, .inr ⟨gg, M, rfl, hgg, hNM, ?_⟩⟩
          · exact ((((((HB.out.setCell hgg _).setCell hgg _).setCell hgg _).setCell hgg _).setCell hgg _).setCell hgg _).setCell hgg _
          · exact ((((((HS7.out.set _ _).set _ _).set _ _).set _ _).set _ _).set _ _).set _ _
        case measure => simp [intOf]; omega
    · obtain rfl : j = N := by omega
      clear hsv
      have HW := Lib.hid (HW4.out.below HB.out)
      have HBw := Lib.hid (HB4.out.trans (HB.out.mono HB4.out.size))
      clear HW4 HB HB4
      go_wp2_with fail
      refine (G1.out _ _ _ _ HW.out.rd (by omega) (Nat.le_refl _)).mono ?_
      rintro e w6 ⟨A6, d6, rfl, ho6, hb6⟩
      have HB6 := Lib.hid (HBw.out.trans (hb6.mono HBw.out.size))
      have HW6 := Lib.hid (HW.out.below hb6)
      have HO6 := Lib.hid ho6
      rw [← HN.out]
      clear ho6 hb6 HW HBw
      go_wp2_with fail
      refine (G2.out _ _ _ _ (HR1.out.below (HB1.out.trans (HB6.out.mono HB1.out.size)) (Nat.le_refl _)) hc1 (Nat.le_trans HB1.out.size HB6.out.size)).mono ?_
      rintro e w7 ⟨A7, d7, rfl, ho7, hb7⟩
      have HB7 := Lib.hid (HB6.out.trans (hb7.mono HB6.out.size))
      have HW7 := Lib.hid (HW6.out.below hb7)
      have HO67 := Lib.hid (HO6.out.below hb7).rv
      have HO7 := Lib.hid ho7.rv
      have HO17 := Lib.hid (HO1.out.below HB7.out).rv
      have HBt := Lib.hid (HB1.out.trans (HB7.out.mono HB1.out.size))
      have HR7 := Lib.hid (HR.out.below HBt.out (Nat.le_refl _))
      have HRb := Lib.hid (HR1.out.below HBt.out (Nat.le_refl _))
      have S2 := HO67.out
      have S3 := HO7.out
      rw [← HN.out] at S2 S3
      have HS2 := Lib.hid S2
      have HS3 := Lib.hid S3
      rw [← HN.out]
      clear ho7 hb7 HB6 HW6 HO6 HO67 HO7 S2 S3
      go_wp2_with fail
      refine (sameE_yes A2 A n d2 c _ _ l w7 (by omega) HO17.out HR7.out).mono ?_
      rintro e w8 ⟨rfl, q1, rfl⟩
      go_wp2_with fail
      refine (left_any w3.heap.size A4 A1 n1 c1 w.heap.size b _ (by omega) (HW7.out.below (below_drewN' q1)) (HRb.out.drewN q1)).mono ?_
      rintro e w8 ⟨rfl, q2, rfl⟩
      go_wp2_with fail
      refine (sameE_yes A6 A7 j d6 d7 _ _ ts (w7.drewN (q1 + q2)) (by omega) (HS2.out.drewN _) (HS3.out.drewN _)).mono ?_
      rintro e w8 ⟨rfl, q3, rfl⟩
      go_wp2_with fail
      refine (pworks_any _).mono ?_
      rintro e w9 ⟨rfl, hb9⟩
      go_wp2_with fail
      go_returns
      refine ⟨rfl, Below.trans ?_ (hb9.mono HBt.out.size)⟩
      try simp only [World.drewN_drewN]
      exact below_drewN HBt.out _
end Go.Proofs.Ytkdnnoioejfpgaa
