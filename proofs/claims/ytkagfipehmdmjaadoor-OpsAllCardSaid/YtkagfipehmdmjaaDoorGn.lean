import Derived.Test.YtkagfipehmdmjaaDoorGm
set_option linter.unusedVariables false
namespace Go.Proofs.YtkagfipehmdmjaaDoor
open Go.RowKit
/-! The law's walk: Fresh. -/
theorem OO.block {w : World} {S : Nat → Prop} {A : Option Addr} {n c : Nat} {l : List Int} (h : OO w S A n c l) (hn : 0 < n) : ∃ g cs, A = some ⟨g, 0, none⟩ ∧ ¬ S g ∧ Blk w g cs 22 ∧ n ≤ cs.size := by
  rcases h.2.2.2.2 with ⟨_, h0, _⟩ | ⟨g, zs, hA, hS, hh, hz, _, _⟩
  · omega
  · refine ⟨g, _, hA, hS, hh, ?_⟩
    have h1 := h.2.2.1
    show n ≤ (enL opR zs).toArray.size
    rw [List.size_toArray, enL_len, hz]
    show n ≤ c * 1
    omega
set_option maxRecDepth 100000 in
set_option maxHeartbeats 1000000 in
theorem walk_fresh (n : Nat) (hn : n < 256) (w : World) (T : Tab w) : Calls Tryd.prog 7 #[.int .u8 n] w fun e w' => e = .returned (.bool true) ∧ Below w.heap.size w w' := by
  have h1 := all_any
  have h2 := refall_any
  unfold AllSaid at h1 h2
  rw [numsC_len] at h1 h2
  have H1 := Lib.hid h1
  have H2 := Lib.hid h2
  have H5 := Lib.hid lives_any
  have HT := Lib.hid T
  clear h1 h2 T
  obtain ⟨i, hi, hlt⟩ : ∃ i, n % 102 = i ∧ i < 102 := ⟨n % 102, rfl, by omega⟩
  have hm : (n : Int) % 102 = (i : Nat) := by omega
  clear hi
  go_enter Tryd.func7, Tryd.ntmps7
  go_wp2_with fail
  refine (H1.out _ HT.out).mono ?_
  rintro e w1 ⟨A0, c0, rfl, ho1, hb1⟩
  obtain ⟨g0, cs, rfl, hg0, hB, hcs⟩ := OO.block ho1 (by decide)
  have hg : w.heap.size ≤ g0 := Nat.le_of_not_lt hg0
  have HB1 := Lib.hid hb1
  have HK := Lib.hid hB
  clear hb1 ho1 hB hg0
  go_wp2_with fail
  go_loopw [4] (fun v wr => ∃ (k : Nat) (cs : Array Value), k ≤ 102 ∧ v = .int .i64 k ∧ Blk wr g0 cs 22 ∧ 102 ≤ cs.size ∧ Below w.heap.size w wr) (fun v _ => 102 - (intOf v).toNat)
  case atStart => exact ⟨0, cs, Nat.zero_le _, rfl, HK.out, hcs, HB1.out⟩
  case round =>
    clear hcs
    obtain ⟨k, cs, hk, rfl, hB, hcs, hbr⟩ := hrel
    by_cases hlk : k < 102
    · have g := hB.cell k
      have f := hB.froz k
      rw [Array.getElem?_eq_getElem (by omega : k < cs.size)] at g
      generalize cs[k] = v0 at g
      have HB := Lib.hid hB
      have HBr := Lib.hid hbr
      have i0 : (0 : Int) ≤ (k : Int) := by omega
      have i1 : (k : Int) < 102 := by omega
      clear hB hbr
      go_wp2_with fail
      go_roundw
      case rel => exact ⟨k + 1, cs.set! k (.int .u8 255), by omega, by go_num, HB.out.set k _, by simpa using hcs, HBr.out.setCell (p := ⟨g0, k, none⟩) hg _⟩
      case measure => simp [intOf]; omega
    · obtain rfl : k = 102 := by omega
      have HBr := Lib.hid hbr
      clear hB hbr hcs
      go_wp2_with fail
      refine (H1.out _ (HT.out.below' HBr.out)).mono ?_
      rintro e w2 ⟨A1, c1, rfl, ho2, hb2⟩
      have HB2 := Lib.hid (HBr.out.trans (hb2.mono HBr.out.size))
      have HO2 := Lib.hid ho2
      clear hb2 ho2
      go_wp2_with fail
      refine (H2.out _ (HT.out.below' HB2.out)).mono ?_
      rintro e w3 ⟨A2, c2, rfl, ho3, hb3⟩
      have HB3 := Lib.hid (HB2.out.trans (hb3.mono HB2.out.size))
      obtain ⟨g1, rfl, _, q1, k1⟩ := OO.cell (OV.below HO2.out hb3) (by decide)
      obtain ⟨g2, rfl, _, q2, k2⟩ := OO.cell ho3 (by decide)
      have x1 := k1 i hlt
      have x2 := k2 i hlt
      generalize numsC.getD i 0 = x at x1 x2
      clear hb3 ho3 k1 k2
      have i0 : (0 : Int) ≤ (i : Int) := by omega
      have i1 : (i : Int) < 102 := by omega
      go_upto_region 8 with (fail)
      simp only [hm]
      clear hm H1 H2 HB1 HK HBr
      refine wp_region_still_tail 17 (by kernel_rfl) (by kernel_rfl) ?_
      simp only [List.take_succ_cons, List.take_zero, List.drop_succ_cons, List.drop_zero]
      change wpStill _ _ w3.drew _ _ _
      iterate 17
        with_reducible refine still_take (by kernel_rfl) (fun K hK => ?_)
        go_simp
        refine hK _ ?_
        clear hK K
        try simp only [Act.put, List.setIfInBounds_toArray, List.set_cons_zero, List.set_cons_succ]
      refine wpStill_nil ?_
      change wpList _ _ _ _ _ w3.drew
      have HB4 := Lib.hid HB3.out.drew
      generalize w3.drew = w4 at HB4 ⊢
      go_wp2_with fail
      refine (H5.out _ (HT.out.below' HB4.out)).mono ?_
      rintro e w5 ⟨rfl, hb5⟩
      have HB5 := Lib.hid (HB4.out.trans (hb5.mono HB4.out.size))
      clear hb5
      go_wp2_with fail
      go_returns
      exact ⟨rfl, HB5.out⟩
end Go.Proofs.YtkagfipehmdmjaaDoor
