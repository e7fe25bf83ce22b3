import Derived.Test.YtolifmpkillglaaDoorDh
set_option linter.unusedVariables false
set_option maxRecDepth 100000
namespace Go.Proofs.YtolifmpkillglaaDoor
open Go.RowKit
/-! Room behind bytes. -/
theorem mk_full (k : Nat) (C : Int) (hC : C = (k : Int)) (hk : k ≤ 281474976710656) (w : World) : (Instr.makeSlice 22 (.int .i64 C) (.int .i64 C)).run Tryd.prog w = .ok (.slice (some ⟨w.heap.size, 0, none⟩) k k) (w.alloc (.cells (BL (List.replicate k 0)) 5)) := by
  obtain ⟨i0, hi, hz0, hz1, hz2⟩ := info_parts u8_info
  subst hC
  rw [run_make w _ _ i0 _ Tryd.underlying22 hi hz0 .i64 .i64 k k (by omega) (by omega) (by rw [hz2]; omega) (by omega)]
  have e : madeCells (Value.cells (.int .u8 0)) ((k : Int).toNat * i0.size) = BL (List.replicate k 0) := by
    rw [hz1, Int.toNat_natCast, Nat.mul_one]
    apply Array.ext
    · simp [madeCells, BL]
    · intro i h1 h2
      simp [madeCells, BL, Value.cells, Nat.mod_one]
  rw [e]
  simp
theorem heap_put {w : World} {g : Nat} {zs : List Int} (h : w.heap[g]? = some (.cells (BL zs) 5 (0, 0))) (k : Nat) (x : Int) : (w.setCell ⟨g, k, none⟩ (.int .u8 x)).heap[g]? = some (.cells (BL (zs.set k x)) 5 (0, 0)) := by
  have := heap_setCell_same w g k (BL zs) 5 (.int .u8 x) h
  rw [this]
  congr 2
  simp [BL, List.map_set]
theorem froz {w : World} {g : Nat} {zs : List Int} (h : w.heap[g]? = some (.cells (BL zs) 5 (0, 0))) (k : Nat) : w.frozen? ⟨g, k, none⟩ = false := by
  simp [World.frozen?, h]
/-- What Wide makes: l, and behind it three sevens. -/
def Wd (w : World) (base : Nat) (A : Option Addr) (n : Nat) (l : List Int) : Prop :=
  l.length = n ∧ rng l ∧ ∃ g, A = some ⟨g, 0, none⟩ ∧ base ≤ g ∧ w.heap[g]? = some (.cells (BL (l ++ [7, 7, 7])) 5 (0, 0))
theorem Wd.below {w w' : World} {base n : Nat} {A : Option Addr} {l : List Int} (h : Wd w base A n l) (hb : Below w.heap.size w w') : Wd w' base A n l := by
  obtain ⟨h1, h2, g, h3, h4, h5⟩ := h
  exact ⟨h1, h2, g, h3, h4, (hb.block g (lt_heap h5)).trans h5⟩
theorem Wd.rd {w : World} {base n : Nat} {A : Option Addr} {l : List Int} (h : Wd w base A n l) : Rd w w.heap.size A n l := by
  obtain ⟨h1, h2, g, h3, h4, h5⟩ := h
  refine ⟨h1, h2, fun hn => ⟨g, 0, h3, lt_heap h5, fun i hi => ?_⟩⟩
  rw [Nat.zero_add, BL_cell h5 i (by rw [List.length_append]; omega)]
  congr 2
  rw [List.getD_eq_getElem?_getD, List.getD_eq_getElem?_getD, List.getElem?_append_left (by omega)]
def half (l : List Int) (k m : Nat) : List Int := l.take k ++ List.replicate m 0
theorem half_len (l : List Int) (k m n : Nat) (hl : l.length = n) (hk : k ≤ n) : (half l k m).length = k + m := by unfold half; rw [List.length_append, List.length_take, List.length_replicate]; omega
theorem half_set (l : List Int) (k m n : Nat) (hl : l.length = n) (hk : k < n) : (half l k (m + 1)).set k (l.getD k 0) = half l (k + 1) m := by
  unfold half
  rw [List.set_append_right _ _ (by rw [List.length_take]; omega), List.length_take, show k - min k l.length = 0 by omega, List.replicate_succ, List.set_cons_zero, take_snoc l k (by omega), List.append_assoc]
  rfl
theorem tail7_len_ (l : List Int) (j n : Nat) (hl : l.length = n) (hj : j ≤ 3) : (l ++ (List.replicate j (7 : Int) ++ List.replicate (3 - j) 0)).length = n + 3 := by simp; omega
def tail7 (l : List Int) (j : Nat) : List Int := l ++ (List.replicate j 7 ++ List.replicate (3 - j) 0)
theorem tail7_set (l : List Int) (j n : Nat) (hl : l.length = n) (hj : j < 3) : (tail7 l j).set (n + j) 7 = tail7 l (j + 1) := by
  unfold tail7
  subst hl
  rw [List.set_append_right _ _ (by omega), show l.length + j - l.length = j by omega]
  congr 1
  have h3 : j = 0 ∨ j = 1 ∨ j = 2 := by omega
  rcases h3 with rfl | rfl | rfl <;> rfl
theorem ret_sl1 {A A' : Option Addr} {n c c' : Nat} (h : A = A') (k : c = c') : Ending.returned (.slice A n c) = .returned (.slice A' n c') := by rw [h, k]
set_option maxHeartbeats 1000000 in
theorem wide_any (A : Option Addr) (n c B : Nat) (l : List Int) (w : World) (hn : n ≤ 140737488355328) (hr : Rd w B A n l) (hB : B ≤ w.heap.size) :
    Calls Tryd.prog 14 #[.slice A n c] w fun e w' => ∃ A', e = .returned (.slice A' n (n + 3)) ∧ Wd w' w.heap.size A' n l ∧ Below w.heap.size w w' := by
  have hmk := fun w => mk_full (n + 3) ((n : Int) + 3) (by omega) (by omega) w
  obtain ⟨hl, hrg, hc⟩ := hr
  have HL := Lib.hid hl
  have HR := Lib.hid hrg
  have HC := Lib.hid hc
  clear hl hrg hc
  go_enter Tryd.func14, Tryd.ntmps14
  go_wp2
  go_loopw [4] (fun i wr => ∃ k : Nat, k ≤ n ∧ i = .int .i64 k ∧ wr.heap[w.heap.size]? = some (.cells (BL (half l k (n + 3 - k))) 5 (0, 0)) ∧ Below w.heap.size w wr) (fun i _ => n - (intOf i).toNat)
  case atStart => exact ⟨0, Nat.zero_le _, rfl, by simpa [half] using heap_alloc_new w _, (Below.refl _ _).alloc (Nat.le_refl _) _⟩
  case round =>
    obtain ⟨k, hk, rfl, hh, hb⟩ := hrel
    have HH := Lib.hid hh
    clear hh
    by_cases hlt : k < n
    · obtain ⟨b1, o1, rfl, hb1, hc1⟩ := HC.out (by omega)
      have g1 : wr.cell? ⟨b1, o1 + k, none⟩ = some (.int .u8 (l.getD k 0)) := (hb.cell (p := ⟨b1, o1 + k, none⟩) (by simp; omega)).trans (hc1 k hlt)
      have g2 : wr.cell? ⟨w.heap.size, k, none⟩ = some (.int .u8 ((half l k (n + 3 - k)).getD k 0)) := BL_cell HH.out k (by rw [half_len l k _ n HL.out hk]; omega)
      have g3 := froz HH.out k
      have HS := Lib.hid (half_set l k (n + 3 - (k + 1)) n HL.out hlt)
      have HM := Lib.hid (show n + 3 - k = n + 3 - (k + 1) + 1 by omega)
      clear hc1
      have i0 : (0 : Int) ≤ (k : Int) := by omega
      have i1 : (k : Int) < (n : Int) := by omega
      go_wp2
      go_roundw
      case rel => exact ⟨k + 1, by omega, by go_num, by rw [← HS.out]; have := HH.out; rw [HM.out] at this; exact heap_put this k _, hb.setCell (Nat.le_refl _) _⟩
      case measure => simp [intOf]; omega
    · obtain rfl : k = n := by omega
      go_wp2
      go_loopw [5] (fun i wr => ∃ j : Nat, j ≤ 3 ∧ i = .int .i64 ((k + j : Nat) : Int) ∧ wr.heap[w.heap.size]? = some (.cells (BL (tail7 l j)) 5 (0, 0)) ∧ Below w.heap.size w wr) (fun i _ => (k + 3) - (intOf i).toNat)
      case atStart => exact ⟨0, by omega, rfl, by have := HH.out; unfold half at this; rw [List.take_of_length_le (by rw [HL.out]; omega), show k + 3 - k = 3 by omega] at this; simpa [tail7] using this, hb⟩
      case round =>
        rename_i wr0
        obtain ⟨j, hj, rfl, hh, hb2⟩ := hrel
        have H2 := Lib.hid hh
        clear hh
        by_cases hlt2 : j < 3
        · have g2 : wr.cell? ⟨w.heap.size, k + j, none⟩ = some (.int .u8 ((tail7 l j).getD (k + j) 0)) := BL_cell H2.out (k + j) (by unfold tail7; rw [tail7_len_ l j k HL.out hj]; omega)
          have g3 := froz H2.out (k + j)
          have HS := Lib.hid (tail7_set l j k HL.out hlt2)
          have i0 : (0 : Int) ≤ (k : Int) + (j : Int) := by omega
          have i1 : (k : Int) + (j : Int) < (k : Int) + 3 := by omega
          go_wp2
          go_roundw
          case rel => exact ⟨j + 1, by omega, by go_num, by rw [← HS.out]; exact heap_put H2.out (k + j) _, hb2.setCell (Nat.le_refl _) _⟩
          case measure => simp [intOf]; omega
        · obtain rfl : j = 3 := by omega
          go_wp2
          go_returns
          exact ⟨some ⟨w.heap.size, 0, none⟩, ret_sl1 (by simp) (by omega), ⟨HL.out, HR.out, w.heap.size, rfl, Nat.le_refl _, H2.out⟩, hb2⟩
theorem seven (l : List Int) (n j : Nat) (hl : l.length = n) (hj : j < 3) : (l ++ [7, 7, 7]).getD (n + j) 0 = 7 := by
  subst hl
  rw [List.getD_eq_getElem?_getD, List.getElem?_append_right (by omega), show l.length + j - l.length = j by omega]
  have h3 : j = 0 ∨ j = 1 ∨ j = 2 := by omega
  rcases h3 with rfl | rfl | rfl <;> rfl
theorem left_any (base : Nat) (A1 A2 : Option Addr) (n c2 B2 : Nat) (l : List Int) (w : World) (hn : n ≤ 140737488355328) (hw : Wd w base A1 n l) (h2 : Rd w B2 A2 n l) :
    Calls Tryd.prog 15 #[.slice A1 n (n + 3), .slice A2 n c2] w fun e w' => e = .returned (.bool true) ∧ ∃ q, w' = w.drewN q := by
  have C := Lib.hid (same_yes A1 A2 n (n + 3) c2 _ _ l w (by omega) hw.rd h2)
  obtain ⟨hl, hr, g, rfl, hg, hh⟩ := hw
  have hc : ∀ j, j < 3 → w.cell? ⟨g, n + j, none⟩ = some (.int .u8 7) := fun j hj => by rw [BL_cell hh (n + j) (by simp; omega), seven l n j hl hj]
  have HC := Lib.hid hc
  clear h2 hl hr hh hc
  go_enter Tryd.func15, Tryd.ntmps15
  go_wp2_with ((refine C.out.mono ?_); rintro e w1 ⟨rfl, q, rfl⟩)
  go_loop [6] (fun i => ∃ j : Nat, j ≤ 3 ∧ i = .int .i64 ((n + j : Nat) : Int)) (fun i => (n + 3) - (intOf i).toNat)
  case atStart => exact ⟨0, by omega, rfl⟩
  case round =>
    obtain ⟨j, hj, rfl⟩ := hrel
    by_cases hlt : j < 3
    · have g1 := HC.out j hlt
      have i0 : (0 : Int) ≤ (n : Int) + (j : Int) := by omega
      have i1 : (n : Int) + (j : Int) < (n : Int) + 3 := by omega
      go_wp2
      go_round
      case rel => exact ⟨j + 1, by omega, by go_num⟩
      case measure => simp [intOf]; omega
    · obtain rfl : j = 3 := by omega
      go_wp2
      go_returns
      exact ⟨rfl, q, rfl⟩
/-! Bytes of the call's own that are changed, the room behind them, too. -/
theorem spoil_any (base : Nat) (A : Option Addr) (n c : Nat) (l : List Int) (by_ : Int) (w : World) (hob : OB w base A n c l) (hbase : base ≤ w.heap.size) (b0 : 0 ≤ by_) (b1 : by_ < 256) :
    Calls Tryd.prog 17 #[.slice A n c, .int .u8 by_] w fun e w' => e = .returned (.tuple #[]) ∧ Below base w w' := by
  obtain ⟨h1, h2, h3, h4, h5⟩ := hob
  unfold maxLen at h4
  by_cases hc0 : c = 0
  · subst hc0
    obtain rfl : n = 0 := by omega
    clear h1 h2 h5
    go_enter Tryd.func17, Tryd.ntmps17
    go_wp2
    refine wp_loop_rounds 1 ?_
    rw [rounds_succ]
    go_wp2
    go_returns
    exact ⟨rfl, Below.refl _ _⟩
  · rcases h5 with ⟨_, _, h0⟩ | ⟨g, zs, rfl, hg, hh, hz, ht, hrz⟩
    · exact absurd h0 hc0
    · clear h1 h2 ht
      have hlt0 := lt_heap hh
      have HI := Lib.hid (show ∃ zs : List Int, w.heap[g]? = some (.cells (BL zs) 5 (0, 0)) ∧ zs.length = c ∧ rng zs from ⟨zs, hh, hz, hrz⟩)
      clear hh hz hrz
      have e1 : ¬ c = 0 := hc0
      go_enter Tryd.func17, Tryd.ntmps17
      go_wp2
      go_loopw [5] (fun i wr => ∃ k : Nat, k ≤ c ∧ i = .int .i64 k ∧ (∃ zs : List Int, wr.heap[g]? = some (.cells (BL zs) 5 (0, 0)) ∧ zs.length = c ∧ rng zs) ∧ Below base w wr) (fun i _ => c - (intOf i).toNat)
      case atStart => exact ⟨0, Nat.zero_le _, rfl, HI.out, Below.refl _ _⟩
      case round =>
        obtain ⟨k, hk, rfl, ⟨ys, hy, hyl, hyr⟩, hb⟩ := hrel
        have HY := Lib.hid hy
        have HL := Lib.hid hyl
        have HR := Lib.hid hyr
        clear hy hyl hyr
        by_cases hlt : k < c
        · have g1 : wr.cell? ⟨g, k, none⟩ = some (.int .u8 (ys.getD k 0)) := BL_cell HY.out k (by rw [HL.out]; exact hlt)
          have g2 := froz HY.out k
          obtain ⟨x0, x1⟩ := rng_getD HR.out k
          generalize ys.getD k 0 = x at g1 x0 x1
          have i0 : (0 : Int) ≤ (k : Int) := by omega
          have i1 : (k : Int) < (c : Int) := by omega
          go_wp2
          go_roundw
          case rel =>
            refine ⟨k + 1, by omega, by go_num, ⟨_, heap_put HY.out k _, by rw [List.length_set]; exact HL.out, ?_⟩, hb.setCell hg _⟩
            intro y hy
            rcases List.mem_or_eq_of_mem_set hy with h | rfl
            · exact HR.out y h
            · omega
          case measure => simp [intOf]; omega
        · obtain rfl : k = c := by omega
          go_wp2
          go_returns
          exact ⟨rfl, hb⟩
end Go.Proofs.YtolifmpkillglaaDoor
