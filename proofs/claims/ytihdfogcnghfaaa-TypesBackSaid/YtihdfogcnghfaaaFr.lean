import Derived.Test.YtihdfogcnghfaaaFq
import Derived.Test.YtihdfogcnghfaaaDi
set_option linter.unusedVariables false
namespace Go.Proofs.Ytihdfogcnghfaaa
open Go.RowKit
/-! TypesFresh. -/
theorem spoil_kp (S : Nat → Prop) (A : Option Addr) (n c : Nat) (l : List Int) (by_ : Int) (w : World) (hos : OS w S A n c l) (b0 : 0 ≤ by_) (b1 : by_ < 256) :
    Calls Try.prog 30 #[.slice A n c, .int .u8 by_] w fun e w' => e = .returned (.tuple #[]) ∧ Kp S w w' := by
  obtain ⟨h1, h2, h3, h4, h5⟩ := hos
  unfold maxLen at h4
  by_cases hc0 : c = 0
  · subst hc0
    obtain rfl : n = 0 := by omega
    clear h1 h2 h5
    go_enter Try.func30, Try.ntmps30
    go_wp2
    refine wp_loop_rounds 1 ?_
    rw [rounds_succ]
    go_wp2
    go_returns
    exact ⟨rfl, Kp.refl _ _⟩
  · rcases h5 with ⟨_, _, h0⟩ | ⟨g, zs, rfl, hg, hh, hz, ht, hrz⟩
    · exact absurd h0 hc0
    · clear h1 h2 ht
      rw [enA_by] at hh
      have HI := Lib.hid (show ∃ zs : List Int, w.heap[g]? = some (.cells (BL zs) 5 (0, 0)) ∧ zs.length = c ∧ rng zs from ⟨zs, hh, hz, hrz⟩)
      have HG := Lib.hid hg
      clear hh hz hrz hg
      have e1 : ¬ c = 0 := hc0
      go_enter Try.func30, Try.ntmps30
      go_wp2
      go_loopw [5] (fun i wr => ∃ k : Nat, k ≤ c ∧ i = .int .i64 k ∧ (∃ zs : List Int, wr.heap[g]? = some (.cells (BL zs) 5 (0, 0)) ∧ zs.length = c ∧ rng zs) ∧ Kp S w wr) (fun i _ => c - (intOf i).toNat)
      case atStart => exact ⟨0, Nat.zero_le _, rfl, HI.out, Kp.refl _ _⟩
      case round =>
        obtain ⟨k, hk, rfl, ⟨ys, hy, hyl, hyr⟩, hb⟩ := hrel
        have HY := Lib.hid hy
        have HL := Lib.hid hyl
        have HR := Lib.hid hyr
        have HF := Lib.hid hb
        clear hy hyl hyr hb
        by_cases hlt : k < c
        · have g1 : wr.cell? ⟨g, k, none⟩ = some (.int .u8 (ys.getD k 0)) := BL_cell HY.out k (by rw [HL.out]; exact hlt)
          have g2 := froz HY.out k
          obtain ⟨x0, x1⟩ := rng_getD HR.out k
          generalize ys.getD k 0 = x at g1 x0 x1
          have i0 : (0 : Int) ≤ (k : Int) := by omega
          have i1 : (k : Int) < (c : Int) := by omega
          go_wp2
          go_roundw
          case rel =>
            refine ⟨k + 1, by omega, by go_num, ⟨_, heap_put HY.out k _, by rw [List.length_set]; exact HL.out, ?_⟩, HF.out.setCell (p := ⟨g, k, none⟩) HG.out _⟩
            intro y hy
            rcases List.mem_or_eq_of_mem_set hy with h | rfl
            · exact HR.out y h
            · omega
          case measure => simp [intOf]; omega
        · obtain rfl : k = c := by omega
          go_wp2
          go_returns
          exact ⟨rfl, HF.out⟩
theorem Wd.out {w : World} {base n : Nat} {A : Option Addr} {l : List Int} (h : Wd w base A n l) : ∃ g, A = some ⟨g, 0, none⟩ ∧ base ≤ g ∧ g < w.heap.size := by
  obtain ⟨_, _, g, h3, h4, h5⟩ := h
  exact ⟨g, h3, h4, lt_heap h5⟩
theorem Wd.os {w : World} {base n : Nat} {A : Option Addr} {l : List Int} (h : Wd w base A n l) (hn : n ≤ 140737488355328) (S : Nat → Prop) (hS : ∀ g, A = some ⟨g, 0, none⟩ → ¬ S g) : OS w S A n (n + 3) l := by
  obtain ⟨h1, h2, g, h3, h4, h5⟩ := h
  subst h3
  have h7 : rng [7, 7, 7] := rng_lit rfl
  have k := OV.row (R := byR) (e := 5) (w := w) (S := S) (g := g) (zs := l ++ [7, 7, 7]) (n := n) (c := n + 3) (hS g rfl) (by rw [enA_by]; exact h5) (by rw [List.length_append, h1]; rfl) (by omega) (by unfold maxLen; omega) (rng_app h2 h7)
  rwa [← h1, List.take_left, h1] at k
set_option maxHeartbeats 2000000 in
set_option maxRecDepth 100000 in
theorem twalk_fresh (A A1 : Option Addr) (n d n1 d1 : Nat) (l : List Ty) (b : List Int) (k cl i : Int) (w : World) (hn : n * 4 ≤ 140737488351232) (hn1 : n1 ≤ 140737488351232) (hd1 : n1 ≤ d1)
    (hr : RV tyR w w.heap.size A n l) (hb : tyB k cl) (hr1 : Rd w w.heap.size A1 n1 b) :
    Calls Try.prog 7 #[.agg #[.slice A n d, .int .u8 k, .int .u16 cl], .slice A1 n1 d1, .int .i64 i] w fun e w' => e = .returned (.bool true) ∧ Below w.heap.size w w' := by
  have HR := Lib.hid hr
  have HR1 := Lib.hid hr1
  have P1 := Lib.hid (putsig_any n k cl l (by omega) hb)
  have P2 := Lib.hid (getsig_any n1 b i (by omega) hr1.len hr1.rg)
  have HL := Lib.hid (gSig_len b i hr1.rg)
  clear hr hr1 hb
  generalize gSig b i = s at P2 HL
  have x1 := (Blk.new w #[.slice A n d, .int .u8 k, .int .u16 cl] 28).alloc (.cells #[.slice none 0 0, .int .u8 k, .int .u16 cl] 28)
  have x2 := Blk.new (w.alloc (.cells #[.slice A n d, .int .u8 k, .int .u16 cl] 28)) #[.slice none 0 0, .int .u8 k, .int .u16 cl] 28
  have x4 := ((Below.refl w.heap.size w).alloc (Nat.le_refl _) (.cells #[.slice A n d, .int .u8 k, .int .u16 cl] 28)).alloc (by simp) (.cells #[.slice none 0 0, .int .u8 k, .int .u16 cl] 28)
  rw [show (w.alloc (.cells #[.slice A n d, .int .u8 k, .int .u16 cl] 28)).heap.size = w.heap.size + 1 by simp] at x2
  have HX1 := Lib.hid x1
  have HX2 := Lib.hid x2
  have HX4 := Lib.hid x4
  clear x1 x2 x4
  go_enter Try.func7, Try.ntmps7
  go_wp2_with (at_builtin; refine wpList_appV tyFit rfl _ _ rfl (Lt (w.heap.size + 1 + 1)) none 0 0 [] rfl OV.nil_ _ A n d l rfl (HR.out.below HX4.out (Nat.le_refl _)) n (by omega) l rfl (by omega) (fun j hj => by unfold Lt at hj; simp; omega) ?_; intro A3 d3 w1 ho1 hb1; have y2 := HX2.out.kp hb1 (by unfold Lt; omega); have q0 : w1.cell? ⟨w.heap.size + 1, 0, none⟩ = some (.slice none 0 0) := y2.cell 0; have qf0 := y2.froz 0; have q1 : w1.cell? ⟨w.heap.size + 1, 1, none⟩ = some (.int .u8 k) := y2.cell 1; have q2 : w1.cell? ⟨w.heap.size + 1, 2, none⟩ = some (.int .u16 cl) := y2.cell 2; have HY2 := Lib.hid y2; have HO1 := Lib.hid ho1; have HBB := Lib.hid hb1; clear y2 ho1 hb1)
  have HY1 := Lib.hid ((HX1.out.kp HBB.out (by unfold Lt; omega)).other ⟨w.heap.size + 1, 0, none⟩ (.slice A3 n d3) (by simp))
  have HY2' := Lib.hid (HY2.out.set 0 (.slice A3 n d3))
  have HO := Lib.hid (HO1.out.set (p := ⟨w.heap.size + 1, 0, none⟩) (by unfold Lt; simp) (.slice A3 n d3))
  have HB := Lib.hid ((HX4.out.trans (HBB.out.below (B := w.heap.size) (fun j hj => by unfold Lt; omega))).setCell (p := ⟨w.heap.size + 1, 0, none⟩) (by simp) (.slice A3 n d3))
  clear HX1 HX2 HX4 HY2 HO1 HBB q0 qf0 q1 q2
  generalize w1.setCell ⟨w.heap.size + 1, 0, none⟩ (.slice A3 n d3) = w2 at HY1 HY2' HO HB ⊢
  refine (P1.out _ _ _ _ HO.out.rv (Nat.le_refl _)).mono ?_
  rintro e w3 ⟨A4, d4, rfl, ho4, hb4⟩
  have HO4 := Lib.hid ho4
  have HB4 := Lib.hid hb4
  clear ho4 hb4 P1
  go_wp2_with fail
  refine (spoil_kp (Lt w2.heap.size) A4 _ d4 _ 1 _ HO4.out (by omega) (by omega)).mono ?_
  rintro e w4 ⟨rfl, hk4⟩
  have B24 := HB4.out.trans (hk4.below (fun _ h => h))
  have HY1b := Lib.hid (HY1.out.below B24)
  have HY2b := Lib.hid (HY2'.out.below B24)
  have HOb := Lib.hid (HO.out.below B24)
  have HE4 := Lib.hid (HB.out.trans (B24.mono HB.out.size))
  clear HY1 HY2' HO HB HO4 HB4 hk4 B24
  go_wp2_with fail
  refine (wide_any A1 n1 d1 _ b _ (by omega) (HR1.out.below HE4.out (Nat.le_refl _)) HE4.out.size).mono ?_
  rintro e w5 ⟨A5, rfl, hw5, hb5⟩
  have HW5 := Lib.hid hw5
  have HB5 := Lib.hid hb5
  clear hw5 hb5
  go_wp2_with fail
  refine (P2.out _ A5 (n1 + 3) _ HW5.out.rd (by omega) (Nat.le_refl _)).mono ?_
  rintro e w6 ⟨A6, d6, rfl, ho6, hb6⟩
  have HX6 := Lib.hid (Blk.new w6 #[.slice A6 s.ts.length d6, .int .u8 s.k, .int .u16 s.c] 28)
  have HW6 := Lib.hid ((HW5.out.below hb6).below ((Below.refl _ _).alloc (Nat.le_refl _) (.cells #[.slice A6 s.ts.length d6, .int .u8 s.k, .int .u16 s.c] 28)))
  have HO6 := Lib.hid (ho6.alloc (.cells #[.slice A6 s.ts.length d6, .int .u8 s.k, .int .u16 s.c] 28))
  have HB6 := Lib.hid (hb6.alloc hb6.size (.cells #[.slice A6 s.ts.length d6, .int .u8 s.k, .int .u16 s.c] 28))
  have HZ6 := Lib.hid (show w5.heap.size ≤ w6.heap.size from hb6.size)
  clear ho6 hb6
  go_wp2_with fail
  generalize w6.alloc (.cells #[.slice A6 s.ts.length d6, .int .u8 s.k, .int .u16 s.c] 28) = w7 at HX6 HW6 HO6 HB6 ⊢
  have hS2 : OS w7 (fun q => q < w4.heap.size ∨ (w5.heap.size ≤ q ∧ q < w7.heap.size)) A5 n1 (n1 + 3) b := HW6.out.os (by omega) _ (fun g hg => by
    obtain ⟨g', h1, h2, h3⟩ := HW5.out.out
    rw [hg] at h1
    injection h1 with h1
    injection h1 with h1
    omega)
  have HS2 := Lib.hid hS2
  clear hS2
  refine (spoil_kp _ A5 _ (n1 + 3) _ 1 _ HS2.out (by omega) (by omega)).mono ?_
  rintro e w8 ⟨rfl, hk8⟩
  have h47 : w4.heap.size ≤ w7.heap.size := Nat.le_trans HB5.out.size HB6.out.size
  have B48 : Below w4.heap.size w4 w8 := (HB5.out.trans (HB6.out.mono HB5.out.size)).trans (hk8.below (fun q hq => .inl hq))
  have HX8 := Lib.hid (HX6.out.kp hk8 (.inr ⟨HZ6.out, HX6.out.lt⟩))
  have HO8 := Lib.hid (HO6.out.keep (w' := w8) (fun g hg hlt _ => hk8.block g (.inr ⟨by unfold Lt at hg; omega, hlt⟩)))
  have HY1c := Lib.hid (HY1b.out.below B48)
  have HY2c := Lib.hid (HY2b.out.below B48)
  have HOc := Lib.hid (HOb.out.below B48)
  have HE8 := Lib.hid (HE4.out.trans (B48.mono HE4.out.size))
  clear HY1b HY2b HOb HE4 HX6 HO6 HW5 HW6 HB5 HB6 HS2 B48 hk8
  go_wp2_with fail
  refine (P2.out _ A1 d1 _ (HR1.out.below HE8.out (Nat.le_refl _)) hd1 HE8.out.size).mono ?_
  rintro e w9 ⟨A9, d9, rfl, ho9, hb9⟩
  have X8 := HX8.out.below hb9
  have Y1 := HY1c.out.below hb9
  have Y2 := HY2c.out.below hb9
  have HO9 := Lib.hid (ho9.alloc (.cells #[.slice A9 s.ts.length d9, .int .u8 s.k, .int .u16 s.c] 28)).rv
  have HOy := Lib.hid ((HO8.out.below hb9).alloc (.cells #[.slice A9 s.ts.length d9, .int .u8 s.k, .int .u16 s.c] 28)).rv
  have HOc2 := Lib.hid ((HOc.out.below hb9).alloc (.cells #[.slice A9 s.ts.length d9, .int .u8 s.k, .int .u16 s.c] 28)).rv
  have HE9 := Lib.hid ((HE8.out.trans (hb9.mono HE8.out.size)).alloc (Nat.le_trans HE8.out.size hb9.size) (.cells #[.slice A9 s.ts.length d9, .int .u8 s.k, .int .u16 s.c] 28))
  have z8 : w6.heap.size < w9.heap.size := X8.lt
  have z1 : w.heap.size < w9.heap.size := Y1.lt
  have z2 : w.heap.size + 1 < w9.heap.size := Y2.lt
  have g0 : w9.cell? ⟨w6.heap.size, 0, none⟩ = some (.slice A6 s.ts.length d6) := X8.cell 0
  have g1 : w9.cell? ⟨w6.heap.size, 1, none⟩ = some (.int .u8 s.k) := X8.cell 1
  have g2 : w9.cell? ⟨w6.heap.size, 2, none⟩ = some (.int .u16 s.c) := X8.cell 2
  have y10 : w9.cell? ⟨w.heap.size, 0, none⟩ = some (.slice A n d) := Y1.cell 0
  have y20 : w9.cell? ⟨w.heap.size + 1, 0, none⟩ = some (.slice A3 n d3) := Y2.cell 0
  clear ho9 hb9 X8 Y1 Y2 HX8 HO8 HY1c HY2c HOc HE8 P2 HR1
  go_wp2_with fail
  refine (types_any A3 A n n d3 d _ _ l l _ (by omega) (by omega) HOc2.out (HR.out.below HE9.out (Nat.le_refl _))).mono ?_
  rw [decide_eq_true rfl]
  rintro e w10 ⟨rfl, q10, rfl⟩
  go_wp2_with fail
  refine (types_any A6 A9 _ _ d6 d9 _ _ s.ts s.ts _ (by have := HL.out; omega) (by have := HL.out; omega) (HOy.out.drewN q10) (HO9.out.drewN q10)).mono ?_
  rw [decide_eq_true rfl]
  rintro e w11 ⟨rfl, q11, rfl⟩
  go_wp2_with fail
  refine (tworks_any _).mono ?_
  rintro e w12 ⟨rfl, hb12⟩
  go_wp2_with fail
  go_returns
  exact ⟨rfl, (below_drewN HE9.out _).trans (hb12.mono HE9.out.size)⟩
end Go.Proofs.Ytihdfogcnghfaaa
