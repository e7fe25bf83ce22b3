import Derived.Test.YtihdfogcnghfaaaFm
set_option linter.unusedVariables false
namespace Go.Proofs.Ytihdfogcnghfaaa
open Go.RowKit
theorem gTs_len (l : List Int) : ∀ (m : Nat) (acc : List Ty) (i : Int), (gTs l acc m i).ts.length ≤ acc.length + m
  | 0, acc, i => by simp [gTs]
  | m + 1, acc, i => by
    rw [gTs_succ]
    by_cases he : (gTy l i).e = 0
    · rw [if_pos he]
      have := gTs_len l m (acc ++ [((gTy l i).k, (gTy l i).c)]) (gTy l i).x
      rw [List.length_append, List.length_singleton] at this
      omega
    · rw [if_neg he]; simp
theorem gSig_len (l : List Int) (i : Int) (hr : rng l) : (gSig l i).ts.length ≤ 15 := by
  rcases gSig_ways l i hr with ⟨E, _, _, hs⟩ | ⟨k, c, x, _, _, _, _, _, _, ⟨_, hs⟩ | ⟨m, _, _, _, ⟨_, hs⟩ | ⟨_, E, _, _, hs⟩ | ⟨h2, ts, y, ht, hs⟩⟩⟩
  · rw [hs]; simp
  · rw [hs]; simp
  · rw [hs]; simp
  · rw [hs]; simp
  · have := gTs_len l m [] ((x : Int) + 1)
    rw [ht] at this
    rw [hs]
    simp at this ⊢
    omega
set_option maxHeartbeats 2000000 in
set_option maxRecDepth 100000 in
theorem twalk_gets (A : Option Addr) (n c : Nat) (l : List Int) (i : Int) (w : World) (hn : n ≤ 140737488355328) (hc : n ≤ c) (hr : Rd w w.heap.size A n l) :
    Calls Try.prog 4 #[.slice A n c, .int .i64 i] w fun e w' => e = .returned (.bool true) ∧ Below w.heap.size w w' := by
  have P1 := Lib.hid (tget_any n l i (by omega) hr.len hr.rg)
  have P2 := Lib.hid (reftget_any n l i (by omega) hr.len hr.rg)
  have P3 := Lib.hid (getsig_any n l i (by omega) hr.len hr.rg)
  have P4 := Lib.hid (refgetsig_any n l i (by omega) hr.len hr.rg)
  have HL := Lib.hid (gSig_len l i hr.rg)
  have HR := Lib.hid hr
  clear hr
  generalize gTy l i = g at P1 P2
  generalize gSig l i = s at P3 P4 HL
  go_enter Try.func4, Try.ntmps4
  go_wp2_with fail
  refine (P1.out _ _ _ _ HR.out hc (Nat.le_refl _)).mono ?_
  rintro e w1 ⟨rfl, hb1⟩
  have X1 := Blk.new w1 #[.int .u8 g.k, .int .u16 g.c] 25
  have B1 := hb1.alloc hb1.size (.cells #[.int .u8 g.k, .int .u16 g.c] 25)
  have HX1 := Lib.hid X1
  clear X1
  go_wp2_with fail
  refine (P2.out _ _ _ _ (HR.out.below B1 (Nat.le_refl _)) hc B1.size).mono ?_
  rintro e w2 ⟨rfl, hb2⟩
  have X2 := Blk.new w2 #[.int .u8 g.k, .int .u16 g.c] 25
  have B2 := (B1.trans (hb2.mono B1.size)).alloc (Nat.le_trans B1.size hb2.size) (.cells #[.int .u8 g.k, .int .u16 g.c] 25)
  have HX12 := Lib.hid ((HX1.out.below hb2).alloc (.cells #[.int .u8 g.k, .int .u16 g.c] 25))
  have HX2 := Lib.hid X2
  clear X2 hb2 B1 HX1 hb1
  go_wp2_with fail
  refine (P3.out _ _ _ _ (HR.out.below B2 (Nat.le_refl _)) hc B2.size).mono ?_
  rintro e w3 ⟨A3, d3, rfl, ho3, hb3⟩
  have X3 := Blk.new w3 #[.slice A3 s.ts.length d3, .int .u8 s.k, .int .u16 s.c] 28
  have B3 := (B2.trans (hb3.mono B2.size)).alloc (Nat.le_trans B2.size hb3.size) (.cells #[.slice A3 s.ts.length d3, .int .u8 s.k, .int .u16 s.c] 28)
  have HX13 := Lib.hid ((HX12.out.below hb3).alloc (.cells #[.slice A3 s.ts.length d3, .int .u8 s.k, .int .u16 s.c] 28))
  have HX23 := Lib.hid ((HX2.out.below hb3).alloc (.cells #[.slice A3 s.ts.length d3, .int .u8 s.k, .int .u16 s.c] 28))
  have HX3 := Lib.hid X3
  have HO3 := Lib.hid (ho3.alloc (.cells #[.slice A3 s.ts.length d3, .int .u8 s.k, .int .u16 s.c] 28))
  clear X3 hb3 B2 HX12 HX2 ho3
  go_wp2_with fail
  refine (P4.out _ _ _ _ (HR.out.below B3 (Nat.le_refl _)) hc B3.size).mono ?_
  rintro e w4 ⟨A4, d4, rfl, ho4, hb4⟩
  have B4 := (B3.trans (hb4.mono B3.size)).alloc (Nat.le_trans B3.size hb4.size) (.cells #[.slice A4 s.ts.length d4, .int .u8 s.k, .int .u16 s.c] 28)
  have X1 := HX13.out.below hb4
  have X2 := HX23.out.below hb4
  have X3 := HX3.out.below hb4
  have r3 := ((HO3.out.below hb4).alloc (.cells #[.slice A4 s.ts.length d4, .int .u8 s.k, .int .u16 s.c] 28)).rv
  have r4 := (ho4.alloc (.cells #[.slice A4 s.ts.length d4, .int .u8 s.k, .int .u16 s.c] 28)).rv
  have g10 : w4.cell? ⟨w1.heap.size, 0, none⟩ = some (.int .u8 g.k) := X1.cell 0
  have g11 : w4.cell? ⟨w1.heap.size, 1, none⟩ = some (.int .u16 g.c) := X1.cell 1
  have g20 : w4.cell? ⟨w2.heap.size, 0, none⟩ = some (.int .u8 g.k) := X2.cell 0
  have g21 : w4.cell? ⟨w2.heap.size, 1, none⟩ = some (.int .u16 g.c) := X2.cell 1
  have g30 : w4.cell? ⟨w3.heap.size, 0, none⟩ = some (.slice A3 s.ts.length d3) := X3.cell 0
  have g31 : w4.cell? ⟨w3.heap.size, 1, none⟩ = some (.int .u8 s.k) := X3.cell 1
  have g32 : w4.cell? ⟨w3.heap.size, 2, none⟩ = some (.int .u16 s.c) := X3.cell 2
  have z1 : w1.heap.size < w4.heap.size := X1.lt
  have z2 : w2.heap.size < w4.heap.size := X2.lt
  have z3 : w3.heap.size < w4.heap.size := X3.lt
  have HB4 := Lib.hid B4
  have HR3 := Lib.hid r3
  have HR4 := Lib.hid r4
  clear X1 X2 X3 HX13 HX23 HX3 HO3 ho4 hb4 B3 r3 r4 P1 P2 P3 P4
  go_wp2_with fail
  refine (types_any A3 A4 _ _ d3 d4 _ _ s.ts s.ts _ (by have := HL.out; omega) (by have := HL.out; omega) HR3.out HR4.out).mono ?_
  rw [decide_eq_true rfl]
  rintro e w5 ⟨rfl, q5, rfl⟩
  go_wp2_with fail
  refine (tworks_any _).mono ?_
  rintro e w6 ⟨rfl, hb6⟩
  go_wp2_with fail
  go_returns
  exact ⟨rfl, (below_drewN HB4.out _).trans (hb6.mono HB4.out.size)⟩
end Go.Proofs.Ytihdfogcnghfaaa
