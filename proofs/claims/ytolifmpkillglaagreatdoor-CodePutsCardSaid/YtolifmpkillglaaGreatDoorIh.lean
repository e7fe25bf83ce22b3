import Derived.Test.YtolifmpkillglaaGreatDoorIf
set_option linter.unusedVariables false
set_option maxRecDepth 100000
namespace Go.Proofs.YtolifmpkillglaaGreatDoor
open Go.RowKit
/-! The places to which an instruction leads. -/
def jmpO (o : Int) : Bool := (ofC o).1.jumps
def leadL (x : Ins) : List Int := if jmpO x.sc.op then x.sc.jump :: x.tab else []
/-- One element: the row that the walk lays for an append. -/
theorem ov_one (w : World) (x : Int) (S : Nat → Prop) (hS : ¬ S w.heap.size) : OV inR 3 (w.alloc (.cells #[.int .i64 x] 3)) S (some ⟨w.heap.size, 0, none⟩) 1 1 [x] :=
  OV.fresh w _ S hS [x] 1 rfl (by simp [maxLen]) (allok_one trivial)
set_option maxHeartbeats 2000000 in
theorem leads_any (x : Ins) (r : RI) (w : World) (B : Nat) (T : Tab w) (h : InsR w B r x) (hB : B ≤ w.heap.size) (o0 : 0 ≤ x.sc.op) (o1 : x.sc.op < 256) (hn : r.tn ≤ 70000) :
    Calls Tryz.prog 60 #[r.val] w fun e w' => ∃ A' c', e = .returned (.slice A' (leadL x).length c') ∧ OV inR 3 w' (Lt w.heap.size) A' (leadL x).length c' (leadL x) ∧ Below w.heap.size w w' := by
  obtain ⟨hsc, ht, hm, hle, hle2⟩ := h
  obtain ⟨⟨s0, s1, s2, s3, s4, s5, s6, s7⟩, tA, tn, tc, mA, mn, mc⟩ := r
  obtain ⟨sc, tab, mat⟩ := x
  simp only at hsc
  subst hsc
  unfold leadL jmpO RI.val
  simp only at ht hm hle hn o0 o1 ⊢
  have HO := Lib.hid (of_any s1 o0 o1)
  rcases hof : ofC s1 with ⟨⟨x0, x1, x2, x3, x4, x5, x6⟩, er⟩
  rw [hof] at HO
  unfold OfSaid at HO
  simp only [Inf.val] at HO
  clear hof
  have HT := Lib.hid (T.alloc (.cells #[.int .i64 s0, .int .u8 s1, .int .i64 s2, .int .u8 s3, .int .u16 s4, .int .i64 s5, .int .i64 s6, .slice tA tn tc, .slice mA mn mc, .int .u16 s7] 28))
  have HR := Lib.hid (ht.alloc hB (.cells #[.int .i64 s0, .int .u8 s1, .int .i64 s2, .int .u8 s3, .int .u16 s4, .int .i64 s5, .int .i64 s6, .slice tA tn tc, .slice mA mn mc, .int .u16 s7] 28))
  have HY := Lib.hid (Blk.new w #[.int .i64 s0, .int .u8 s1, .int .i64 s2, .int .u8 s3, .int .u16 s4, .int .i64 s5, .int .i64 s6, .slice tA tn tc, .slice mA mn mc, .int .u16 s7] 28)
  have HK := Lib.hid (below_new w (.cells #[.int .i64 s0, .int .u8 s1, .int .i64 s2, .int .u8 s3, .int .u16 s4, .int .i64 s5, .int .i64 s6, .slice tA tn tc, .slice mA mn mc, .int .u16 s7] 28))
  have hsz : (w.alloc (.cells #[.int .i64 s0, .int .u8 s1, .int .i64 s2, .int .u8 s3, .int .u16 s4, .int .i64 s5, .int .i64 s6, .slice tA tn tc, .slice mA mn mc, .int .u16 s7] 28)).heap.size = w.heap.size + 1 := by simp
  clear T ht hm
  rcases x5 with _ | _
  · show Calls _ _ _ _ fun e w' => ∃ A' c', e = .returned (.slice A' 0 c') ∧ OV inR 3 w' (Lt w.heap.size) A' 0 c' [] ∧ Below w.heap.size w w'
    go_enter Tryz.func60, Tryz.ntmps60
    go_upto_region 1 with (fail)
    generalize w.alloc (.cells #[.int .i64 s0, .int .u8 s1, .int .i64 s2, .int .u8 s3, .int .u16 s4, .int .i64 s5, .int .i64 s6, .slice tA tn tc, .slice mA mn mc, .int .u16 s7] 28) = w1 at HT HR HY HK hsz ⊢
    have y1 : w1.cell? ⟨w.heap.size, 1, none⟩ = some (.int .u8 s1) := HY.out.cell 1
    go_wp2_with fail
    refine (HO.out _ HT.out).mono ?_
    rintro e w2 ⟨rfl, b2⟩
    have hz2 := b2.size
    have HR := Lib.hid ((HR.out.below b2 (by omega)).alloc (by omega) (.cells #[.int .u8 x0, .string ⟨x1.toArray⟩, .int .u8 x2, .int .i64 x3, .int .i64 x4, .bool false, .bool x6] 46))
    have HY := Lib.hid ((HY.out.below b2).alloc (.cells #[.int .u8 x0, .string ⟨x1.toArray⟩, .int .u8 x2, .int .i64 x3, .int .i64 x4, .bool false, .bool x6] 46))
    have HK := Lib.hid ((HK.out.trans (b2.mono (by omega))).alloc (by omega) (.cells #[.int .u8 x0, .string ⟨x1.toArray⟩, .int .u8 x2, .int .i64 x3, .int .i64 x4, .bool false, .bool x6] 46))
    have HI := Lib.hid (Blk.new w2 #[.int .u8 x0, .string ⟨x1.toArray⟩, .int .u8 x2, .int .i64 x3, .int .i64 x4, .bool false, .bool x6] 46)
    have hg2 : (w2.alloc (.cells #[.int .u8 x0, .string ⟨x1.toArray⟩, .int .u8 x2, .int .i64 x3, .int .i64 x4, .bool false, .bool x6] 46)).heap.size = w2.heap.size + 1 := by simp
    clear b2 y1 HO HT
    go_upto_region 2 with (fail)
    generalize w2.alloc (.cells #[.int .u8 x0, .string ⟨x1.toArray⟩, .int .u8 x2, .int .i64 x3, .int .i64 x4, .bool false, .bool x6] 46) = w3 at HR HY HK HI hg2 ⊢
    have q5 : w3.cell? ⟨w2.heap.size, 5, none⟩ = some (.bool false) := HI.out.cell 5
    have y6 : w3.cell? ⟨w.heap.size, 6, none⟩ = some (.int .i64 s6) := HY.out.cell 6
    have y7 : w3.cell? ⟨w.heap.size, 7, none⟩ = some (.slice tA tn tc) := HY.out.cell 7
    go_wp2_with fail
    go_returns
    exact ⟨none, 0, rfl, OV.nil_, HK.out⟩
  · show Calls _ _ _ _ fun e w' => ∃ A' c', e = .returned (.slice A' (s6 :: tab).length c') ∧ OV inR 3 w' (Lt w.heap.size) A' (s6 :: tab).length c' (s6 :: tab) ∧ Below w.heap.size w w'
    go_enter Tryz.func60, Tryz.ntmps60
    go_upto_region 1 with (fail)
    generalize w.alloc (.cells #[.int .i64 s0, .int .u8 s1, .int .i64 s2, .int .u8 s3, .int .u16 s4, .int .i64 s5, .int .i64 s6, .slice tA tn tc, .slice mA mn mc, .int .u16 s7] 28) = w1 at HT HR HY HK hsz ⊢
    have y1 : w1.cell? ⟨w.heap.size, 1, none⟩ = some (.int .u8 s1) := HY.out.cell 1
    go_wp2_with fail
    refine (HO.out _ HT.out).mono ?_
    rintro e w2 ⟨rfl, b2⟩
    have hz2 := b2.size
    have HR := Lib.hid ((HR.out.below b2 (by omega)).alloc (by omega) (.cells #[.int .u8 x0, .string ⟨x1.toArray⟩, .int .u8 x2, .int .i64 x3, .int .i64 x4, .bool true, .bool x6] 46))
    have HY := Lib.hid ((HY.out.below b2).alloc (.cells #[.int .u8 x0, .string ⟨x1.toArray⟩, .int .u8 x2, .int .i64 x3, .int .i64 x4, .bool true, .bool x6] 46))
    have HK := Lib.hid ((HK.out.trans (b2.mono (by omega))).alloc (by omega) (.cells #[.int .u8 x0, .string ⟨x1.toArray⟩, .int .u8 x2, .int .i64 x3, .int .i64 x4, .bool true, .bool x6] 46))
    have HI := Lib.hid (Blk.new w2 #[.int .u8 x0, .string ⟨x1.toArray⟩, .int .u8 x2, .int .i64 x3, .int .i64 x4, .bool true, .bool x6] 46)
    have hg2 : (w2.alloc (.cells #[.int .u8 x0, .string ⟨x1.toArray⟩, .int .u8 x2, .int .i64 x3, .int .i64 x4, .bool true, .bool x6] 46)).heap.size = w2.heap.size + 1 := by simp
    clear b2 y1 HO HT
    go_upto_region 2 with (fail)
    generalize w2.alloc (.cells #[.int .u8 x0, .string ⟨x1.toArray⟩, .int .u8 x2, .int .i64 x3, .int .i64 x4, .bool true, .bool x6] 46) = w3 at HR HY HK HI hg2 ⊢
    have q5 : w3.cell? ⟨w2.heap.size, 5, none⟩ = some (.bool true) := HI.out.cell 5
    have y6 : w3.cell? ⟨w.heap.size, 6, none⟩ = some (.int .i64 s6) := HY.out.cell 6
    have y7 : w3.cell? ⟨w.heap.size, 7, none⟩ = some (.slice tA tn tc) := HY.out.cell 7
    have hl := HR.out.len
    have hS : ¬ Lt w.heap.size w3.heap.size := fun h => absurd (show w3.heap.size < w.heap.size from h) (by omega)
    have HO1 := Lib.hid (ov_one w3 s6 (Lt w.heap.size) hS)
    rw [hg2] at HO1
    have HR1 := Lib.hid (HR.out.alloc (by omega) (.cells #[.int .i64 s6] 3))
    have HB1 := Lib.hid (below_new w3 (.cells #[.int .i64 s6] 3))
    have y7' : (w3.alloc (.cells #[.int .i64 s6] 3)).cell? ⟨w.heap.size, 7, none⟩ = some (.slice tA tn tc) := (HY.out.alloc _).cell 7
    have hz4 : w.heap.size ≤ (w3.alloc (.cells #[.int .i64 s6] 3)).heap.size := by simp; omega
    go_wp2_with (at_builtin; go_loud (refine wpList_appV inFit rfl _ _ rfl (Lt w.heap.size) (some ⟨w2.heap.size + 1, 0, none⟩) 1 1 [s6] rfl HO1.out B tA tn tc tab rfl HR1.out (1 + tn) rfl ([s6] ++ tab) rfl (by omega) (fun q hq => Nat.lt_of_lt_of_le hq hz4) ?_); intro A2 c2 w4 ho4 hb4)
    go_returns
    subst hl
    have e : 1 + tab.length = tab.length + 1 := Nat.add_comm _ _
    rw [e] at ho4
    exact ⟨A2, c2, by show Ending.returned (.slice A2 (1 + tab.length) c2) = _; rw [e], ho4, (HK.out.trans ((HB1.out).mono (by omega))).trans hb4.below'⟩
end Go.Proofs.YtolifmpkillglaaGreatDoor
