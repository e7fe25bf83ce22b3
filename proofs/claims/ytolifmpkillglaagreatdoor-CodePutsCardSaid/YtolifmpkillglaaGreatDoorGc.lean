import Derived.Test.YtolifmpkillglaaGreatDoorGb
set_option linter.unusedVariables false
set_option maxRecDepth 100000
namespace Go.Proofs.YtolifmpkillglaaGreatDoor
open Go.RowKit
/-! The names of a family; which one a number is; the family that is nearest. -/
theorem cut_any (l : List UInt8) (hl : l.length < 1000) (w : World) : Calls Tryz.prog 55 #[.string ⟨l.toArray⟩, .string ⟨#[32]⟩] w fun e w' => e = .returned (.tuple #[.string ⟨(cutF l).toArray⟩, .string ⟨(cutR l).toArray⟩, .bool (cutB l)]) ∧ ∃ n, w' = w.drewN n := by
  have HC := Lib.hid (fun w => slCut_any l hl w)
  go_enter Tryz.func55, Tryz.ntmps55
  go_wp2_with fail
  refine (HC.out _).mono ?_
  rintro e w1 ⟨rfl, n, rfl⟩
  go_wp2_with fail
  go_returns
  exact ⟨rfl, n, rfl⟩
def rest : List UInt8 → Nat → List UInt8
  | l, 0 => l
  | l, n + 1 => rest (cutR l) n
theorem rest_succ (l : List UInt8) (n : Nat) : rest l (n + 1) = cutR (rest l n) := by
  induction n generalizing l with
  | zero => rfl
  | succ n ih => exact ih (cutR l)
theorem cutR_len (l : List UInt8) : (cutR l).length ≤ l.length := by
  unfold cutR
  split
  · exact Nat.zero_le _
  · rw [List.length_drop]; omega
theorem rest_len (l : List UInt8) (n : Nat) : (rest l n).length ≤ l.length := by
  induction n generalizing l with
  | zero => exact Nat.le_refl _
  | succ n ih => exact Nat.le_trans (ih (cutR l)) (cutR_len l)
/-- The nth name of a text of names. -/
def nameL (l : List UInt8) (n : Nat) : List UInt8 := cutF (rest l n)
theorem name_any (f : Fam) (n : Nat) (w : World) (hn : n < 1000) (hl : f.names.length < 1000) : Calls Tryz.prog 38 #[f.val, .int .i64 n] w fun e w' => e = .returned (.string ⟨(nameL f.names n).toArray⟩) ∧ Below w.heap.size w w' := by
  obtain ⟨a0, a1, a2, a3, a4, a5, l⟩ := f
  have hl' : l.length < 1000 := hl
  have HC := Lib.hid (fun k w => cut_any (rest l k) (Nat.lt_of_le_of_lt (rest_len l k) hl') w)
  have HC0 := Lib.hid (fun w => cut_any l hl' w)
  unfold nameL
  show Calls Tryz.prog 38 #[.agg #[.int .u8 a0, .int .i64 a1, .int .u8 a2, .int .i64 a3, .int .i64 a4, .bool a5, .string ⟨l.toArray⟩], .int .i64 n] w fun e w' => e = .returned (.string ⟨(cutF (rest l n)).toArray⟩) ∧ Below w.heap.size w w'
  have HB := Lib.hid (below_new w (.cells #[.int .u8 a0, .int .i64 a1, .int .u8 a2, .int .i64 a3, .int .i64 a4, .bool a5, .string ⟨l.toArray⟩] 70))
  clear hl hl'
  go_enter Tryz.func38, Tryz.ntmps38
  go_wp2_with fail
  refine (HC0.out _).mono ?_
  rintro e w1 ⟨rfl, q0, rfl⟩
  go_wp2_with fail
  go_loopw [5, 6, 16] (fun nm rs i wr => ∃ k : Nat, k ≤ n ∧ i = .int .i64 k ∧ nm = .string ⟨(cutF (rest l k)).toArray⟩ ∧ rs = .string ⟨(cutR (rest l k)).toArray⟩ ∧ Below w.heap.size w wr) (fun _ _ i _ => n - (intOf i).toNat)
  case atStart => exact ⟨0, Nat.zero_le _, rfl, rfl, rfl, below_drewN HB.out _⟩
  case round =>
    obtain ⟨k, hk, rfl, rfl, rfl, hbr⟩ := hrel
    have HBr := Lib.hid hbr
    clear hbr
    by_cases hlt : k < n
    · have HS := Lib.hid (rest_succ l k)
      have HC1 := Lib.hid (HC.out (k + 1))
      rw [HS.out] at HC1
      go_wp2_with fail
      refine (HC1.out _).mono ?_
      rintro e w1 ⟨rfl, q1, rfl⟩
      go_wp2_with fail
      go_roundw
      case rel => exact ⟨k + 1, by omega, by go_num, by rw [HS.out], by rw [HS.out], below_drewN HBr.out _⟩
      case measure => simp [intOf]; omega
    · obtain rfl : k = n := by omega
      go_wp2_with fail
      go_returns
      exact ⟨rfl, HBr.out⟩
def nearN (o : Int) : Nat → Nat
  | 0 => 0
  | j + 1 => if (fam (j + 1)).first ≤ o then j + 1 else nearN o j
def near (o : Int) : Nat := nearN o 39
theorem nearN_yes (o : Int) (j : Nat) (h : (fam j).first ≤ o) : nearN o j = j := by
  cases j with
  | zero => rfl
  | succ j => unfold nearN; rw [if_pos h]
theorem nearN_no (o : Int) (j : Nat) (ho : 0 ≤ o) (h : ¬ (fam j).first ≤ o) : 0 < j ∧ nearN o j = nearN o (j - 1) := by
  cases j with
  | zero => exact absurd ho (by have e : (fam 0).first = 0 := rfl; rwa [e] at h)
  | succ j =>
    refine ⟨by omega, ?_⟩
    show (if (fam (j + 1)).first ≤ o then j + 1 else nearN o j) = nearN o j
    rw [if_neg h]
theorem near_lt (o : Int) : near o < 40 := by
  have h : ∀ j, nearN o j ≤ j := by
    intro j
    induction j with
    | zero => exact Nat.le_refl _
    | succ j ih => unfold nearN; split <;> omega
  have := h 39
  unfold near
  omega
/-- Seven cells stored one behind the other. -/
theorem Blk.all7 {w : World} {g : Nat} {t : TypeId} {c0 c1 c2 c3 c4 c5 c6 : Value} (h : Blk w g #[c0, c1, c2, c3, c4, c5, c6] t) (v0 v1 v2 v3 v4 v5 v6 : Value) :
    Blk ((((((((w).setCell ⟨g, 0, none⟩ v0).setCell ⟨g, 1, none⟩ v1).setCell ⟨g, 2, none⟩ v2).setCell ⟨g, 3, none⟩ v3).setCell ⟨g, 4, none⟩ v4).setCell ⟨g, 5, none⟩ v5).setCell ⟨g, 6, none⟩ v6) g #[v0, v1, v2, v3, v4, v5, v6] t := by
  have := ((((((h.set 0 v0).set 1 v1).set 2 v2).set 3 v3).set 4 v4).set 5 v5).set 6 v6
  simpa using this
theorem Below.all7 {B : Nat} {a w : World} {g : Nat} (h : Below B a w) (hg : B ≤ g) (v0 v1 v2 v3 v4 v5 v6 : Value) :
    Below B a ((((((((w).setCell ⟨g, 0, none⟩ v0).setCell ⟨g, 1, none⟩ v1).setCell ⟨g, 2, none⟩ v2).setCell ⟨g, 3, none⟩ v3).setCell ⟨g, 4, none⟩ v4).setCell ⟨g, 5, none⟩ v5).setCell ⟨g, 6, none⟩ v6) :=
  ((((((h.setCell (p := ⟨g, 0, none⟩) hg v0).setCell (p := ⟨g, 1, none⟩) hg v1).setCell (p := ⟨g, 2, none⟩) hg v2).setCell (p := ⟨g, 3, none⟩) hg v3).setCell (p := ⟨g, 4, none⟩) hg v4).setCell (p := ⟨g, 5, none⟩) hg v5).setCell (p := ⟨g, 6, none⟩) hg v6
theorem field_first (a0 a1 a2 a3 a4 : Int) (a5 : Bool) (s : ByteArray) (w : World) : (Instr.field 70 (.agg #[.int .u8 a0, .int .i64 a1, .int .u8 a2, .int .i64 a3, .int .i64 a4, .bool a5, .string s]) 0).run Tryz.prog w = .ok (.int .u8 a0) w := by
  kernel_rfl
theorem nearest_any (o : Int) (w : World) (ho : 0 ≤ o) (T : Tab w) : Calls Tryz.prog 36 #[.int .u8 o] w fun e w' => e = .returned (fam (near o)).val ∧ Below w.heap.size w w' := by
  have HF := Lib.hid families_any
  have HA := Lib.hid at_any
  have HT := Lib.hid T
  have HB0 := Lib.hid (below_new w (.cells #[.int .u8 0, .int .i64 0, .int .u8 0, .int .i64 0, .int .i64 0, .bool false, .string ⟨#[]⟩] 70))
  clear T
  go_enter Tryz.func36, Tryz.ntmps36
  go_wp2_with fail
  refine (HF.out _).mono ?_
  rintro e w1 ⟨rfl, rfl⟩
  go_wp2_with fail
  go_loopw [3] (fun i wr => ∃ j : Nat, j < 40 ∧ i = .int .i64 j ∧ nearN o j = near o ∧ Blk wr w.heap.size #[.int .u8 0, .int .i64 0, .int .u8 0, .int .i64 0, .int .i64 0, .bool false, .string ⟨#[]⟩] 70 ∧ Below w.heap.size w wr) (fun i _ => (intOf i).toNat)
  case atStart => exact ⟨39, by omega, rfl, rfl, Blk.new w _ _, HB0.out⟩
  case round =>
    obtain ⟨j, hj, rfl, hn, hx, hbr⟩ := hrel
    have HX := Lib.hid hx
    have HB := Lib.hid hbr
    have HN := Lib.hid hn
    clear hx hbr hn
    by_cases hle : (fam j).first ≤ o
    · have HE := nearN_yes o j hle
      rw [HN.out] at HE
      have HV := Lib.hid (show Ending.returned (fam (near o)).val = .returned (fam j).val by rw [HE])
      have HA1 := HA.out j hj
      clear HE HN HA
      generalize fam j = f at HA1 hle HV
      obtain ⟨a0, a1, a2, a3, a4, a5, a6⟩ := f
      have HA2 := Lib.hid HA1
      clear HA1
      have hF := field_first a0 a1 a2 a3 a4 a5 ⟨a6.toArray⟩
      have hle' : ¬ o < a0 := by have : a0 ≤ o := hle; omega
      clear hle
      go_wp2_with fail
      refine (HA2.out _ (HT.out.below' HB.out)).mono ?_
      rintro e w1 ⟨rfl, hb1⟩
      have HB1 := Lib.hid (HB.out.trans (hb1.mono HB.out.size))
      have HX1 := Lib.hid (HX.out.below hb1)
      clear hb1
      simp only [Fam.val]
      go_wp2_with fail
      refine (HA2.out _ (HT.out.below' HB1.out)).mono ?_
      rintro e w2 ⟨rfl, hb2⟩
      have B2 := HB1.out.trans (hb2.mono HB1.out.size)
      have X2 := HX1.out.below hb2
      have X3 := X2.all7 (.int .u8 a0) (.int .i64 a1) (.int .u8 a2) (.int .i64 a3) (.int .i64 a4) (.bool a5) (.string ⟨a6.toArray⟩)
      have B3 := Below.all7 B2 (g := w.heap.size) (Nat.le_refl _) (.int .u8 a0) (.int .i64 a1) (.int .u8 a2) (.int .i64 a3) (.int .i64 a4) (.bool a5) (.string ⟨a6.toArray⟩)
      have c0 : w2.cell? ⟨w.heap.size, 0, none⟩ = _ := X2.cell 0
      have c1 : w2.cell? ⟨w.heap.size, 1, none⟩ = _ := X2.cell 1
      have c2 : w2.cell? ⟨w.heap.size, 2, none⟩ = _ := X2.cell 2
      have c3 : w2.cell? ⟨w.heap.size, 3, none⟩ = _ := X2.cell 3
      have c4 : w2.cell? ⟨w.heap.size, 4, none⟩ = _ := X2.cell 4
      have c5 : w2.cell? ⟨w.heap.size, 5, none⟩ = _ := X2.cell 5
      have c6 : w2.cell? ⟨w.heap.size, 6, none⟩ = _ := X2.cell 6
      have f0 := X2.froz 0
      have f1 := X2.froz 1
      have f2 := X2.froz 2
      have f3 := X2.froz 3
      have f4 := X2.froz 4
      have f5 := X2.froz 5
      have f6 := X2.froz 6
      have HX3 := Lib.hid X3
      have HB3 := Lib.hid B3
      clear X2 X3 B2 B3 hb2
      simp only [Fam.val]
      go_wp2_with fail
      have X3 := HX3.out
      have B3 := HB3.out
      clear HX3 HB3 c0 c1 c2 c3 c4 c5 c6
      generalize (((((((w2).setCell ⟨w.heap.size, 0, none⟩ (.int .u8 a0)).setCell ⟨w.heap.size, 1, none⟩ (.int .i64 a1)).setCell ⟨w.heap.size, 2, none⟩ (.int .u8 a2)).setCell ⟨w.heap.size, 3, none⟩ (.int .i64 a3)).setCell ⟨w.heap.size, 4, none⟩ (.int .i64 a4)).setCell ⟨w.heap.size, 5, none⟩ (.bool a5)).setCell ⟨w.heap.size, 6, none⟩ (.string ⟨a6.toArray⟩) = W at X3 B3 ⊢
      have d0 : W.cell? ⟨w.heap.size, 0, none⟩ = some (.int .u8 a0) := X3.cell 0
      have d1 : W.cell? ⟨w.heap.size, 1, none⟩ = some (.int .i64 a1) := X3.cell 1
      have d2 : W.cell? ⟨w.heap.size, 2, none⟩ = some (.int .u8 a2) := X3.cell 2
      have d3 : W.cell? ⟨w.heap.size, 3, none⟩ = some (.int .i64 a3) := X3.cell 3
      have d4 : W.cell? ⟨w.heap.size, 4, none⟩ = some (.int .i64 a4) := X3.cell 4
      have d5 : W.cell? ⟨w.heap.size, 5, none⟩ = some (.bool a5) := X3.cell 5
      have d6 : W.cell? ⟨w.heap.size, 6, none⟩ = some (.string ⟨a6.toArray⟩) := X3.cell 6
      exact bodyPost_ret (v := .agg #[.int .u8 a0, .int .i64 a1, .int .u8 a2, .int .i64 a3, .int .i64 a4, .bool a5, .string ⟨a6.toArray⟩]) (by simp [results, Tryz.results36, go_sem, d0, d1, d2, d3, d4, d5, d6]) rfl ⟨HV.out.symm, B3⟩
    · obtain ⟨hj0, HE⟩ := nearN_no o j ho hle
      have HN2 := Lib.hid (HE.symm.trans HN.out)
      have HA1 := HA.out j hj
      clear HE HN HA
      generalize fam j = f at HA1 hle
      obtain ⟨a0, a1, a2, a3, a4, a5, a6⟩ := f
      have HA2 := Lib.hid HA1
      clear HA1
      have hF := field_first a0 a1 a2 a3 a4 a5 ⟨a6.toArray⟩
      have hle' : o < a0 := by have : ¬ a0 ≤ o := hle; omega
      clear hle
      go_wp2_with fail
      refine (HA2.out _ (HT.out.below' HB.out)).mono ?_
      rintro e w1 ⟨rfl, hb1⟩
      have HB1 := Lib.hid (HB.out.trans (hb1.mono HB.out.size))
      have HX1 := Lib.hid (HX.out.below hb1)
      clear hb1
      simp only [Fam.val]
      go_wp2_with fail
      go_roundw
      case rel => exact ⟨j - 1, by omega, by go_num, HN2.out, HX1.out, HB1.out⟩
      case measure => simp [intOf]; omega
/-- Which of a family's instructions a number is. -/
def nthN (f : Fam) (o : Int) : Nat := ((o - f.first) % 256 / (f.skip + 1)).toNat
def nthB (f : Fam) (o : Int) : Bool := decide (nthN f o < cnt f.names) && decide (numF f (nthN f o) = o)
theorem nth_any (f : Fam) (o : Int) (w : World) (h0 : 0 ≤ f.skip) (h1 : f.skip ≤ 1) (hl : f.names.length < 1000) : Calls Tryz.prog 37 #[f.val, .int .u8 o] w fun e w' => e = .returned (.tuple #[.int .i64 (nthN f o), .bool (nthB f o)]) ∧ Below w.heap.size w w' := by
  have hn0 : 0 ≤ (o - f.first) % 256 := by omega
  have hn1 : (o - f.first) % 256 < 256 := by omega
  have hq : wrap64 (((o - f.first) % 256).tdiv (f.skip + 1)) = (nthN f o : Nat) := by
    have e : ((o - f.first) % 256).tdiv (f.skip + 1) = (o - f.first) % 256 / (f.skip + 1) := Int.tdiv_eq_ediv_of_nonneg hn0
    have p0 : 0 ≤ (o - f.first) % 256 / (f.skip + 1) := Int.ediv_nonneg hn0 (by omega)
    have p1 : (o - f.first) % 256 / (f.skip + 1) ≤ (o - f.first) % 256 := Int.ediv_le_self _ hn0
    rw [e, wrap64_id _ (by omega) (by omega)]
    unfold nthN
    omega
  have hN : nthN f o < 1000 := by
    have p0 : 0 ≤ (o - f.first) % 256 / (f.skip + 1) := Int.ediv_nonneg hn0 (by omega)
    have p1 : (o - f.first) % 256 / (f.skip + 1) ≤ (o - f.first) % 256 := Int.ediv_le_self _ hn0
    unfold nthN
    omega
  have HC := Lib.hid (fun w => count_any f w hl)
  have HN := Lib.hid (fun w => fnumber_any f (nthN f o) w hN h0 h1)
  have hs : wrap64 (f.skip + 1) = f.skip + 1 := wrap64_id _ (by omega) (by omega)
  have hz : ¬ f.skip + 1 = 0 := by omega
  unfold nthB
  generalize nthN f o = q at HC HN hq hN ⊢
  generalize numF f q = x at HN ⊢
  obtain ⟨a0, a1, a2, a3, a4, a5, a6⟩ := f
  simp only [Fam.val] at HC HN hq hs hz ⊢
  generalize cnt a6 = m at HC ⊢
  clear hn0 hn1 hl h0 h1
  by_cases hlt : q < m
  · have hx : decide (q < m) = true := by simpa using hlt
    have hxi : decide ((q : Int) < m) = true := by rw [decide_eq_true_eq]; omega
    rw [hx, Bool.true_and]
    go_enter Tryz.func37, Tryz.ntmps37
    go_wp2_with fail
    simp only [hq]
    refine (HC.out _).mono ?_
    rintro e w1 ⟨rfl, hb1⟩
    obtain ⟨X1, z1, B1⟩ := Blk.box hb1
    have g0 : w1.cell? ⟨w.heap.size, 0, none⟩ = some (.int .u8 a0) := X1.cell 0
    have g1 : w1.cell? ⟨w.heap.size, 1, none⟩ = some (.int .i64 a1) := X1.cell 1
    have g2 : w1.cell? ⟨w.heap.size, 2, none⟩ = some (.int .u8 a2) := X1.cell 2
    have g3 : w1.cell? ⟨w.heap.size, 3, none⟩ = some (.int .i64 a3) := X1.cell 3
    have g4 : w1.cell? ⟨w.heap.size, 4, none⟩ = some (.int .i64 a4) := X1.cell 4
    have g5 : w1.cell? ⟨w.heap.size, 5, none⟩ = some (.bool a5) := X1.cell 5
    have g6 : w1.cell? ⟨w.heap.size, 6, none⟩ = some (.string ⟨a6.toArray⟩) := X1.cell 6
    have HB1 := Lib.hid B1
    clear X1 hb1 B1
    go_wp2_with fail
    refine (HN.out _).mono ?_
    rintro e w2 ⟨rfl, hb2⟩
    have HB2 := Lib.hid (HB1.out.trans (hb2.mono HB1.out.size))
    clear hb2
    by_cases hxo : x = o
    · have hx2 : (x == o) = true := by simpa using hxo
      have HD := Lib.hid (decide_eq_true hxo)
      clear hxo
      go_wp2_with fail
      go_returns
      exact ⟨by rw [HD.out]; rfl, HB2.out⟩
    · have hx2 : (x == o) = false := by simpa using hxo
      have HD := Lib.hid (decide_eq_false hxo)
      clear hxo
      go_wp2_with fail
      go_returns
      exact ⟨by rw [HD.out]; rfl, HB2.out⟩
  · have hx : decide (q < m) = false := by simpa using hlt
    have hxi : decide ((q : Int) < m) = false := by rw [decide_eq_false_iff_not]; omega
    rw [hx, Bool.false_and]
    go_enter Tryz.func37, Tryz.ntmps37
    go_wp2_with fail
    simp only [hq]
    refine (HC.out _).mono ?_
    rintro e w1 ⟨rfl, hb1⟩
    obtain ⟨X1, z1, B1⟩ := Blk.box hb1
    have HB1 := Lib.hid B1
    clear X1 hb1 B1
    go_wp2_with fail
    go_returns
    exact ⟨rfl, HB1.out⟩
end Go.Proofs.YtolifmpkillglaaGreatDoor
