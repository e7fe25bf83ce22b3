import Derived.Test.YtolifmpkillglaaGreatDoorGa
set_option linter.unusedVariables false
set_option maxRecDepth 100000
namespace Go.Proofs.YtolifmpkillglaaGreatDoor
open Go.RowKit
/-! The parts of a family: how many, the number, what jumps; the family at a place. -/
theorem families_any (w : World) : Calls Tryz.prog 51 #[] w fun e w' => e = .returned (.int .i64 40) ∧ w' = w := by
  go_enter Tryz.func51, Tryz.ntmps51
  go_wp2
  go_ret
  exact ⟨rfl, rfl⟩
theorem count_one (s : ByteArray) (w : World) : Calls Tryz.prog 63 #[.string s, .string ⟨#[32]⟩] w fun e w' => e = .returned (.int .i64 (Lib.countByte s.data.toList 32)) ∧ w' = w := by
  go_enter Tryz.func63, Tryz.ntmps63
  go_wp2
  rw [run_callFunc_extern Tryz.func78 (by kernel_rfl) (by kernel_rfl) (by kernel_rfl) (e := Extern.BytealgCount.count) (by kernel_rfl), Lib.run_countString]
  simp only [Result.andThen]
  rw [Oper.upon_value]
  go_wp2
  go_ret
  exact ⟨rfl, rfl⟩
def cnt (l : List UInt8) : Nat := Lib.countByte l 32 + 1
theorem wrap64_id (x : Int) (h0 : -9223372036854775808 ≤ x) (h1 : x < 9223372036854775808) : wrap64 x = x := by
  unfold wrap64; omega
theorem count_le (l : List UInt8) : Lib.countByte l 32 ≤ l.length := List.count_le_length
theorem below_new (w : World) (o : Obj) : Below w.heap.size w (w.alloc o) := (Below.refl _ _).alloc (Nat.le_refl _) o
theorem count_any (f : Fam) (w : World) (hl : f.names.length < 1000) : Calls Tryz.prog 53 #[f.val] w fun e w' => e = .returned (.int .i64 (cnt f.names)) ∧ Below w.heap.size w w' := by
  have HC := Lib.hid (fun w => count_one ⟨f.names.toArray⟩ w)
  have hc := count_le f.names
  obtain ⟨a0, a1, a2, a3, a4, a5, a6⟩ := f
  show Calls Tryz.prog 53 #[.agg #[.int .u8 a0, .int .i64 a1, .int .u8 a2, .int .i64 a3, .int .i64 a4, .bool a5, .string ⟨a6.toArray⟩]] w fun e w' => e = .returned (.int .i64 (cnt a6)) ∧ Below w.heap.size w w'
  go_enter Tryz.func53, Tryz.ntmps53
  go_wp2_with fail
  refine (HC.out _).mono ?_
  rintro e w1 ⟨rfl, rfl⟩
  go_wp2_with fail
  go_returns
  refine ⟨congrArg (fun z : Int => Ending.returned (.int .i64 z)) (?_ : ((Lib.countByte a6 32 : Nat) : Int) + 1 = (cnt a6 : Nat)), below_new _ _⟩
  unfold cnt
  omega
/-- The number of a family's nth instruction. -/
def numF (f : Fam) (n : Nat) : Int := (f.first + n * (f.skip + 1)) % 256
theorem fnumber_any (f : Fam) (n : Nat) (w : World) (hn : n < 1000) (h0 : 0 ≤ f.skip) (h1 : f.skip ≤ 1) : Calls Tryz.prog 54 #[f.val, .int .i64 n] w fun e w' => e = .returned (.int .u8 (numF f n)) ∧ Below w.heap.size w w' := by
  have hw : (f.first + wrap64 (n * wrap64 (f.skip + 1)) % 256) % 256 = numF f n := by
    rw [wrap64_id (f.skip + 1) (by omega) (by omega)]
    have h2 : 0 ≤ (n : Int) * (f.skip + 1) := Int.mul_nonneg (by omega) (by omega)
    have h3 : (n : Int) * (f.skip + 1) ≤ n * 2 := Int.mul_le_mul_of_nonneg_left (by omega) (by omega)
    rw [wrap64_id _ (by omega) (by omega)]
    unfold numF
    omega
  obtain ⟨a0, a1, a2, a3, a4, a5, a6⟩ := f
  show Calls Tryz.prog 54 #[.agg #[.int .u8 a0, .int .i64 a1, .int .u8 a2, .int .i64 a3, .int .i64 a4, .bool a5, .string ⟨a6.toArray⟩], .int .i64 n] w fun e w' => e = .returned (.int .u8 (numF ⟨a0, a1, a2, a3, a4, a5, a6⟩ n)) ∧ Below w.heap.size w w'
  go_enter Tryz.func54, Tryz.ntmps54
  go_wp2_with fail
  go_returns
  exact ⟨rfl, below_new _ _⟩
theorem at_any (i : Nat) (hi : i < 40) (w : World) (T : Tab w) : Calls Tryz.prog 52 #[.int .i64 i] w fun e w' => e = .returned (fam i).val ∧ Below w.heap.size w w' := by
  have hsz := T.2.2
  have h0 : 1 < w.heap.size := by omega
  have h1 : 2 < w.heap.size := by omega
  by_cases h : i < 19
  · have hd : decide ((i : Int) < 19) = true := by rw [decide_eq_true_eq]; omega
    have g0 := T.low h 0 (by decide)
    have g1 := T.low h 1 (by decide)
    have g2 := T.low h 2 (by decide)
    have g3 := T.low h 3 (by decide)
    have g4 := T.low h 4 (by decide)
    have g5 := T.low h 5 (by decide)
    have g6 := T.low h 6 (by decide)
    generalize fam i = f at g0 g1 g2 g3 g4 g5 g6 ⊢
    obtain ⟨a0, a1, a2, a3, a4, a5, a6⟩ := f
    simp only [Fam.vals, List.getElem?_cons_zero, List.getElem?_cons_succ, Nat.add_zero] at g0 g1 g2 g3 g4 g5 g6
    clear T
    go_enter Tryz.func52, Tryz.ntmps52
    go_wp2_with fail
    exact bodyPost_ret (v := .agg #[.int .u8 a0, .int .i64 a1, .int .u8 a2, .int .i64 a3, .int .i64 a4, .bool a5, .string ⟨a6.toArray⟩]) (by simp [results, Tryz.results52, go_sem]) rfl ⟨rfl, below_new _ _⟩
  · obtain ⟨j, rfl⟩ : ∃ j, i = j + 19 := ⟨i - 19, by omega⟩
    have hd : decide (((j + 19 : Nat) : Int) < 19) = false := by rw [decide_eq_false_iff_not]; omega
    have hj : j < 21 := by omega
    have g0 := T.up hj 0 (by decide)
    have g1 := T.up hj 1 (by decide)
    have g2 := T.up hj 2 (by decide)
    have g3 := T.up hj 3 (by decide)
    have g4 := T.up hj 4 (by decide)
    have g5 := T.up hj 5 (by decide)
    have g6 := T.up hj 6 (by decide)
    generalize fam (j + 19) = f at g0 g1 g2 g3 g4 g5 g6 ⊢
    obtain ⟨a0, a1, a2, a3, a4, a5, a6⟩ := f
    simp only [Fam.vals, List.getElem?_cons_zero, List.getElem?_cons_succ, Nat.add_zero] at g0 g1 g2 g3 g4 g5 g6
    clear T
    go_enter Tryz.func52, Tryz.ntmps52
    go_wp2_with fail
    exact bodyPost_ret (v := .agg #[.int .u8 a0, .int .i64 a1, .int .u8 a2, .int .i64 a3, .int .i64 a4, .bool a5, .string ⟨a6.toArray⟩]) (by simp [results, Tryz.results52, go_sem]) rfl ⟨rfl, below_new _ _⟩
def jmpI (k : Int) : Bool := k == 5 || k == 6 || k == 7
theorem jumps_any (k : Int) (w : World) : Calls Tryz.prog 39 #[.int .u8 k] w fun e w' => e = .returned (.bool (jmpI k)) ∧ w' = w := by
  unfold jmpI
  cases h5 : (k == 5) <;> cases h6 : (k == 6) <;> cases h7 : (k == 7)
  all_goals
    go_enter Tryz.func39, Tryz.ntmps39
    go_wp2_with fail
    go_returns
    exact ⟨rfl, rfl⟩
/-! Cut at a blank. -/
def cutF (l : List UInt8) : List UInt8 := if Lib.indexByte l 32 = -1 then l else l.take (Lib.indexByte l 32).toNat
def cutR (l : List UInt8) : List UInt8 := if Lib.indexByte l 32 = -1 then [] else l.drop ((Lib.indexByte l 32).toNat + 1)
def cutB (l : List UInt8) : Bool := if Lib.indexByte l 32 = -1 then false else true
theorem indexByte_one (s : ByteArray) (w : World) : Calls Tryz.prog 82 #[.string s, .int .u8 32] w fun e w' => e = .returned (.int .i64 (Lib.indexByte s.data.toList 32)) ∧ w' = w := by
  go_enter Tryz.func82, Tryz.ntmps82
  go_wp2
  rw [run_callFunc_extern Tryz.func87 (by kernel_rfl) (by kernel_rfl) (by kernel_rfl) (e := Extern.BytealgIndexByte.indexByte) (by kernel_rfl), Lib.run_indexByteString]
  simp only [Result.andThen]
  rw [Oper.upon_value]
  go_wp2
  go_ret
  exact ⟨rfl, rfl⟩
set_option maxHeartbeats 2000000 in
set_option maxRecDepth 100000 in
theorem index_one (s : ByteArray) (w : World) : Calls Tryz.prog 80 #[.string s, .string ⟨#[32]⟩] w fun e w' => e = .returned (.int .i64 (Lib.indexByte s.data.toList 32)) ∧ w' = w := by
  go_enter Tryz.func80, Tryz.ntmps80
  go_wp2_with (go_at_call 82; refine (indexByte_one _ _).mono ?_; rintro e w' ⟨rfl, rfl⟩)
  · have h : ([32] == s.toList) = true := by assumption
    go_ret
    refine ⟨?_, rfl⟩
    have e : s.data.toList = [32] := by rw [← Lib.toList_data]; exact (beq_iff_eq.1 h).symm
    rw [e]
    simp [Lib.indexByte]
  · go_ret
    exact ⟨rfl, rfl⟩
theorem indexByte_cases (l : List UInt8) (c : UInt8) : Lib.indexByte l c = -1 ∨ ∃ i : Nat, Lib.indexByte l c = i ∧ i + 1 ≤ l.length := by
  induction l with
  | nil => exact .inl rfl
  | cons b l ih =>
    unfold Lib.indexByte
    split
    · exact .inr ⟨0, rfl, by simp⟩
    · rcases ih with h | ⟨i, h, hi⟩
      · rw [h]; exact .inl rfl
      · rw [h]
        refine .inr ⟨i + 1, ?_, by simp; omega⟩
        rw [if_neg (by simp)]
        simp
theorem extract_l (l : List UInt8) (a b : Nat) : (⟨l.toArray⟩ : ByteArray).extract a b = ⟨((l.drop a).take (b - a)).toArray⟩ := by
  rw [Lib.extract_eq]
theorem slCut_any (l : List UInt8) (hl : l.length < 1000) (w : World) : Calls Tryz.prog 64 #[.string ⟨l.toArray⟩, .string ⟨#[32]⟩] w fun e w' => e = .returned (.tuple #[.string ⟨(cutF l).toArray⟩, .string ⟨(cutR l).toArray⟩, .bool (cutB l)]) ∧ ∃ n, w' = w.drewN n := by
  have HI := Lib.hid (fun w => index_one ⟨l.toArray⟩ w)
  unfold cutF cutR cutB
  rcases indexByte_cases l 32 with h | ⟨i, h, hi⟩
  · rw [if_pos h, if_pos h, if_pos h]
    have h' : Lib.indexByte (⟨l.toArray⟩ : ByteArray).data.toList 32 = -1 := h
    rw [h'] at HI
    clear h h'
    go_enter Tryz.func64, Tryz.ntmps64
    go_wp2_with fail
    refine (HI.out _).mono ?_
    rintro e w1 ⟨rfl, rfl⟩
    go_wp2_with fail
    go_returns
    exact ⟨rfl, 0, rfl⟩
  · rw [if_neg (by omega), if_neg (by omega), if_neg (by omega), h, Int.toNat_natCast]
    have h' : Lib.indexByte (⟨l.toArray⟩ : ByteArray).data.toList 32 = i := h
    rw [h'] at HI
    have e1 := extract_l l 0 i
    have e2 := extract_l l (i + 1) l.length
    rw [List.take_of_length_le (by rw [List.length_drop]; omega)] at e2
    rw [List.drop_zero, Nat.sub_zero] at e1
    have c2 : (↑i : Int) ≤ ↑(⟨l.toArray⟩ : ByteArray).size := by rw [Lib.size_eq]; simp; omega
    have c3 : (0 : Int) ≤ ↑i + 1 := by omega
    have c4 : (↑i + 1 : Int) ≤ ↑(⟨l.toArray⟩ : ByteArray).size := by rw [Lib.size_eq]; simp; omega
    clear h h'
    go_enter Tryz.func64, Tryz.ntmps64
    go_wp2_with fail
    refine (HI.out _).mono ?_
    rintro e w1 ⟨rfl, rfl⟩
    go_wp2_with fail
    go_quiet (fail)
    go_wp2_with fail
    go_returns
    exact ⟨rfl, _, rfl⟩
end Go.Proofs.YtolifmpkillglaaGreatDoor
