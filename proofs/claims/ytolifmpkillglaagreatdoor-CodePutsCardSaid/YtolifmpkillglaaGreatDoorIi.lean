import Derived.Test.YtolifmpkillglaaGreatDoorIh
set_option linter.unusedVariables false
set_option maxRecDepth 100000
namespace Go.Proofs.YtolifmpkillglaaGreatDoor
open Go.RowKit
/-! May all places be led to? -/
theorem bool_info : (Tryz.prog.info? 4).map (fun i => (i.zero, i.size, i.bytes)) = some (some (.bool false), 1, 1) := by kernel_rfl
def boA (L : List Bool) : Array Value := (L.map Value.bool).toArray
theorem mk_b (k : Nat) (hk : k ≤ 140737488355328) (w : World) : (Instr.makeSlice 105 (.int .i64 k) (.int .i64 k)).run Tryz.prog w = .ok (.slice (some ⟨w.heap.size, 0, none⟩) k k) (w.alloc (.cells (boA (List.replicate k false)) 4)) := by
  obtain ⟨i0, hi, hz0, hz1, hz2⟩ := info_parts bool_info
  rw [run_make w _ _ i0 _ Tryz.underlying105 hi hz0 .i64 .i64 k k (by omega) (by omega) (by rw [hz2]; omega) (by omega)]
  have e : madeCells (Value.cells (.bool false)) ((k : Int).toNat * i0.size) = boA (List.replicate k false) := by
    rw [hz1, Int.toNat_natCast, Nat.mul_one]
    apply Array.ext
    · simp [madeCells, boA]
    · intro i h1 h2
      simp [madeCells, boA, Value.cells, Nat.mod_one]
  rw [e]
  simp
theorem boA_cell {w : World} {G : Nat} {t : TypeId} {L : List Bool} (h : Blk w G (boA L) t) (p : Nat) (hp : p < L.length) : w.cell? ⟨G, p, none⟩ = some (.bool (L.getD p false)) := by
  rw [Blk.cell h p]
  simp [boA, List.getD_eq_getElem?_getD, List.getElem?_eq_getElem hp]
theorem boA_set (L : List Bool) (p : Nat) (b : Bool) : (boA L).set! p (.bool b) = boA (L.set p b) := by
  unfold boA
  simp [List.map_set]
/-- Which places an instruction begins at. -/
def begL (l : List Ins) (size k : Nat) : List Bool := (List.range size).map fun (p : Nat) => (l.take k).any fun x => x.sc.at_ == (p : Int)
theorem begL_len (l : List Ins) (size k : Nat) : (begL l size k).length = size := by simp [begL]
theorem begL_0 (l : List Ins) (size : Nat) : begL l size 0 = List.replicate size false := by
  unfold begL
  apply List.ext_getElem?
  intro i
  simp only [List.take_zero, List.any_nil, List.getElem?_map, List.getElem?_replicate]
  by_cases h : i < size
  · rw [List.getElem?_range h, if_pos h]; rfl
  · rw [List.getElem?_eq_none (by simp; omega), if_neg h]; rfl
theorem take_any_succ (l : List Ins) (k : Nat) (hk : k < l.length) (f : Ins → Bool) : (l.take (k + 1)).any f = ((l.take k).any f || f (l.getD k Ins.zero)) := by
  rw [List.take_add_one, List.any_append, List.getD_eq_getElem?_getD, List.getElem?_eq_getElem hk]
  simp
theorem begL_succ (l : List Ins) (size k a : Nat) (hk : k < l.length) (ha : (l.getD k Ins.zero).sc.at_ = a) (h : a < size) : begL l size (k + 1) = (begL l size k).set a true := by
  unfold begL
  apply List.ext_getElem?
  intro i
  rw [List.getElem?_set]
  simp only [List.getElem?_map, List.length_map, List.length_range]
  by_cases hi : i < size
  · rw [List.getElem?_range hi]
    simp only [Option.map_some]
    rw [take_any_succ l k hk, ha]
    by_cases e : a = i
    · subst e
      rw [if_pos rfl, if_pos h]
      simp
    · rw [if_neg e]
      have : ((a : Int) == (i : Int)) = false := by simp; omega
      rw [this, Bool.or_false]
  · rw [List.getElem?_eq_none (by simp; omega)]
    have : ¬ a = i := by omega
    rw [if_neg this]
    rfl
theorem begL_get (l : List Ins) (size p : Nat) (hp : p < size) : (begL l size l.length).getD p false = l.any fun x => x.sc.at_ == (p : Int) := by
  unfold begL
  rw [List.take_length, List.getD_eq_getElem?_getD, List.getElem?_map, List.getElem?_range hp]
  rfl
def goodP (l : List Ins) (size : Nat) (p : Int) : Bool := decide (0 ≤ p) && decide (p < size) && l.any fun y => y.sc.at_ == p
def waysL (l : List Ins) (size : Nat) : Bool := l.all fun x => (leadL x).all (goodP l size)
theorem take_all_succ {α : Type} (l : List α) (d : α) (k : Nat) (hk : k < l.length) (f : α → Bool) : (l.take (k + 1)).all f = ((l.take k).all f && f (l.getD k d)) := by
  rw [List.take_add_one, List.all_append, List.getD_eq_getElem?_getD, List.getElem?_eq_getElem hk]
  simp
theorem all_no {α : Type} (l : List α) (d : α) (k : Nat) (hk : k < l.length) (f : α → Bool) (h : f (l.getD k d) = false) : l.all f = false := by
  rw [List.all_eq_false]
  refine ⟨l[k], List.getElem_mem hk, ?_⟩
  rw [List.getD_eq_getElem?_getD, List.getElem?_eq_getElem hk] at h
  simpa using h
end Go.Proofs.YtolifmpkillglaaGreatDoor
