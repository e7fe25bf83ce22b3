import Derived.Test.YtolifmpkillglaaGreatDoorGc
set_option linter.unusedVariables false
set_option maxRecDepth 100000
namespace Go.Proofs.YtolifmpkillglaaGreatDoor
open Go.RowKit
/-! All rows of the tables: number and name. -/
theorem Blk.cells7 {w : World} {g : Nat} {t : TypeId} {v0 v1 v2 v3 v4 v5 v6 : Value} (h : Blk w g #[v0, v1, v2, v3, v4, v5, v6] t) :
    w.cell? ⟨g, 0, none⟩ = some v0 ∧ w.cell? ⟨g, 1, none⟩ = some v1 ∧ w.cell? ⟨g, 2, none⟩ = some v2 ∧ w.cell? ⟨g, 3, none⟩ = some v3 ∧ w.cell? ⟨g, 4, none⟩ = some v4 ∧ w.cell? ⟨g, 5, none⟩ = some v5 ∧ w.cell? ⟨g, 6, none⟩ = some v6 :=
  ⟨h.cell 0, h.cell 1, h.cell 2, h.cell 3, h.cell 4, h.cell 5, h.cell 6⟩
abbrev Pair := Int × List UInt8
def famFrom (f : Fam) (n : Nat) : List Pair := ((List.range (cnt f.names)).drop n).map fun n => (numF f n, nameL f.names n)
def rowsFrom (i : Nat) : List Pair := ((List.range 40).drop i).flatMap fun i => famFrom (fam i) 0
def rowsC : List Pair := rowsFrom 0
theorem range_drop (n k : Nat) (h : k < n) : (List.range n).drop k = k :: (List.range n).drop (k + 1) := by
  rw [List.drop_eq_getElem_cons (by rwa [List.length_range]), List.getElem_range]
theorem famFrom_step (f : Fam) (n : Nat) (h : n < cnt f.names) : famFrom f n = (numF f n, nameL f.names n) :: famFrom f (n + 1) := by
  unfold famFrom
  rw [range_drop _ _ h, List.map_cons]
theorem famFrom_end (f : Fam) : famFrom f (cnt f.names) = [] := by
  unfold famFrom
  rw [List.drop_of_length_le (by rw [List.length_range]; exact Nat.le_refl _), List.map_nil]
theorem rowsFrom_step (i : Nat) (h : i < 40) : rowsFrom i = famFrom (fam i) 0 ++ rowsFrom (i + 1) := by
  unfold rowsFrom
  rw [range_drop _ _ h, List.flatMap_cons]
theorem rowsFrom_end : rowsFrom 40 = [] := by
  unfold rowsFrom
  rw [List.drop_of_length_le (by rw [List.length_range]; exact Nat.le_refl _), List.flatMap_nil]
theorem fam_ok : ∀ i, i < 40 → (fam i).names.length < 1000 ∧ cnt (fam i).names < 1000 ∧ 0 ≤ (fam i).skip ∧ (fam i).skip ≤ 1 := by
  decide +kernel
theorem fam_rg : ∀ i, i < 40 → 0 ≤ (fam i).first ∧ (fam i).first < 256 := by
  decide +kernel
/-- What a name is in a list of rows: the number, 0; or 0, 6. -/
def namedL : List Pair → List UInt8 → Int × Int
  | [], _ => (0, 6)
  | p :: r, s => if p.2 = s then (p.1, 0) else namedL r s
def NamedSaid (f : Nat) (s : List UInt8) (a : Int × Int) : Prop := ∀ w : World, Tab w → Calls Tryz.prog f #[.string ⟨s.toArray⟩] w fun e w' => e = .returned (.tuple #[.int .u8 a.1, .int .i64 a.2]) ∧ Below w.heap.size w w'
/-! The numbers, in a row of the call's own. -/
def opR : Rec Int where
  enc x := [.int .u8 x]
  m := 1
  ok x := 0 ≤ x ∧ x < 256
  d := 0
  len _ := rfl
  one _ u hu := by simp at hu; subst hu; rfl
  pos := by decide
  okd := ⟨by decide, by decide⟩
theorem op_info : (Tryz.prog.info? 23).map (fun i => (i.zero, i.size, i.bytes)) = some (some (.int .u8 0), 1, 1) := by kernel_rfl
def OO (w : World) (S : Nat → Prop) (A : Option Addr) (n c : Nat) (l : List Int) : Prop := OV opR 23 w S A n c l
theorem rv_lit (w : World) (x : Int) (h0 : 0 ≤ x) (h1 : x < 256) : RV opR (w.alloc (.cells #[.int .u8 x] 23)) (w.heap.size + 1) (some ⟨w.heap.size, 0, none⟩) 1 [x] := by
  refine ⟨rfl, allok_one ⟨h0, h1⟩, fun _ => ⟨w.heap.size, 0, rfl, by omega, fun i hi j hj => ?_⟩⟩
  obtain rfl : i = 0 := by omega
  obtain rfl : j = 0 := by have : j < 1 := hj; omega
  exact (Blk.new w #[.int .u8 x] _).cell 0
theorem numF_rg (f : Fam) (n : Nat) : 0 ≤ numF f n ∧ numF f n < 256 := by unfold numF; omega
def numsC : List Int := rowsC.map (·.1)
theorem numsC_len : numsC.length = 102 := by decide +kernel
def AllSaid (f : Nat) (l : List Int) : Prop := ∀ w : World, Tab w → Calls Tryz.prog f #[] w fun e w' => ∃ A c, e = .returned (.slice A l.length c) ∧ OO w' (Lt w.heap.size) A l.length c l ∧ Below w.heap.size w w'
end Go.Proofs.YtolifmpkillglaaGreatDoor
