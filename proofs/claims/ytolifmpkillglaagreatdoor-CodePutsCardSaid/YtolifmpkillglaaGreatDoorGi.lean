import Derived.Test.YtolifmpkillglaaGreatDoorGh
set_option linter.unusedVariables false
set_option maxRecDepth 100000
namespace Go.Proofs.YtolifmpkillglaaGreatDoor
open Go.RowKit
/-! Access of both. -/
def accs : List Int := [36, 37, 38, 55, 56, 57, 127, 131, 132, 133, 135, 136, 137, 139, 140, 142, 146, 147, 148, 149]
def accB (o : Int) : Bool := accs.contains o
def AccSaid (f : Nat) (o : Int) : Prop := ∀ w : World, Calls Tryz.prog f #[.int .u8 o] w fun e w' => e = .returned (.bool (accB o)) ∧ Below w.heap.size w w'
def intR : Rec Int where
  enc x := [.int .i64 x]
  m := 1
  ok _ := True
  d := 0
  len _ := rfl
  one _ u hu := by simp at hu; subst hu; rfl
  pos := by decide
  okd := trivial
theorem rv_ints (w : World) (l : List Int) (n : Nat) (hn : l.length = n) (t : TypeId) : RV intR (w.alloc (.cells (l.map (Value.int .i64)).toArray t)) (w.alloc (.cells (l.map (Value.int .i64)).toArray t)).heap.size (some ⟨w.heap.size, 0, none⟩) n l := by
  refine ⟨hn, fun _ _ => trivial, fun _ => ⟨w.heap.size, 0, rfl, by simp, fun i hi j hj => ?_⟩⟩
  obtain rfl : j = 0 := by have : j < 1 := hj; omega
  have hi2 : i < l.length := by omega
  have e : (0 : Nat) + (i * intR.m + 0) = i := by show 0 + (i * 1 + 0) = i; omega
  rw [e, (Blk.new w _ t).cell i, List.getD_eq_getElem?_getD, List.getElem?_eq_getElem hi2]
  simp [intR, hi2]
theorem RV.int {w : World} {B : Nat} {g off n : Nat} {l : List Int} (h : RV intR w B (some ⟨g, off, none⟩) n l) (k : Nat) (hk : k < n) : w.cell? ⟨g, off + k, none⟩ = some (.int .i64 (l.getD k 0)) := by
  obtain ⟨b, o, e, _, hc⟩ := h.2.2 (by omega)
  cases e
  have := hc k hk 0 (by decide)
  have e2 : off + (k * intR.m + 0) = off + k := by show off + (k * 1 + 0) = off + k; omega
  rw [e2] at this
  exact this
theorem accs_drop (k : Nat) (h : k < 20) : accs.drop k = accs.getD k 0 :: accs.drop (k + 1) := by
  rw [List.drop_eq_getElem_cons (show k < accs.length from h), List.getD_eq_getElem?_getD, List.getElem?_eq_getElem (show k < accs.length from h)]
  rfl
end Go.Proofs.YtolifmpkillglaaGreatDoor
