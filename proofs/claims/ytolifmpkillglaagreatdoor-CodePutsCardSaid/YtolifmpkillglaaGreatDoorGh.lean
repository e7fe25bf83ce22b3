import Derived.Test.YtolifmpkillglaaGreatDoorGg
set_option linter.unusedVariables false
set_option maxRecDepth 100000
namespace Go.Proofs.YtolifmpkillglaaGreatDoor
open Go.RowKit
/-! The document's Named, All, Access; the code's Access. -/
def pairsD : List (List UInt8) → Nat → List Pair
  | [], _ => []
  | x :: r, i => if x = [45] then pairsD r (i + 1) else ((i : Int), x) :: pairsD r (i + 1)
def namedD : List (List UInt8) → Nat → List UInt8 → Int × Int
  | [], _, _ => (0, 6)
  | x :: r, i, s => if x = s ∧ s ≠ [45] then ((i : Int), 0) else namedD r (i + 1) s
theorem namedD_eq (s : List UInt8) : ∀ (l : List (List UInt8)) (i : Nat), namedD l i s = namedL (pairsD l i) s := by
  intro l
  induction l with
  | nil => intro i; rfl
  | cons x r ih =>
    intro i
    unfold namedD pairsD
    by_cases hx : x = [45]
    · rw [if_pos hx, if_neg (by rintro ⟨h1, h2⟩; exact h2 (h1 ▸ hx)), ih]
    · rw [if_neg hx]
      unfold namedL
      by_cases hs : x = s
      · rw [if_pos ⟨hs, fun h => hx (hs.trans h)⟩, if_pos hs]
      · rw [if_neg (fun h => hs h.1), if_neg hs, ih]
theorem rowsC_eq : rowsC = pairsD nms 0 := by decide +kernel
theorem named_eq (s : List UInt8) : namedD nms 0 s = namedL rowsC s := by rw [rowsC_eq, namedD_eq]
theorem nms_drop (k : Nat) (h : k < 150) : nms.drop k = nms.getD k [] :: nms.drop (k + 1) := by
  rw [List.drop_eq_getElem_cons (by rw [nms_len]; exact h), List.getD_eq_getElem?_getD, List.getElem?_eq_getElem (by rw [nms_len]; exact h)]
  rfl
theorem nms_end : nms.drop 150 = [] := List.drop_of_length_le (by rw [nms_len]; exact Nat.le_refl _)
theorem RV.str {w : World} {B : Nat} {g off n : Nat} {l : List (List UInt8)} (h : RV strR w B (some ⟨g, off, none⟩) n l) (k : Nat) (hk : k < n) : w.cell? ⟨g, off + k, none⟩ = some (.string ⟨(l.getD k []).toArray⟩) := by
  obtain ⟨b, o, e, _, hc⟩ := h.2.2 (by omega)
  cases e
  have := hc k hk 0 (by decide)
  have e2 : off + (k * strR.m + 0) = off + k := by show off + (k * 1 + 0) = off + k; omega
  rw [e2] at this
  exact this
/-! All of the document. -/
theorem nums_eq : (pairsD nms 0).map (·.1) = numsC := by rw [numsC, rowsC_eq]
theorem OV_cap {R : Rec Int} {e : TypeId} {w : World} {S : Nat → Prop} {A : Option Addr} {n c : Nat} {l : List Int} (h : OV R e w S A n c l) : n = l.length := h.1.symm
end Go.Proofs.YtolifmpkillglaaGreatDoor
