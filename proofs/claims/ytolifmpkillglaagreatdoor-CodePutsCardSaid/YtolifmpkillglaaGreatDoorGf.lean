import Derived.Test.YtolifmpkillglaaGreatDoorGe
import Derived.Great.BuildSlice
import Derived.Deep.Cut
set_option linter.unusedVariables false
set_option maxRecDepth 100000
namespace Go.Proofs.YtolifmpkillglaaGreatDoor
open Go.RowKit
/-! The document's list of names. -/
def nms : List (List UInt8) := [
  [110, 111, 112], [97, 99, 111, 110, 115, 116, 95, 110, 117, 108, 108], [115, 99, 111, 110, 115, 116, 95, 109, 49], [115, 99, 111, 110, 115, 116, 95, 48], [115, 99, 111, 110, 115, 116, 95, 49], [115, 99, 111, 110, 115, 116, 95, 50], [115, 99, 111, 110, 115, 116, 95, 51], [115, 99, 111, 110, 115, 116, 95, 52], [115, 99, 111, 110, 115, 116, 95, 53], [45],
  [45], [45], [45], [45], [45], [45], [98, 115, 112, 117, 115, 104], [115, 115, 112, 117, 115, 104], [45], [45],
  [45], [97, 108, 111, 97, 100], [115, 108, 111, 97, 100], [45], [97, 108, 111, 97, 100, 95, 48], [97, 108, 111, 97, 100, 95, 49], [97, 108, 111, 97, 100, 95, 50], [97, 108, 111, 97, 100, 95, 51], [115, 108, 111, 97, 100, 95, 48], [115, 108, 111, 97, 100, 95, 49],
  [115, 108, 111, 97, 100, 95, 50], [115, 108, 111, 97, 100, 95, 51], [45], [45], [45], [45], [97, 97, 108, 111, 97, 100], [98, 97, 108, 111, 97, 100], [115, 97, 108, 111, 97, 100], [45],
  [97, 115, 116, 111, 114, 101], [115, 115, 116, 111, 114, 101], [45], [97, 115, 116, 111, 114, 101, 95, 48], [97, 115, 116, 111, 114, 101, 95, 49], [97, 115, 116, 111, 114, 101, 95, 50], [97, 115, 116, 111, 114, 101, 95, 51], [115, 115, 116, 111, 114, 101, 95, 48], [115, 115, 116, 111, 114, 101, 95, 49], [115, 115, 116, 111, 114, 101, 95, 50],
  [115, 115, 116, 111, 114, 101, 95, 51], [45], [45], [45], [45], [97, 97, 115, 116, 111, 114, 101], [98, 97, 115, 116, 111, 114, 101], [115, 97, 115, 116, 111, 114, 101], [45], [112, 111, 112],
  [112, 111, 112, 50], [100, 117, 112], [100, 117, 112, 50], [45], [45], [115, 97, 100, 100], [45], [115, 115, 117, 98], [45], [115, 109, 117, 108],
  [45], [115, 100, 105, 118], [45], [115, 114, 101, 109], [45], [115, 110, 101, 103], [45], [115, 115, 104, 108], [45], [115, 115, 104, 114],
  [45], [115, 117, 115, 104, 114], [45], [115, 97, 110, 100], [45], [115, 111, 114], [45], [115, 120, 111, 114], [45], [115, 105, 110, 99],
  [45], [115, 50, 98], [45], [45], [45], [45], [105, 102, 101, 113], [105, 102, 110, 101], [105, 102, 108, 116], [105, 102, 103, 101],
  [105, 102, 103, 116], [105, 102, 108, 101], [105, 102, 110, 117, 108, 108], [105, 102, 110, 111, 110, 110, 117, 108, 108], [105, 102, 95, 97, 99, 109, 112, 101, 113], [105, 102, 95, 97, 99, 109, 112, 110, 101], [105, 102, 95, 115, 99, 109, 112, 101, 113], [105, 102, 95, 115, 99, 109, 112, 110, 101], [105, 102, 95, 115, 99, 109, 112, 108, 116], [105, 102, 95, 115, 99, 109, 112, 103, 101],
  [105, 102, 95, 115, 99, 109, 112, 103, 116], [105, 102, 95, 115, 99, 109, 112, 108, 101], [103, 111, 116, 111], [106, 115, 114], [114, 101, 116], [115, 116, 97, 98, 108, 101, 115, 119, 105, 116, 99, 104], [45], [115, 108, 111, 111, 107, 117, 112, 115, 119, 105, 116, 99, 104], [45], [97, 114, 101, 116, 117, 114, 110],
  [115, 114, 101, 116, 117, 114, 110], [45], [114, 101, 116, 117, 114, 110], [103, 101, 116, 115, 116, 97, 116, 105, 99, 95, 97], [103, 101, 116, 115, 116, 97, 116, 105, 99, 95, 98], [103, 101, 116, 115, 116, 97, 116, 105, 99, 95, 115], [45], [112, 117, 116, 115, 116, 97, 116, 105, 99, 95, 97], [112, 117, 116, 115, 116, 97, 116, 105, 99, 95, 98], [112, 117, 116, 115, 116, 97, 116, 105, 99, 95, 115],
  [45], [103, 101, 116, 102, 105, 101, 108, 100, 95, 97], [103, 101, 116, 102, 105, 101, 108, 100, 95, 98], [103, 101, 116, 102, 105, 101, 108, 100, 95, 115], [45], [112, 117, 116, 102, 105, 101, 108, 100, 95, 97], [112, 117, 116, 102, 105, 101, 108, 100, 95, 98], [112, 117, 116, 102, 105, 101, 108, 100, 95, 115], [45], [105, 110, 118, 111, 107, 101, 118, 105, 114, 116, 117, 97, 108],
  [105, 110, 118, 111, 107, 101, 115, 112, 101, 99, 105, 97, 108], [105, 110, 118, 111, 107, 101, 115, 116, 97, 116, 105, 99], [105, 110, 118, 111, 107, 101, 105, 110, 116, 101, 114, 102, 97, 99, 101], [110, 101, 119], [110, 101, 119, 97, 114, 114, 97, 121], [97, 110, 101, 119, 97, 114, 114, 97, 121], [97, 114, 114, 97, 121, 108, 101, 110, 103, 116, 104], [97, 116, 104, 114, 111, 119], [99, 104, 101, 99, 107, 99, 97, 115, 116], [105, 110, 115, 116, 97, 110, 99, 101, 111, 102]]
theorem nms_len : nms.length = 150 := by decide +kernel
def strR : Rec (List UInt8) where
  enc s := [.string ⟨s.toArray⟩]
  m := 1
  ok _ := True
  d := []
  len _ := rfl
  one _ u hu := by simp at hu; subst hu; rfl
  pos := by decide
  okd := trivial
def NamesSaid (f : Nat) : Prop := ∀ w : World, Calls Tryz.prog f #[] w fun e w' => e = .returned (.slice (some ⟨w.heap.size, 0, none⟩) 150 150) ∧ RV strR w' w'.heap.size (some ⟨w.heap.size, 0, none⟩) 150 nms ∧ Below w.heap.size w w'
set_option maxRecDepth 10000 in
theorem rv_strs (w : World) (l : List (List UInt8)) (n : Nat) (hn : l.length = n) (t : TypeId) : RV strR (w.alloc (.cells (l.map fun s => Value.string ⟨s.toArray⟩).toArray t)) (w.alloc (.cells (l.map fun s => Value.string ⟨s.toArray⟩).toArray t)).heap.size (some ⟨w.heap.size, 0, none⟩) n l := by
  refine ⟨hn, fun _ _ => trivial, fun _ => ⟨w.heap.size, 0, rfl, by simp, fun i hi j hj => ?_⟩⟩
  obtain rfl : j = 0 := by have : j < 1 := hj; omega
  have hi2 : i < l.length := by omega
  have e : (0 : Nat) + (i * strR.m + 0) = i := by show 0 + (i * 1 + 0) = i; omega
  rw [e, (Blk.new w _ t).cell i, List.getD_eq_getElem?_getD, List.getElem?_eq_getElem hi2]
  simp [strR, hi2]
/-- A slice literal of values of one cell each, every place written. -/
theorem wpList_buildVals {P : Program} {ops : Array Oper} {rest : List Oper} {o : Oper} {a : Act} {w : World} {Q : Exit → Act → World → Prop} (hg : o.guard = none) (t e : TypeId) (len : Nat) (parts : Array (Nat × Operand)) (ho : o.op = .buildSlice t len parts)
    (vs : List Value) (hu : P.underlying t = some (.slice e)) (hsz : (P.info? e).map (·.size) = some 1) (hz : ((P.info? e).bind (·.zero)).isSome = true)
    (hlen : len = vs.length) (hpos : 0 < len) (hsmall : len ≤ 2 ^ 24) (hone : ∀ v ∈ vs, v.cells = #[v])
    (hparts : parts.toList = (vs.zipIdx 0).map fun x => (x.2, Operand.const x.1))
    (h : wpList P ops Q rest (a.put o.dst (.slice (some ⟨w.heap.size, 0, none⟩) len len)) (w.alloc (.cells vs.toArray e))) : wpList P ops Q (o :: rest) a w := by
  cases hie : P.info? e with
  | none => simp [hie] at hsz
  | some ie =>
    simp only [hie, Option.map_some, Option.some.injEq, Option.bind_some] at hsz hz
    obtain ⟨z, hzz⟩ := Option.isSome_iff_exists.1 hz
    refine wpList_buildSlice hg t e len parts ho _ ie z hu hie hzz (by rw [hsz]; omega) (by rw [hsz]; omega) ?_ h
    have hp : (parts.map fun (i, x) => (i, a.eval x)).toList = (vs.zipIdx 0).map fun x => (x.2, x.1) := by
      rw [Array.toList_map, hparts, List.map_map]
      rfl
    rw [hp, hsz]
    exact Great.fill_flat _ _ hone (by simp [hlen])
def strVs (l : List (List UInt8)) : List Value := l.map fun s => Value.string ⟨s.toArray⟩
theorem strVs_one (l : List (List UInt8)) : ∀ v ∈ strVs l, v.cells = #[v] := by
  intro v hv
  obtain ⟨s, _, rfl⟩ := List.mem_map.1 hv
  rfl
set_option maxRecDepth 100000 in
theorem names_any : NamesSaid 45 := by
  intro w
  have HR := Lib.hid (rv_strs w nms 150 nms_len 9)
  have HB := Lib.hid (below_new w (.cells (strVs nms).toArray 9))
  go_enter Tryz.func45, Tryz.ntmps45
  go_upto_region 1 with (fail)
  apply wp_region_lit
  refine wpList_buildVals rfl 87 9 150 _ rfl (strVs nms) Tryz.underlying87 (by kernel_rfl) (by kernel_rfl) (by kernel_rfl) (by decide) (by decide) (strVs_one nms) (by kernel_rfl) ?_
  have hV : (List.map (fun s => Value.string { data := s.toArray }) nms).toArray = (strVs nms).toArray := rfl
  rw [hV] at HR
  generalize (strVs nms).toArray = V at HR HB ⊢
  clear hV
  go_wp2
  go_returns
  exact ⟨rfl, HR.out, HB.out⟩
end Go.Proofs.YtolifmpkillglaaGreatDoor
