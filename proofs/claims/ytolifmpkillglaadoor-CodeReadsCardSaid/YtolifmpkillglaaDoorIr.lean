import Derived.Test.YtolifmpkillglaaDoorIn
import Derived.Stop.LaidErr
import Derived.Carry
import Derived.SizedLaws
import Derived.ChangeMaps5
import Derived.Test.YtolifmpkillglaaDoorTie
set_option linter.unusedVariables false
set_option maxRecDepth 100000
namespace Go.Proofs.YtolifmpkillglaaDoor
open Go.ChangeShapes Go.WideShapes Go.ChangeAt Go.RowKit Go.Joins Go.Deep
/-! What the laws share: the laid tables and errForm; the door's own heap meets the condition. -/
theorem ownDoor : ownKnob Tryd.prog.godebug = none := by kernel_rfl
abbrev laidAll : List (String × DataW Unit) := [("garderobe/ops.lower", Rows.laid_garderobe_ops_lower), ("garderobe/ops.upper", Rows.laid_garderobe_ops_upper), ("garderobe/code.errForm", Rows.laid_garderobe_code_errForm)]
theorem door_met (os : Os) (args : Array Value) : laidMetH Tryd.prog laidAll ((World.doorLaid Tryd.prog 78 os).forCall (fun _ _ => 0) ⟨#[], args, []⟩).memory :=
  laidMetH_of_parts3 (fuel := 8) (laidMet_of_run' 8 (by kernel_rfl) (by kernel_rfl)) (by kernel_rfl) (by kernel_rfl)
theorem star_es : "*errors.errorString" = "*" ++ "errors.errorString" := by decide
theorem row_ptr (u : TypeId) (h : Tryd.prog.typeName? 3 u = some "*errors.errorString") : u = 144 :=
  typeName_ptr_named (nm := "errors.errorString") (by rw [← star_es]; kernel_rfl) (by kernel_rfl) (by decide) u (by rw [← star_es]; exact h)
theorem te_of_laid {W : World} (h : laidMetH Tryd.prog laidAll W) : TE W := by
  rw [MakeChecks.laidMetH_plain _ _ _ (by kernel_rfl)] at h
  obtain ⟨ps, ⟨g0, t0, cs0, f0, p0, q0, hg0, ht0, hv0, hd0, ⟨g1, t1, cs1, f1, p1, q1, hg1, ht1, hv1, hd1, ⟨g2, t2, cs2, f2, p2, q2, hg2, ht2, hv2, hd2, _, e2⟩, e1⟩, e0⟩, hnd, hrows⟩ := h
  obtain rfl := Option.some.inj ((show Tryd.prog.globalNamed "garderobe/ops.lower" = some 1 by kernel_rfl).symm.trans hg0)
  obtain rfl := Option.some.inj ((show Tryd.prog.globalNamed "garderobe/ops.upper" = some 2 by kernel_rfl).symm.trans hg1)
  obtain rfl := Option.some.inj ((show Tryd.prog.globalNamed "garderobe/code.errForm" = some 0 by kernel_rfl).symm.trans hg2)
  obtain rfl := Option.some.inj ((show (Tryd.prog.globals[1]?).map (·.type) = some 133 by kernel_rfl).symm.trans ht0)
  obtain rfl := Option.some.inj ((show (Tryd.prog.globals[2]?).map (·.type) = some 134 by kernel_rfl).symm.trans ht1)
  obtain rfl := Option.some.inj ((show (Tryd.prog.globals[0]?).map (·.type) = some 47 by kernel_rfl).symm.trans ht2)
  subst e2
  subst e1
  subst e0
  have ok2 : ∀ u v, cs2.toList = [.iface u v] → Value.okWide Tryd.prog W .any 0 u v := fun u v e => by
    have hc := World.var?_cell hg2 hv2 0
    obtain ⟨l2⟩ := cs2
    simp only at e
    subst e
    exact (hrows 0 0 (by simp [MemPlace.row])).2 u v (by simpa using hc)
  obtain ⟨a2, s2, he2, hc2, _, _, _⟩ := errorString_of_trod (tp := 144) (te := 168) (ts := 9) Tryd.underlying47 row_ptr Tryd.underlying144 Tryd.underlying168 rfl rfl Tryd.underlying9 (by kernel_rfl) (by kernel_rfl) hd2 ok2
  rw [lowD] at hd0
  rw [upD] at hd1
  have c0 := open_fams Tryd.underlying133 lowL hd0
  have c1 := open_fams Tryd.underlying134 upL hd1
  have w0 := World.var?_cell hg0 hv0
  have w1 := World.var?_cell hg1 hv1
  have w2 := World.var?_cell hg2 hv2
  have a0 : ∀ i, i < 19 → ∀ j, j < 7 → W.cell? ⟨1, i * 7 + j, none⟩ = ((lowF.getD i Fam.zero).vals)[j]? := fun i hi j hj => by
    rw [w0, ← c0 i hi j hj]; simp
  have a1 : ∀ i, i < 21 → ∀ j, j < 7 → W.cell? ⟨2, i * 7 + j, none⟩ = ((upF.getD i Fam.zero).vals)[j]? := fun i hi j hj => by
    rw [w1, ← c1 i hi j hj]; simp
  have hlt : 2 < W.heap.size := World.block_lt_of_cell? W ⟨2, 0 * 7 + 0, none⟩ (a1 0 (by decide) 0 (by decide))
  refine ⟨⟨⟨lowL, fun _ _ => trivial, fun _ => ⟨1, 0, rfl, by decide, fun i hi j hj => ?_⟩⟩, ⟨upL, fun _ _ => trivial, fun _ => ⟨2, 0, rfl, by decide, fun i hi j hj => ?_⟩⟩, hlt⟩, a2, ?_⟩
  · rw [Nat.zero_add]; exact a0 i hi j hj
  · rw [Nat.zero_add]; exact a1 i hi j hj
  · have := w2 0
    obtain ⟨l2⟩ := cs2
    simp only at he2
    subst he2
    exact this
end Go.Proofs.YtolifmpkillglaaDoor
