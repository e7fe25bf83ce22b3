import Derived.Test.YtkagfipehmdmjaaDoorGn
import Derived.Carry
import Derived.SizedLaws
import Derived.ChangeMaps5
import Derived.Test.YtkagfipehmdmjaaDoorTie
set_option linter.unusedVariables false
namespace Go.Proofs.YtkagfipehmdmjaaDoor
open Go.ChangeShapes Go.WideShapes Go.ChangeAt Go.RowKit
/-! What the laws share: the door's own heap meets the condition; an argument's number. -/
theorem ownDoor : ownKnob Tryd.prog.godebug = none := by kernel_rfl
abbrev laidBoth : List (String × DataW Unit) := [("garderobe/ops.lower", Rows.laid_garderobe_ops_lower), ("garderobe/ops.upper", Rows.laid_garderobe_ops_upper)]
theorem door_met (os : Os) (args : Array Value) : laidMetH Tryd.prog laidBoth ((World.doorLaid Tryd.prog 59 os).forCall (fun _ _ => 0) ⟨#[], args, []⟩).memory :=
  laidMetH_of_parts3 (fuel := 8) (laidMet_of_run' 8 (by kernel_rfl) (by kernel_rfl)) (by kernel_rfl) (by kernel_rfl)
theorem u8_nat {a : Int} (h : (Lit.int .u8 a).wf = true) : ∃ n : Nat, a = n ∧ n < 256 := by
  have : 0 ≤ a ∧ a ≤ 255 := by simpa [Lit.wf, IntKind.min, IntKind.max, IntKind.signed, IntKind.bits] using h
  exact ⟨a.toNat, by omega, by omega⟩
theorem walk_named' (s : ByteArray) (w : World) (T : Tab w) : Calls Tryd.prog 4 #[.string s] w fun e w' => e = .returned (.bool true) ∧ Below w.heap.size w w' := by
  have := walk_named s.data.toList w T
  rwa [Lib.mk_data] at this
end Go.Proofs.YtkagfipehmdmjaaDoor
