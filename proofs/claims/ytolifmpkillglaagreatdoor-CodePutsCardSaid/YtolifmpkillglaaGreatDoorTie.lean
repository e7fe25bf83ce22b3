/-
  DERIVED. GIVEN WITH THE SEED: THE PROGRAM's TIES (one call each: nine closed facts by the kernel) AND EACH ROW's TIE, after the 31st guide's Derived/Test/Toyas{Tie, Card}.lean. No idea stands in it: it is a product of the set-up. Laid BY PROGRAM, IN A SANDBOX (cutbox-door.mjs). By AI agents, Wed Nov 11 2026. No macro, syntax, notation, axiom, sorry.
-/
import Derived.Test.YtolifmpkillglaaGreatDoorRows
import Derived.LaidByTextLater
import Derived.SevenTiedAt
import Derived.LaidSub
import Derived.LaidOnce
namespace Go.Proofs.YtolifmpkillglaaGreatDoor
open Go
set_option maxRecDepth 100000
theorem seatTie1 : Tryz.prog.laidByTextLater [("garderobe/ops.lower", Rows.laid_garderobe_ops_lower), ("garderobe/ops.upper", Rows.laid_garderobe_ops_upper), ("garderobe/code.errForm", Rows.laid_garderobe_code_errForm)] [.data, .data, .sentinel] true :=
  Program.laidByTextLater_by_one 78 8 148 (by kernel_rfl) (by kernel_rfl) (by kernel_rfl) (by kernel_rfl) (by kernel_rfl) (by kernel_rfl) (fun _ _ => by kernel_rfl)
theorem noOwnUnsafe : Tryz.pinned.checked.prog.headLifts.contains "ownunsafe" = false := by kernel_rfl
theorem tie : Tryz.prog.laidByTextLater [("garderobe/ops.lower", Rows.laid_garderobe_ops_lower), ("garderobe/ops.upper", Rows.laid_garderobe_ops_upper), ("garderobe/code.errForm", Rows.laid_garderobe_code_errForm)] [.data, .data, .sentinel] true :=
  Program.laidByTextLater.sub seatTie1 ["garderobe/ops.lower", "garderobe/ops.upper", "garderobe/code.errForm"] (by kernel_rfl) (by kernel_rfl)
theorem codePuts_row_tie : Rows.codePutsRow.laidByTextAt .later Tryz.pinned [.data, .data, .sentinel] true :=
  OpenClaim.laidByTextAt_later rfl rfl tie noOwnUnsafe
theorem codePutsUpto_row_tie : Rows.codePutsUptoRow.laidByTextAt .later Tryz.pinned [.data, .data, .sentinel] true :=
  OpenClaim.laidByTextAt_later rfl rfl tie noOwnUnsafe
end Go.Proofs.YtolifmpkillglaaGreatDoor
