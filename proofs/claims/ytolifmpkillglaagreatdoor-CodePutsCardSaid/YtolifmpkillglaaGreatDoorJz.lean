import Derived.Test.YtolifmpkillglaaGreatDoorJy
import Derived.Test.YtolifmpkillglaaGreatDoorJr
set_option linter.unusedVariables false
namespace Go.Proofs.YtolifmpkillglaaGreatDoor
open Go.RowKit
/-! CodePuts: all of it. -/
theorem walk_puts_any (A : Option Addr) (n c : Nat) (l : List Ins) (rs : List RI) (w : World) (T : TE w) (hv : IV w w.heap.size A n rs l) (hn : n ≤ 140737488351232) :
    Calls Tryz.prog 3 #[.slice A n c] w fun e w' => e = .returned (.bool true) ∧ Below w.heap.size w w' :=
  walk_puts (fun l1 l2 w A1 A2 n1 n2 c1 c2 B1 B2 rs1 rs2 h1 h2 hB1 hB2 hn hn2 ht ht2 => instrs_u l1 l2 w A1 A2 n1 n2 c1 c2 B1 B2 rs1 rs2 h1 h2 hB1 hB2 hn hn2 ht ht2) A n c l rs w T hv hn
end Go.Proofs.YtolifmpkillglaaGreatDoor
