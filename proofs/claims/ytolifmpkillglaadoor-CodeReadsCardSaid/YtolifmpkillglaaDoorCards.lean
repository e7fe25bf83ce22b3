/-
  DERIVED. GIVEN WITH THE SEED: THE CARDS: each row of YtolifmpkillglaaDoorRows.lean that lists a variable, with what it lists TIED to the program's text (the seventh form; the later family's looks); each row that meets fmt, with fmt's text TOLD by the authors' own Lean function (tested against real Go, not proved from fmt's source: count such statements apart). THE CARD IS WHAT COUNTS. Prove the row's statement (the work); the ties are given (YtolifmpkillglaaDoorTie.lean); close each card by the builder's one call (the guide's Derived/Test/ToyasCard.lean, 'card_holds'). Laid BY PROGRAM, IN A SANDBOX (cutbox-door.mjs). By AI agents, Wed Nov 11 2026. No macro, syntax, notation, axiom, sorry.
-/
import Derived.Test.YtolifmpkillglaaDoorRows
import GoSem.ClaimSeven
namespace Go.Proofs.YtolifmpkillglaaDoor
namespace Rows

/-- THE TIED CARD OF 'garderobelaw06.CodeReads'. -/
def codeReadsCard : Claim7 := { stood := { row := codeReadsRow, standIns := [], harness := (true, "20da3a624f3314c26e2c3dd0b83a082e40455e01577c8bb97eed6819c5e49f21"), looks := true }, kinds := [], alts := [], laidByText := true, laidKinds := [.data, .data, .sentinel], laidTests := true, laidLooks := .later }
def CodeReadsCardSaid : Prop := Claim7.holds Tryd.pinned (.plain (OpenSpec.ofChange codeReadsSpec)) codeReadsCard

/-- THE TIED CARD OF 'garderobelaw06.CodeFresh'. -/
def codeFreshCard : Claim7 := { stood := { row := codeFreshRow, standIns := [], harness := (true, "20da3a624f3314c26e2c3dd0b83a082e40455e01577c8bb97eed6819c5e49f21"), looks := true }, kinds := [], alts := [], laidByText := true, laidKinds := [.data, .data, .sentinel], laidTests := true, laidLooks := .later }
def CodeFreshCardSaid : Prop := Claim7.holds Tryd.pinned (.plain (OpenSpec.ofChange codeFreshSpec)) codeFreshCard

/-- THE SECOND FORM's CARD OF 'garderobelaw06.CodeReads'. -/
def codeReadsUptoCard : Claim7 := { stood := { row := codeReadsUptoRow, standIns := [], harness := (true, "20da3a624f3314c26e2c3dd0b83a082e40455e01577c8bb97eed6819c5e49f21"), looks := true }, kinds := [], alts := [], laidByText := true, laidKinds := [.data, .data, .sentinel], laidTests := true, laidLooks := .later }
def CodeReadsUptoCardSaid : Prop := Claim7.holds Tryd.pinned (.plain (OpenSpec.upto codeReadsSpec)) codeReadsUptoCard

/-- THE SECOND FORM's CARD OF 'garderobelaw06.CodeFresh'. -/
def codeFreshUptoCard : Claim7 := { stood := { row := codeFreshUptoRow, standIns := [], harness := (true, "20da3a624f3314c26e2c3dd0b83a082e40455e01577c8bb97eed6819c5e49f21"), looks := true }, kinds := [], alts := [], laidByText := true, laidKinds := [.data, .data, .sentinel], laidTests := true, laidLooks := .later }
def CodeFreshUptoCardSaid : Prop := Claim7.holds Tryd.pinned (.plain (OpenSpec.upto codeFreshSpec)) codeFreshUptoCard
end Rows
end Go.Proofs.YtolifmpkillglaaDoor
