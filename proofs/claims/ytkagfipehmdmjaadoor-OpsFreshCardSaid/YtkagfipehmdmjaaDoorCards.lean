/-
  DERIVED. GIVEN WITH THE SEED: THE CARDS: each row of YtkagfipehmdmjaaDoorRows.lean that lists a variable, with what it lists TIED to the program's text (the seventh form; the later family's looks); each row that meets fmt, with fmt's text TOLD by the authors' own Lean function (tested against real Go, not proved from fmt's source: count such statements apart). THE CARD IS WHAT COUNTS. Prove the row's statement (the work); the ties are given (YtkagfipehmdmjaaDoorTie.lean); close each card by the builder's one call (the guide's Derived/Test/ToyasCard.lean, 'card_holds'). Laid BY PROGRAM, IN A SANDBOX (cutbox-door.mjs). By AI agents, Wed Nov 11 2026. No macro, syntax, notation, axiom, sorry.
-/
import Derived.Test.YtkagfipehmdmjaaDoorRows
import GoSem.ClaimSeven
namespace Go.Proofs.YtkagfipehmdmjaaDoor
namespace Rows

/-- THE TIED CARD OF 'garderobelaw05.OpsOf'. -/
def opsOfCard : Claim7 := { stood := { row := opsOfRow, standIns := [], harness := (true, "ce37437c9f82470a8d440f128ab4b879c583809d59d4494cca6ef278cd5cc1d0"), looks := false }, kinds := [], alts := [], laidByText := true, laidKinds := [.data, .data], laidTests := true, laidLooks := .later }
def OpsOfCardSaid : Prop := Claim7.holds Tryd.pinned (.plain (OpenSpec.ofChange opsOfSpec)) opsOfCard

/-- THE TIED CARD OF 'garderobelaw05.OpsNamed'. -/
def opsNamedCard : Claim7 := { stood := { row := opsNamedRow, standIns := [], harness := (true, "ce37437c9f82470a8d440f128ab4b879c583809d59d4494cca6ef278cd5cc1d0"), looks := false }, kinds := [], alts := [], laidByText := true, laidKinds := [.data, .data], laidTests := true, laidLooks := .later }
def OpsNamedCardSaid : Prop := Claim7.holds Tryd.pinned (.plain (OpenSpec.ofChange opsNamedSpec)) opsNamedCard

/-- THE TIED CARD OF 'garderobelaw05.OpsAll'. -/
def opsAllCard : Claim7 := { stood := { row := opsAllRow, standIns := [], harness := (true, "ce37437c9f82470a8d440f128ab4b879c583809d59d4494cca6ef278cd5cc1d0"), looks := false }, kinds := [], alts := [], laidByText := true, laidKinds := [.data, .data], laidTests := true, laidLooks := .later }
def OpsAllCardSaid : Prop := Claim7.holds Tryd.pinned (.plain (OpenSpec.ofChange opsAllSpec)) opsAllCard

/-- THE TIED CARD OF 'garderobelaw05.OpsBack'. -/
def opsBackCard : Claim7 := { stood := { row := opsBackRow, standIns := [], harness := (true, "ce37437c9f82470a8d440f128ab4b879c583809d59d4494cca6ef278cd5cc1d0"), looks := false }, kinds := [], alts := [], laidByText := true, laidKinds := [.data, .data], laidTests := true, laidLooks := .later }
def OpsBackCardSaid : Prop := Claim7.holds Tryd.pinned (.plain (OpenSpec.ofChange opsBackSpec)) opsBackCard

/-- THE TIED CARD OF 'garderobelaw05.OpsFresh'. -/
def opsFreshCard : Claim7 := { stood := { row := opsFreshRow, standIns := [], harness := (true, "ce37437c9f82470a8d440f128ab4b879c583809d59d4494cca6ef278cd5cc1d0"), looks := false }, kinds := [], alts := [], laidByText := true, laidKinds := [.data, .data], laidTests := true, laidLooks := .later }
def OpsFreshCardSaid : Prop := Claim7.holds Tryd.pinned (.plain (OpenSpec.ofChange opsFreshSpec)) opsFreshCard

/-- THE SECOND FORM's CARD OF 'garderobelaw05.OpsOf'. -/
def opsOfUptoCard : Claim7 := { stood := { row := opsOfUptoRow, standIns := [], harness := (true, "ce37437c9f82470a8d440f128ab4b879c583809d59d4494cca6ef278cd5cc1d0"), looks := false }, kinds := [], alts := [], laidByText := true, laidKinds := [.data, .data], laidTests := true, laidLooks := .later }
def OpsOfUptoCardSaid : Prop := Claim7.holds Tryd.pinned (.plain (OpenSpec.upto opsOfSpec)) opsOfUptoCard

/-- THE SECOND FORM's CARD OF 'garderobelaw05.OpsNamed'. -/
def opsNamedUptoCard : Claim7 := { stood := { row := opsNamedUptoRow, standIns := [], harness := (true, "ce37437c9f82470a8d440f128ab4b879c583809d59d4494cca6ef278cd5cc1d0"), looks := false }, kinds := [], alts := [], laidByText := true, laidKinds := [.data, .data], laidTests := true, laidLooks := .later }
def OpsNamedUptoCardSaid : Prop := Claim7.holds Tryd.pinned (.plain (OpenSpec.upto opsNamedSpec)) opsNamedUptoCard

/-- THE SECOND FORM's CARD OF 'garderobelaw05.OpsAll'. -/
def opsAllUptoCard : Claim7 := { stood := { row := opsAllUptoRow, standIns := [], harness := (true, "ce37437c9f82470a8d440f128ab4b879c583809d59d4494cca6ef278cd5cc1d0"), looks := false }, kinds := [], alts := [], laidByText := true, laidKinds := [.data, .data], laidTests := true, laidLooks := .later }
def OpsAllUptoCardSaid : Prop := Claim7.holds Tryd.pinned (.plain (OpenSpec.upto opsAllSpec)) opsAllUptoCard

/-- THE SECOND FORM's CARD OF 'garderobelaw05.OpsBack'. -/
def opsBackUptoCard : Claim7 := { stood := { row := opsBackUptoRow, standIns := [], harness := (true, "ce37437c9f82470a8d440f128ab4b879c583809d59d4494cca6ef278cd5cc1d0"), looks := false }, kinds := [], alts := [], laidByText := true, laidKinds := [.data, .data], laidTests := true, laidLooks := .later }
def OpsBackUptoCardSaid : Prop := Claim7.holds Tryd.pinned (.plain (OpenSpec.upto opsBackSpec)) opsBackUptoCard

/-- THE SECOND FORM's CARD OF 'garderobelaw05.OpsFresh'. -/
def opsFreshUptoCard : Claim7 := { stood := { row := opsFreshUptoRow, standIns := [], harness := (true, "ce37437c9f82470a8d440f128ab4b879c583809d59d4494cca6ef278cd5cc1d0"), looks := false }, kinds := [], alts := [], laidByText := true, laidKinds := [.data, .data], laidTests := true, laidLooks := .later }
def OpsFreshUptoCardSaid : Prop := Claim7.holds Tryd.pinned (.plain (OpenSpec.upto opsFreshSpec)) opsFreshUptoCard
end Rows
end Go.Proofs.YtkagfipehmdmjaaDoor
