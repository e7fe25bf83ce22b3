/-
  No cell of these rows narrows 'for every input' (looked for: loops, veiled, ifaces, maps, wideKeys, modest, calm, conditions, laid).
  DERIVED. THE GIVEN ROWS OF THIS SEAT. 7 by the template 'for every input the law returns true; each argument reads behind the call as it read before'; 0 by the template 'total and deterministic' (their statements: YtcondgdbjkcafaaTotals.lean).
  GIVEN WITH THE SEED: the statements are not yours to turn. If you find one false, say at which input.
  Laid BY PROGRAM, IN A SANDBOX (cutbox-rows.mjs): the forced cells as the released guide's own fill.sh prints them over the translation e5c44db620f35db6… (all of the seat's roots in one cut). By AI agents, Wed Nov 11 2026. No macro, syntax, notation, axiom, sorry.
-/
import Derived.Test.YtcondgdbjkcafaaChecked
import GoSem.Claim
import GoSem.ClaimJoined
import GoSem.ClaimMapViews
import Derived.JoinedTies
import Derived.KernelRfl
namespace Go.Proofs.Ytcondgdbjkcafaa
/- THE CELL 'sum', in the pinned program and in every row, IS THE sha256 OF THE DUMP (.gsa) THAT YtcondgdbjkcafaaProg.lean LOADS. Nothing in Lean hashes anything: it is a label: what it is worth is what the hold of that sum in a sandbox is worth. -/
noncomputable def Try.pinned : Pinned := { name := "ytcondgdbjkcafaa", sum := "e5c44db620f35db68a218cd13cb046e6ae1c290bde13e60868b0a24d09fae3a8", checked := Try.checked }
namespace Rows
def none {H : Type} : Left H := { results := [], args := [] }

/-- 'garderobelaw01.WordsTwo': WHATEVER THE INPUT: true; the input reads as it did. -/
def wordsTwoSpec : ChangeSpec := { name := "wordsTwo", fn := fun _ => fun
  | [d1, d2, d3] => { results := [.lit (.bool true)], args := [d1, d2, d3] }
  | _ => none }
def wordsTwoRow : OpenClaim := { program := "ytcondgdbjkcafaa", sum := "e5c44db620f35db68a218cd13cb046e6ae1c290bde13e60868b0a24d09fae3a8", func := "garderobe/garderobelaw01.WordsTwo", spec := "wordsTwo", apart := false }
def WordsTwoSaid : Prop := wordsTwoRow.holds Try.pinned (OpenSpec.ofChange wordsTwoSpec)

/-- ITS FALSE NEIGHBOUR: 'it returns false'. Refute it at one input. -/
def wordsTwoWrong : ChangeSpec := { name := "wordsTwo", fn := fun _ => fun
  | [d1, d2, d3] => { results := [.lit (.bool false)], args := [d1, d2, d3] }
  | _ => none }
def WordsTwoWrongFalsely : Prop := wordsTwoRow.holds Try.pinned (OpenSpec.ofChange wordsTwoWrong)

/-- 'garderobelaw01.WordsOne': WHATEVER THE INPUT: true; the input reads as it did. -/
def wordsOneSpec : ChangeSpec := { name := "wordsOne", fn := fun _ => fun
  | [d1, d2] => { results := [.lit (.bool true)], args := [d1, d2] }
  | _ => none }
def wordsOneRow : OpenClaim := { program := "ytcondgdbjkcafaa", sum := "e5c44db620f35db68a218cd13cb046e6ae1c290bde13e60868b0a24d09fae3a8", func := "garderobe/garderobelaw01.WordsOne", spec := "wordsOne", apart := false }
def WordsOneSaid : Prop := wordsOneRow.holds Try.pinned (OpenSpec.ofChange wordsOneSpec)

/-- ITS FALSE NEIGHBOUR: 'it returns false'. Refute it at one input. -/
def wordsOneWrong : ChangeSpec := { name := "wordsOne", fn := fun _ => fun
  | [d1, d2] => { results := [.lit (.bool false)], args := [d1, d2] }
  | _ => none }
def WordsOneWrongFalsely : Prop := wordsOneRow.holds Try.pinned (OpenSpec.ofChange wordsOneWrong)

/-- 'garderobelaw01.WordsIs': WHATEVER THE INPUT: true; the input reads as it did. -/
def wordsIsSpec : ChangeSpec := { name := "wordsIs", fn := fun _ => fun
  | [d1, d2, d3] => { results := [.lit (.bool true)], args := [d1, d2, d3] }
  | _ => none }
def wordsIsRow : OpenClaim := { program := "ytcondgdbjkcafaa", sum := "e5c44db620f35db68a218cd13cb046e6ae1c290bde13e60868b0a24d09fae3a8", func := "garderobe/garderobelaw01.WordsIs", spec := "wordsIs", apart := false }
def WordsIsSaid : Prop := wordsIsRow.holds Try.pinned (OpenSpec.ofChange wordsIsSpec)

/-- ITS FALSE NEIGHBOUR: 'it returns false'. Refute it at one input. -/
def wordsIsWrong : ChangeSpec := { name := "wordsIs", fn := fun _ => fun
  | [d1, d2, d3] => { results := [.lit (.bool false)], args := [d1, d2, d3] }
  | _ => none }
def WordsIsWrongFalsely : Prop := wordsIsRow.holds Try.pinned (OpenSpec.ofChange wordsIsWrong)

/-- 'garderobelaw01.WordsDivides': WHATEVER THE INPUT: true; the input reads as it did. -/
def wordsDividesSpec : ChangeSpec := { name := "wordsDivides", fn := fun _ => fun
  | [d1, d2] => { results := [.lit (.bool true)], args := [d1, d2] }
  | _ => none }
def wordsDividesRow : OpenClaim := { program := "ytcondgdbjkcafaa", sum := "e5c44db620f35db68a218cd13cb046e6ae1c290bde13e60868b0a24d09fae3a8", func := "garderobe/garderobelaw01.WordsDivides", spec := "wordsDivides", apart := false }
def WordsDividesSaid : Prop := wordsDividesRow.holds Try.pinned (OpenSpec.ofChange wordsDividesSpec)

/-- ITS FALSE NEIGHBOUR: 'it returns false'. Refute it at one input. -/
def wordsDividesWrong : ChangeSpec := { name := "wordsDivides", fn := fun _ => fun
  | [d1, d2] => { results := [.lit (.bool false)], args := [d1, d2] }
  | _ => none }
def WordsDividesWrongFalsely : Prop := wordsDividesRow.holds Try.pinned (OpenSpec.ofChange wordsDividesWrong)

/-- 'garderobelaw01.WordsBack': WHATEVER THE INPUT: true; the input reads as it did. -/
def wordsBackSpec : ChangeSpec := { name := "wordsBack", fn := fun _ => fun
  | [d1, d2] => { results := [.lit (.bool true)], args := [d1, d2] }
  | _ => none }
def wordsBackRow : OpenClaim := { program := "ytcondgdbjkcafaa", sum := "e5c44db620f35db68a218cd13cb046e6ae1c290bde13e60868b0a24d09fae3a8", func := "garderobe/garderobelaw01.WordsBack", spec := "wordsBack", apart := false }
def WordsBackSaid : Prop := wordsBackRow.holds Try.pinned (OpenSpec.ofChange wordsBackSpec)

/-- ITS FALSE NEIGHBOUR: 'it returns false'. Refute it at one input. -/
def wordsBackWrong : ChangeSpec := { name := "wordsBack", fn := fun _ => fun
  | [d1, d2] => { results := [.lit (.bool false)], args := [d1, d2] }
  | _ => none }
def WordsBackWrongFalsely : Prop := wordsBackRow.holds Try.pinned (OpenSpec.ofChange wordsBackWrong)

/-- 'garderobelaw01.WordsOrder': WHATEVER THE INPUT: true; the input reads as it did. -/
def wordsOrderSpec : ChangeSpec := { name := "wordsOrder", fn := fun _ => fun
  | [d1, d2, d3] => { results := [.lit (.bool true)], args := [d1, d2, d3] }
  | _ => none }
def wordsOrderRow : OpenClaim := { program := "ytcondgdbjkcafaa", sum := "e5c44db620f35db68a218cd13cb046e6ae1c290bde13e60868b0a24d09fae3a8", func := "garderobe/garderobelaw01.WordsOrder", spec := "wordsOrder", apart := false }
def WordsOrderSaid : Prop := wordsOrderRow.holds Try.pinned (OpenSpec.ofChange wordsOrderSpec)

/-- ITS FALSE NEIGHBOUR: 'it returns false'. Refute it at one input. -/
def wordsOrderWrong : ChangeSpec := { name := "wordsOrder", fn := fun _ => fun
  | [d1, d2, d3] => { results := [.lit (.bool false)], args := [d1, d2, d3] }
  | _ => none }
def WordsOrderWrongFalsely : Prop := wordsOrderRow.holds Try.pinned (OpenSpec.ofChange wordsOrderWrong)

/-- 'garderobelaw01.WordsMoves': WHATEVER THE INPUT: true; the input reads as it did. -/
def wordsMovesSpec : ChangeSpec := { name := "wordsMoves", fn := fun _ => fun
  | [d1, d2] => { results := [.lit (.bool true)], args := [d1, d2] }
  | _ => none }
def wordsMovesRow : OpenClaim := { program := "ytcondgdbjkcafaa", sum := "e5c44db620f35db68a218cd13cb046e6ae1c290bde13e60868b0a24d09fae3a8", func := "garderobe/garderobelaw01.WordsMoves", spec := "wordsMoves", apart := false }
def WordsMovesSaid : Prop := wordsMovesRow.holds Try.pinned (OpenSpec.ofChange wordsMovesSpec)

/-- ITS FALSE NEIGHBOUR: 'it returns false'. Refute it at one input. -/
def wordsMovesWrong : ChangeSpec := { name := "wordsMoves", fn := fun _ => fun
  | [d1, d2] => { results := [.lit (.bool false)], args := [d1, d2] }
  | _ => none }
def WordsMovesWrongFalsely : Prop := wordsMovesRow.holds Try.pinned (OpenSpec.ofChange wordsMovesWrong)

/- THE SECOND FORM. 'bulk': how many values and letters a reading holds, each counted each time it is reached (what is shared counts as often as it is met; a slice's spare places count too). A statement '..UptoSaid' is the law's where the arguments, and the package variables that the reading takes, are together of bulk at most 1048576: NARROWER than '..Said'. Prove '..Said' where nothing that the law and all that it calls make is longer than what came in: it says more and counts as full. Else prove '..UptoSaid'. A law counts once. -/
mutual
def uptoBulk {H : Type} : DataW H → Nat
  | .lit (.string bytes) => bytes.length + 1
  | .lit _ => 1
  | .nil => 1
  | .ptr d => uptoBulk d + 1
  | .slice elems spare => uptoBulkAll elems + uptoBulkAll spare + 1
  | .agg parts => uptoBulkAll parts + 1
  | .iface _ d => uptoBulk d + 1
  | .map entries => uptoBulkEntries entries + 1
  | .held _ => 1
def uptoBulkAll {H : Type} : List (DataW H) → Nat
  | [] => 0
  | d :: r => uptoBulk d + uptoBulkAll r
def uptoBulkEntries {H : Type} : List (Lit × DataW H) → Nat
  | [] => 0
  | x :: r => uptoBulkEntry x + uptoBulkEntries r
def uptoBulkEntry {H : Type} : Lit × DataW H → Nat
  | (.string bytes, d) => bytes.length + uptoBulk d + 1
  | (_, d) => uptoBulk d + 1
 end
def uptoSmall : (H : Type) → List (DataW H) → Bool := fun _ ds => decide (uptoBulkAll ds ≤ 1048576)
def OpenSpec.upto (s : _root_.Go.ChangeSpec) : _root_.Go.OpenSpec := { _root_.Go.OpenSpec.ofChange s with cond := some uptoSmall }

/-- 'garderobelaw01.WordsTwo', WHERE WHAT IT READS IS OF BULK AT MOST 1048576: true; the input reads as it did. -/
def wordsTwoUptoRow : OpenClaim := { program := "ytcondgdbjkcafaa", sum := "e5c44db620f35db68a218cd13cb046e6ae1c290bde13e60868b0a24d09fae3a8", func := "garderobe/garderobelaw01.WordsTwo", spec := "wordsTwo", apart := false, narrowed := true }
def WordsTwoUptoSaid : Prop := wordsTwoUptoRow.holds Try.pinned (OpenSpec.upto wordsTwoSpec)

/-- 'garderobelaw01.WordsOne', WHERE WHAT IT READS IS OF BULK AT MOST 1048576: true; the input reads as it did. -/
def wordsOneUptoRow : OpenClaim := { program := "ytcondgdbjkcafaa", sum := "e5c44db620f35db68a218cd13cb046e6ae1c290bde13e60868b0a24d09fae3a8", func := "garderobe/garderobelaw01.WordsOne", spec := "wordsOne", apart := false, narrowed := true }
def WordsOneUptoSaid : Prop := wordsOneUptoRow.holds Try.pinned (OpenSpec.upto wordsOneSpec)

/-- 'garderobelaw01.WordsIs', WHERE WHAT IT READS IS OF BULK AT MOST 1048576: true; the input reads as it did. -/
def wordsIsUptoRow : OpenClaim := { program := "ytcondgdbjkcafaa", sum := "e5c44db620f35db68a218cd13cb046e6ae1c290bde13e60868b0a24d09fae3a8", func := "garderobe/garderobelaw01.WordsIs", spec := "wordsIs", apart := false, narrowed := true }
def WordsIsUptoSaid : Prop := wordsIsUptoRow.holds Try.pinned (OpenSpec.upto wordsIsSpec)

/-- 'garderobelaw01.WordsDivides', WHERE WHAT IT READS IS OF BULK AT MOST 1048576: true; the input reads as it did. -/
def wordsDividesUptoRow : OpenClaim := { program := "ytcondgdbjkcafaa", sum := "e5c44db620f35db68a218cd13cb046e6ae1c290bde13e60868b0a24d09fae3a8", func := "garderobe/garderobelaw01.WordsDivides", spec := "wordsDivides", apart := false, narrowed := true }
def WordsDividesUptoSaid : Prop := wordsDividesUptoRow.holds Try.pinned (OpenSpec.upto wordsDividesSpec)

/-- 'garderobelaw01.WordsBack', WHERE WHAT IT READS IS OF BULK AT MOST 1048576: true; the input reads as it did. -/
def wordsBackUptoRow : OpenClaim := { program := "ytcondgdbjkcafaa", sum := "e5c44db620f35db68a218cd13cb046e6ae1c290bde13e60868b0a24d09fae3a8", func := "garderobe/garderobelaw01.WordsBack", spec := "wordsBack", apart := false, narrowed := true }
def WordsBackUptoSaid : Prop := wordsBackUptoRow.holds Try.pinned (OpenSpec.upto wordsBackSpec)

/-- 'garderobelaw01.WordsOrder', WHERE WHAT IT READS IS OF BULK AT MOST 1048576: true; the input reads as it did. -/
def wordsOrderUptoRow : OpenClaim := { program := "ytcondgdbjkcafaa", sum := "e5c44db620f35db68a218cd13cb046e6ae1c290bde13e60868b0a24d09fae3a8", func := "garderobe/garderobelaw01.WordsOrder", spec := "wordsOrder", apart := false, narrowed := true }
def WordsOrderUptoSaid : Prop := wordsOrderUptoRow.holds Try.pinned (OpenSpec.upto wordsOrderSpec)

/-- 'garderobelaw01.WordsMoves', WHERE WHAT IT READS IS OF BULK AT MOST 1048576: true; the input reads as it did. -/
def wordsMovesUptoRow : OpenClaim := { program := "ytcondgdbjkcafaa", sum := "e5c44db620f35db68a218cd13cb046e6ae1c290bde13e60868b0a24d09fae3a8", func := "garderobe/garderobelaw01.WordsMoves", spec := "wordsMoves", apart := false, narrowed := true }
def WordsMovesUptoSaid : Prop := wordsMovesUptoRow.holds Try.pinned (OpenSpec.upto wordsMovesSpec)

end Rows
end Go.Proofs.Ytcondgdbjkcafaa
