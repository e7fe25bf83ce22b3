/-
  No cell of these rows narrows 'for every input' (looked for: loops, veiled, ifaces, maps, wideKeys, modest, calm, conditions, laid).
  DERIVED. THE GIVEN ROWS OF THIS SEAT. 6 by the template 'for every input the law returns true; each argument reads behind the call as it read before'; 0 by the template 'total and deterministic' (their statements: YtkdnnoioejfpgaaTotals.lean).
  GIVEN WITH THE SEED: the statements are not yours to turn. If you find one false, say at which input.
  Laid BY PROGRAM, IN A SANDBOX (cutbox-rows.mjs): the forced cells as the released guide's own fill.sh prints them over the translation 872a2fad3a1149e7… (all of the seat's roots in one cut). By AI agents, Wed Nov 11 2026. No macro, syntax, notation, axiom, sorry.
-/
import Derived.Test.YtkdnnoioejfpgaaChecked
import GoSem.Claim
import GoSem.ClaimJoined
import GoSem.ClaimMapViews
import Derived.JoinedTies
import Derived.KernelRfl
namespace Go.Proofs.Ytkdnnoioejfpgaa
/- THE CELL 'sum', in the pinned program and in every row, IS THE sha256 OF THE DUMP (.gsa) THAT YtkdnnoioejfpgaaProg.lean LOADS. Nothing in Lean hashes anything: it is a label: what it is worth is what the hold of that sum in a sandbox is worth. -/
noncomputable def Try.pinned : Pinned := { name := "ytkdnnoioejfpgaa", sum := "872a2fad3a1149e749eca2f188246847cf11c83a9cdea1dcc3e62d6c418bb03a", checked := Try.checked }
namespace Rows
def none {H : Type} : Left H := { results := [], args := [] }

/-- 'garderobelaw07.PoolPuts': WHATEVER THE INPUT: true; the input reads as it did. -/
def poolPutsSpec : ChangeSpec := { name := "poolPuts", fn := fun _ => fun
  | [d] => { results := [.lit (.bool true)], args := [d] }
  | _ => none }
def poolPutsRow : OpenClaim := { program := "ytkdnnoioejfpgaa", sum := "872a2fad3a1149e749eca2f188246847cf11c83a9cdea1dcc3e62d6c418bb03a", func := "garderobe/garderobelaw07.PoolPuts", spec := "poolPuts", apart := false }
def PoolPutsSaid : Prop := poolPutsRow.holds Try.pinned (OpenSpec.ofChange poolPutsSpec)

/-- ITS FALSE NEIGHBOUR: 'it returns false'. Refute it at one input. -/
def poolPutsWrong : ChangeSpec := { name := "poolPuts", fn := fun _ => fun
  | [d] => { results := [.lit (.bool false)], args := [d] }
  | _ => none }
def PoolPutsWrongFalsely : Prop := poolPutsRow.holds Try.pinned (OpenSpec.ofChange poolPutsWrong)

/-- 'garderobelaw07.PoolGets': WHATEVER THE INPUT: true; the input reads as it did. -/
def poolGetsSpec : ChangeSpec := { name := "poolGets", fn := fun _ => fun
  | [d] => { results := [.lit (.bool true)], args := [d] }
  | _ => none }
def poolGetsRow : OpenClaim := { program := "ytkdnnoioejfpgaa", sum := "872a2fad3a1149e749eca2f188246847cf11c83a9cdea1dcc3e62d6c418bb03a", func := "garderobe/garderobelaw07.PoolGets", spec := "poolGets", apart := false }
def PoolGetsSaid : Prop := poolGetsRow.holds Try.pinned (OpenSpec.ofChange poolGetsSpec)

/-- ITS FALSE NEIGHBOUR: 'it returns false'. Refute it at one input. -/
def poolGetsWrong : ChangeSpec := { name := "poolGets", fn := fun _ => fun
  | [d] => { results := [.lit (.bool false)], args := [d] }
  | _ => none }
def PoolGetsWrongFalsely : Prop := poolGetsRow.holds Try.pinned (OpenSpec.ofChange poolGetsWrong)

/-- 'garderobelaw07.PoolRefs': WHATEVER THE INPUT: true; the input reads as it did. -/
def poolRefsSpec : ChangeSpec := { name := "poolRefs", fn := fun _ => fun
  | [d1, d2, d3, d4] => { results := [.lit (.bool true)], args := [d1, d2, d3, d4] }
  | _ => none }
def poolRefsRow : OpenClaim := { program := "ytkdnnoioejfpgaa", sum := "872a2fad3a1149e749eca2f188246847cf11c83a9cdea1dcc3e62d6c418bb03a", func := "garderobe/garderobelaw07.PoolRefs", spec := "poolRefs", apart := false }
def PoolRefsSaid : Prop := poolRefsRow.holds Try.pinned (OpenSpec.ofChange poolRefsSpec)

/-- ITS FALSE NEIGHBOUR: 'it returns false'. Refute it at one input. -/
def poolRefsWrong : ChangeSpec := { name := "poolRefs", fn := fun _ => fun
  | [d1, d2, d3, d4] => { results := [.lit (.bool false)], args := [d1, d2, d3, d4] }
  | _ => none }
def PoolRefsWrongFalsely : Prop := poolRefsRow.holds Try.pinned (OpenSpec.ofChange poolRefsWrong)

/-- 'garderobelaw07.PoolBack': WHATEVER THE INPUT: true; the input reads as it did. -/
def poolBackSpec : ChangeSpec := { name := "poolBack", fn := fun _ => fun
  | [d1, d2, d3] => { results := [.lit (.bool true)], args := [d1, d2, d3] }
  | _ => none }
def poolBackRow : OpenClaim := { program := "ytkdnnoioejfpgaa", sum := "872a2fad3a1149e749eca2f188246847cf11c83a9cdea1dcc3e62d6c418bb03a", func := "garderobe/garderobelaw07.PoolBack", spec := "poolBack", apart := false }
def PoolBackSaid : Prop := poolBackRow.holds Try.pinned (OpenSpec.ofChange poolBackSpec)

/-- ITS FALSE NEIGHBOUR: 'it returns false'. Refute it at one input. -/
def poolBackWrong : ChangeSpec := { name := "poolBack", fn := fun _ => fun
  | [d1, d2, d3] => { results := [.lit (.bool false)], args := [d1, d2, d3] }
  | _ => none }
def PoolBackWrongFalsely : Prop := poolBackRow.holds Try.pinned (OpenSpec.ofChange poolBackWrong)

/-- 'garderobelaw07.PoolOne': WHATEVER THE INPUT: true; the input reads as it did. -/
def poolOneSpec : ChangeSpec := { name := "poolOne", fn := fun _ => fun
  | [d] => { results := [.lit (.bool true)], args := [d] }
  | _ => none }
def poolOneRow : OpenClaim := { program := "ytkdnnoioejfpgaa", sum := "872a2fad3a1149e749eca2f188246847cf11c83a9cdea1dcc3e62d6c418bb03a", func := "garderobe/garderobelaw07.PoolOne", spec := "poolOne", apart := false }
def PoolOneSaid : Prop := poolOneRow.holds Try.pinned (OpenSpec.ofChange poolOneSpec)

/-- ITS FALSE NEIGHBOUR: 'it returns false'. Refute it at one input. -/
def poolOneWrong : ChangeSpec := { name := "poolOne", fn := fun _ => fun
  | [d] => { results := [.lit (.bool false)], args := [d] }
  | _ => none }
def PoolOneWrongFalsely : Prop := poolOneRow.holds Try.pinned (OpenSpec.ofChange poolOneWrong)

/-- 'garderobelaw07.PoolFresh': WHATEVER THE INPUT: true; the input reads as it did. -/
def poolFreshSpec : ChangeSpec := { name := "poolFresh", fn := fun _ => fun
  | [d1, d2] => { results := [.lit (.bool true)], args := [d1, d2] }
  | _ => none }
def poolFreshRow : OpenClaim := { program := "ytkdnnoioejfpgaa", sum := "872a2fad3a1149e749eca2f188246847cf11c83a9cdea1dcc3e62d6c418bb03a", func := "garderobe/garderobelaw07.PoolFresh", spec := "poolFresh", apart := false }
def PoolFreshSaid : Prop := poolFreshRow.holds Try.pinned (OpenSpec.ofChange poolFreshSpec)

/-- ITS FALSE NEIGHBOUR: 'it returns false'. Refute it at one input. -/
def poolFreshWrong : ChangeSpec := { name := "poolFresh", fn := fun _ => fun
  | [d1, d2] => { results := [.lit (.bool false)], args := [d1, d2] }
  | _ => none }
def PoolFreshWrongFalsely : Prop := poolFreshRow.holds Try.pinned (OpenSpec.ofChange poolFreshWrong)

/- THE SECOND FORM. 'bulk': how many values and letters a reading holds, each counted each time it is reached (what is shared counts as often as it is met; a slice's spare places count too). A statement '..UptoSaid' is the law's where the arguments, and the package variables that the reading takes, are together of bulk at most 1048576: NARROWER than '..Said'. Prove '..Said' where nothing that the law and all that it calls make is longer than what came in: it says more and counts as full. Else prove '..UptoSaid'. A law counts once. -/
mutual
def uptoBulk {H : Type} : DataW H → Nat
  | .lit (.string bytes) => bytes.length + 1
  | .lit _ => 1
  | .nil => 1
  | .ptr d => uptoBulk d + 1
  | .slice elems spare => uptoBulkAll elems + uptoBulkAll spare + 1
  | .agg parts => uptoBulkAll parts + 1
  | .iface _ d => uptoBulk d + 1
  | .map entries => uptoBulkEntries entries + 1
  | .held _ => 1
def uptoBulkAll {H : Type} : List (DataW H) → Nat
  | [] => 0
  | d :: r => uptoBulk d + uptoBulkAll r
def uptoBulkEntries {H : Type} : List (Lit × DataW H) → Nat
  | [] => 0
  | x :: r => uptoBulkEntry x + uptoBulkEntries r
def uptoBulkEntry {H : Type} : Lit × DataW H → Nat
  | (.string bytes, d) => bytes.length + uptoBulk d + 1
  | (_, d) => uptoBulk d + 1
 end
def uptoSmall : (H : Type) → List (DataW H) → Bool := fun _ ds => decide (uptoBulkAll ds ≤ 1048576)
def OpenSpec.upto (s : _root_.Go.ChangeSpec) : _root_.Go.OpenSpec := { _root_.Go.OpenSpec.ofChange s with cond := some uptoSmall }

/-- 'garderobelaw07.PoolPuts', WHERE WHAT IT READS IS OF BULK AT MOST 1048576: true; the input reads as it did. -/
def poolPutsUptoRow : OpenClaim := { program := "ytkdnnoioejfpgaa", sum := "872a2fad3a1149e749eca2f188246847cf11c83a9cdea1dcc3e62d6c418bb03a", func := "garderobe/garderobelaw07.PoolPuts", spec := "poolPuts", apart := false, narrowed := true }
def PoolPutsUptoSaid : Prop := poolPutsUptoRow.holds Try.pinned (OpenSpec.upto poolPutsSpec)

/-- 'garderobelaw07.PoolGets', WHERE WHAT IT READS IS OF BULK AT MOST 1048576: true; the input reads as it did. -/
def poolGetsUptoRow : OpenClaim := { program := "ytkdnnoioejfpgaa", sum := "872a2fad3a1149e749eca2f188246847cf11c83a9cdea1dcc3e62d6c418bb03a", func := "garderobe/garderobelaw07.PoolGets", spec := "poolGets", apart := false, narrowed := true }
def PoolGetsUptoSaid : Prop := poolGetsUptoRow.holds Try.pinned (OpenSpec.upto poolGetsSpec)

/-- 'garderobelaw07.PoolRefs', WHERE WHAT IT READS IS OF BULK AT MOST 1048576: true; the input reads as it did. -/
def poolRefsUptoRow : OpenClaim := { program := "ytkdnnoioejfpgaa", sum := "872a2fad3a1149e749eca2f188246847cf11c83a9cdea1dcc3e62d6c418bb03a", func := "garderobe/garderobelaw07.PoolRefs", spec := "poolRefs", apart := false, narrowed := true }
def PoolRefsUptoSaid : Prop := poolRefsUptoRow.holds Try.pinned (OpenSpec.upto poolRefsSpec)

/-- 'garderobelaw07.PoolBack', WHERE WHAT IT READS IS OF BULK AT MOST 1048576: true; the input reads as it did. -/
def poolBackUptoRow : OpenClaim := { program := "ytkdnnoioejfpgaa", sum := "872a2fad3a1149e749eca2f188246847cf11c83a9cdea1dcc3e62d6c418bb03a", func := "garderobe/garderobelaw07.PoolBack", spec := "poolBack", apart := false, narrowed := true }
def PoolBackUptoSaid : Prop := poolBackUptoRow.holds Try.pinned (OpenSpec.upto poolBackSpec)

/-- 'garderobelaw07.PoolOne', WHERE WHAT IT READS IS OF BULK AT MOST 1048576: true; the input reads as it did. -/
def poolOneUptoRow : OpenClaim := { program := "ytkdnnoioejfpgaa", sum := "872a2fad3a1149e749eca2f188246847cf11c83a9cdea1dcc3e62d6c418bb03a", func := "garderobe/garderobelaw07.PoolOne", spec := "poolOne", apart := false, narrowed := true }
def PoolOneUptoSaid : Prop := poolOneUptoRow.holds Try.pinned (OpenSpec.upto poolOneSpec)

/-- 'garderobelaw07.PoolFresh', WHERE WHAT IT READS IS OF BULK AT MOST 1048576: true; the input reads as it did. -/
def poolFreshUptoRow : OpenClaim := { program := "ytkdnnoioejfpgaa", sum := "872a2fad3a1149e749eca2f188246847cf11c83a9cdea1dcc3e62d6c418bb03a", func := "garderobe/garderobelaw07.PoolFresh", spec := "poolFresh", apart := false, narrowed := true }
def PoolFreshUptoSaid : Prop := poolFreshUptoRow.holds Try.pinned (OpenSpec.upto poolFreshSpec)

end Rows
end Go.Proofs.Ytkdnnoioejfpgaa
