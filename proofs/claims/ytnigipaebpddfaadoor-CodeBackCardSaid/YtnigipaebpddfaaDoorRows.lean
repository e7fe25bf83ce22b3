/-
  NARROWER THAN 'FOR EVERY INPUT', by the rows' own cells (each row's printed sentence says how): CodeReads: laid · CodeBack: laid · CodeCuts: laid · CodeJoins: laid · CodeFresh: laid.
  DERIVED. THE GIVEN ROWS OF THIS SEAT. 5 by the template 'for every input the law returns true; each argument reads behind the call as it read before'; 0 by the template 'total and deterministic' (their statements: YtnigipaebpddfaaDoorTotals.lean).
  GIVEN WITH THE SEED: the statements are not yours to turn. If you find one false, say at which input.
  Laid BY PROGRAM, IN A SANDBOX (cutbox-rows.mjs): the forced cells as the released guide's own fill.sh prints them over the translation 0419d93ff661a6a7… (all of the seat's roots in one cut). By AI agents, Wed Nov 11 2026. No macro, syntax, notation, axiom, sorry.
-/
import Derived.Test.YtnigipaebpddfaaDoorChecked
import GoSem.Claim
import GoSem.ClaimJoined
import GoSem.ClaimMapViews
import Derived.JoinedTies
import Derived.KernelRfl
namespace Go.Proofs.YtnigipaebpddfaaDoor
/- THE CELL 'sum', in the pinned program and in every row, IS THE sha256 OF THE DUMP (.gsa) THAT YtnigipaebpddfaaDoorProg.lean LOADS. Nothing in Lean hashes anything: it is a label: what it is worth is what the hold of that sum in a sandbox is worth. -/
noncomputable def Tryd.pinned : Pinned := { name := "ytnigipaebpddfaadoor", sum := "0419d93ff661a6a758b26b90b844ca57c9e84a9d9b1da3e197496bffa3405aac", checked := Tryd.checked }
namespace Rows
def none {H : Type} : Left H := { results := [], args := [] }

/- WHAT THE LISTED PACKAGE-LEVEL VARIABLES READ AS WHEN THE CALL BEGINS. Each datum BY PROGRAM (the guide's laid-datum.mjs) off the statement by which the dump's own 'gosem.cut.vars' lays the variable. In a bare row this is a premise. The card (YtnigipaebpddfaaDoorCards.lean) ties it to the program's text. -/
def laid_garderobe_ops_lower {H : Type} : DataW H := .agg [.agg [.lit (.int .u8 0), .lit (.int .i64 0), .lit (.int .u8 0), .lit (.int .i64 0), .lit (.int .i64 0), .lit (.bool false), .lit (.string [110, 111, 112])], .agg [.lit (.int .u8 1), .lit (.int .i64 0), .lit (.int .u8 0), .lit (.int .i64 0), .lit (.int .i64 1), .lit (.bool false), .lit (.string [97, 99, 111, 110, 115, 116, 95, 110, 117, 108, 108, 32, 115, 99, 111, 110, 115, 116, 95, 109, 49, 32, 115, 99, 111, 110, 115, 116, 95, 48, 32, 115, 99, 111, 110, 115, 116, 95, 49, 32, 115, 99, 111, 110, 115, 116, 95, 50, 32, 115, 99, 111, 110, 115, 116, 95, 51, 32, 115, 99, 111, 110, 115, 116, 95, 52, 32, 115, 99, 111, 110, 115, 116, 95, 53])], .agg [.lit (.int .u8 16), .lit (.int .i64 0), .lit (.int .u8 1), .lit (.int .i64 0), .lit (.int .i64 1), .lit (.bool false), .lit (.string [98, 115, 112, 117, 115, 104])], .agg [.lit (.int .u8 17), .lit (.int .i64 0), .lit (.int .u8 2), .lit (.int .i64 0), .lit (.int .i64 1), .lit (.bool false), .lit (.string [115, 115, 112, 117, 115, 104])], .agg [.lit (.int .u8 21), .lit (.int .i64 0), .lit (.int .u8 3), .lit (.int .i64 0), .lit (.int .i64 1), .lit (.bool false), .lit (.string [97, 108, 111, 97, 100, 32, 115, 108, 111, 97, 100])], .agg [.lit (.int .u8 24), .lit (.int .i64 0), .lit (.int .u8 0), .lit (.int .i64 0), .lit (.int .i64 1), .lit (.bool false), .lit (.string [97, 108, 111, 97, 100, 95, 48, 32, 97, 108, 111, 97, 100, 95, 49, 32, 97, 108, 111, 97, 100, 95, 50, 32, 97, 108, 111, 97, 100, 95, 51, 32, 115, 108, 111, 97, 100, 95, 48, 32, 115, 108, 111, 97, 100, 95, 49, 32, 115, 108, 111, 97, 100, 95, 50, 32, 115, 108, 111, 97, 100, 95, 51])], .agg [.lit (.int .u8 36), .lit (.int .i64 0), .lit (.int .u8 0), .lit (.int .i64 2), .lit (.int .i64 1), .lit (.bool false), .lit (.string [97, 97, 108, 111, 97, 100, 32, 98, 97, 108, 111, 97, 100, 32, 115, 97, 108, 111, 97, 100])], .agg [.lit (.int .u8 40), .lit (.int .i64 0), .lit (.int .u8 3), .lit (.int .i64 1), .lit (.int .i64 0), .lit (.bool false), .lit (.string [97, 115, 116, 111, 114, 101, 32, 115, 115, 116, 111, 114, 101])], .agg [.lit (.int .u8 43), .lit (.int .i64 0), .lit (.int .u8 0), .lit (.int .i64 1), .lit (.int .i64 0), .lit (.bool false), .lit (.string [97, 115, 116, 111, 114, 101, 95, 48, 32, 97, 115, 116, 111, 114, 101, 95, 49, 32, 97, 115, 116, 111, 114, 101, 95, 50, 32, 97, 115, 116, 111, 114, 101, 95, 51, 32, 115, 115, 116, 111, 114, 101, 95, 48, 32, 115, 115, 116, 111, 114, 101, 95, 49, 32, 115, 115, 116, 111, 114, 101, 95, 50, 32, 115, 115, 116, 111, 114, 101, 95, 51])], .agg [.lit (.int .u8 55), .lit (.int .i64 0), .lit (.int .u8 0), .lit (.int .i64 3), .lit (.int .i64 0), .lit (.bool false), .lit (.string [97, 97, 115, 116, 111, 114, 101, 32, 98, 97, 115, 116, 111, 114, 101, 32, 115, 97, 115, 116, 111, 114, 101])], .agg [.lit (.int .u8 59), .lit (.int .i64 0), .lit (.int .u8 0), .lit (.int .i64 1), .lit (.int .i64 0), .lit (.bool false), .lit (.string [112, 111, 112])], .agg [.lit (.int .u8 60), .lit (.int .i64 0), .lit (.int .u8 0), .lit (.int .i64 2), .lit (.int .i64 0), .lit (.bool false), .lit (.string [112, 111, 112, 50])], .agg [.lit (.int .u8 61), .lit (.int .i64 0), .lit (.int .u8 0), .lit (.int .i64 1), .lit (.int .i64 2), .lit (.bool false), .lit (.string [100, 117, 112])], .agg [.lit (.int .u8 62), .lit (.int .i64 0), .lit (.int .u8 0), .lit (.int .i64 2), .lit (.int .i64 4), .lit (.bool false), .lit (.string [100, 117, 112, 50])], .agg [.lit (.int .u8 65), .lit (.int .i64 1), .lit (.int .u8 0), .lit (.int .i64 2), .lit (.int .i64 1), .lit (.bool false), .lit (.string [115, 97, 100, 100, 32, 115, 115, 117, 98, 32, 115, 109, 117, 108, 32, 115, 100, 105, 118, 32, 115, 114, 101, 109])], .agg [.lit (.int .u8 75), .lit (.int .i64 0), .lit (.int .u8 0), .lit (.int .i64 1), .lit (.int .i64 1), .lit (.bool false), .lit (.string [115, 110, 101, 103])], .agg [.lit (.int .u8 77), .lit (.int .i64 1), .lit (.int .u8 0), .lit (.int .i64 2), .lit (.int .i64 1), .lit (.bool false), .lit (.string [115, 115, 104, 108, 32, 115, 115, 104, 114, 32, 115, 117, 115, 104, 114, 32, 115, 97, 110, 100, 32, 115, 111, 114, 32, 115, 120, 111, 114])], .agg [.lit (.int .u8 89), .lit (.int .i64 0), .lit (.int .u8 4), .lit (.int .i64 0), .lit (.int .i64 0), .lit (.bool false), .lit (.string [115, 105, 110, 99])], .agg [.lit (.int .u8 91), .lit (.int .i64 0), .lit (.int .u8 0), .lit (.int .i64 1), .lit (.int .i64 1), .lit (.bool false), .lit (.string [115, 50, 98])]]
def laid_garderobe_ops_upper {H : Type} : DataW H := .agg [.agg [.lit (.int .u8 96), .lit (.int .i64 0), .lit (.int .u8 5), .lit (.int .i64 1), .lit (.int .i64 0), .lit (.bool false), .lit (.string [105, 102, 101, 113, 32, 105, 102, 110, 101, 32, 105, 102, 108, 116, 32, 105, 102, 103, 101, 32, 105, 102, 103, 116, 32, 105, 102, 108, 101, 32, 105, 102, 110, 117, 108, 108, 32, 105, 102, 110, 111, 110, 110, 117, 108, 108])], .agg [.lit (.int .u8 104), .lit (.int .i64 0), .lit (.int .u8 5), .lit (.int .i64 2), .lit (.int .i64 0), .lit (.bool false), .lit (.string [105, 102, 95, 97, 99, 109, 112, 101, 113, 32, 105, 102, 95, 97, 99, 109, 112, 110, 101, 32, 105, 102, 95, 115, 99, 109, 112, 101, 113, 32, 105, 102, 95, 115, 99, 109, 112, 110, 101, 32, 105, 102, 95, 115, 99, 109, 112, 108, 116, 32, 105, 102, 95, 115, 99, 109, 112, 103, 101, 32, 105, 102, 95, 115, 99, 109, 112, 103, 116, 32, 105, 102, 95, 115, 99, 109, 112, 108, 101])], .agg [.lit (.int .u8 112), .lit (.int .i64 0), .lit (.int .u8 5), .lit (.int .i64 0), .lit (.int .i64 0), .lit (.bool true), .lit (.string [103, 111, 116, 111])], .agg [.lit (.int .u8 113), .lit (.int .i64 0), .lit (.int .u8 5), .lit (.int .i64 0), .lit (.int .i64 1), .lit (.bool false), .lit (.string [106, 115, 114])], .agg [.lit (.int .u8 114), .lit (.int .i64 0), .lit (.int .u8 3), .lit (.int .i64 0), .lit (.int .i64 0), .lit (.bool true), .lit (.string [114, 101, 116])], .agg [.lit (.int .u8 115), .lit (.int .i64 0), .lit (.int .u8 6), .lit (.int .i64 1), .lit (.int .i64 0), .lit (.bool true), .lit (.string [115, 116, 97, 98, 108, 101, 115, 119, 105, 116, 99, 104])], .agg [.lit (.int .u8 117), .lit (.int .i64 0), .lit (.int .u8 7), .lit (.int .i64 1), .lit (.int .i64 0), .lit (.bool true), .lit (.string [115, 108, 111, 111, 107, 117, 112, 115, 119, 105, 116, 99, 104])], .agg [.lit (.int .u8 119), .lit (.int .i64 0), .lit (.int .u8 0), .lit (.int .i64 1), .lit (.int .i64 0), .lit (.bool true), .lit (.string [97, 114, 101, 116, 117, 114, 110, 32, 115, 114, 101, 116, 117, 114, 110])], .agg [.lit (.int .u8 122), .lit (.int .i64 0), .lit (.int .u8 0), .lit (.int .i64 0), .lit (.int .i64 0), .lit (.bool true), .lit (.string [114, 101, 116, 117, 114, 110])], .agg [.lit (.int .u8 123), .lit (.int .i64 0), .lit (.int .u8 8), .lit (.int .i64 0), .lit (.int .i64 1), .lit (.bool false), .lit (.string [103, 101, 116, 115, 116, 97, 116, 105, 99, 95, 97, 32, 103, 101, 116, 115, 116, 97, 116, 105, 99, 95, 98, 32, 103, 101, 116, 115, 116, 97, 116, 105, 99, 95, 115])], .agg [.lit (.int .u8 127), .lit (.int .i64 0), .lit (.int .u8 8), .lit (.int .i64 1), .lit (.int .i64 0), .lit (.bool false), .lit (.string [112, 117, 116, 115, 116, 97, 116, 105, 99, 95, 97, 32, 112, 117, 116, 115, 116, 97, 116, 105, 99, 95, 98, 32, 112, 117, 116, 115, 116, 97, 116, 105, 99, 95, 115])], .agg [.lit (.int .u8 131), .lit (.int .i64 0), .lit (.int .u8 8), .lit (.int .i64 1), .lit (.int .i64 1), .lit (.bool false), .lit (.string [103, 101, 116, 102, 105, 101, 108, 100, 95, 97, 32, 103, 101, 116, 102, 105, 101, 108, 100, 95, 98, 32, 103, 101, 116, 102, 105, 101, 108, 100, 95, 115])], .agg [.lit (.int .u8 135), .lit (.int .i64 0), .lit (.int .u8 8), .lit (.int .i64 2), .lit (.int .i64 0), .lit (.bool false), .lit (.string [112, 117, 116, 102, 105, 101, 108, 100, 95, 97, 32, 112, 117, 116, 102, 105, 101, 108, 100, 95, 98, 32, 112, 117, 116, 102, 105, 101, 108, 100, 95, 115])], .agg [.lit (.int .u8 139), .lit (.int .i64 0), .lit (.int .u8 8), .lit (.int .i64 0), .lit (.int .i64 0), .lit (.bool false), .lit (.string [105, 110, 118, 111, 107, 101, 118, 105, 114, 116, 117, 97, 108, 32, 105, 110, 118, 111, 107, 101, 115, 112, 101, 99, 105, 97, 108, 32, 105, 110, 118, 111, 107, 101, 115, 116, 97, 116, 105, 99])], .agg [.lit (.int .u8 142), .lit (.int .i64 0), .lit (.int .u8 9), .lit (.int .i64 0), .lit (.int .i64 0), .lit (.bool false), .lit (.string [105, 110, 118, 111, 107, 101, 105, 110, 116, 101, 114, 102, 97, 99, 101])], .agg [.lit (.int .u8 143), .lit (.int .i64 0), .lit (.int .u8 8), .lit (.int .i64 0), .lit (.int .i64 1), .lit (.bool false), .lit (.string [110, 101, 119])], .agg [.lit (.int .u8 144), .lit (.int .i64 0), .lit (.int .u8 10), .lit (.int .i64 1), .lit (.int .i64 1), .lit (.bool false), .lit (.string [110, 101, 119, 97, 114, 114, 97, 121])], .agg [.lit (.int .u8 145), .lit (.int .i64 0), .lit (.int .u8 8), .lit (.int .i64 1), .lit (.int .i64 1), .lit (.bool false), .lit (.string [97, 110, 101, 119, 97, 114, 114, 97, 121])], .agg [.lit (.int .u8 146), .lit (.int .i64 0), .lit (.int .u8 0), .lit (.int .i64 1), .lit (.int .i64 1), .lit (.bool false), .lit (.string [97, 114, 114, 97, 121, 108, 101, 110, 103, 116, 104])], .agg [.lit (.int .u8 147), .lit (.int .i64 0), .lit (.int .u8 0), .lit (.int .i64 1), .lit (.int .i64 0), .lit (.bool true), .lit (.string [97, 116, 104, 114, 111, 119])], .agg [.lit (.int .u8 148), .lit (.int .i64 0), .lit (.int .u8 11), .lit (.int .i64 1), .lit (.int .i64 1), .lit (.bool false), .lit (.string [99, 104, 101, 99, 107, 99, 97, 115, 116, 32, 105, 110, 115, 116, 97, 110, 99, 101, 111, 102])]]
def laid_garderobe_code_errForm {H : Type} : DataW H := .iface "*errors.errorString" (.ptr (.agg [.lit (.string [98, 121, 116, 101, 115, 32, 116, 104, 97, 116, 32, 109, 97, 121, 32, 110, 111, 116, 32, 98, 101])]))

/-- 'garderobelaw06.CodeReads': WHATEVER THE INPUT: true; the input reads as it did. -/
def codeReadsSpec : ChangeSpec := { name := "codeReads", fn := fun _ => fun
  | [d1, d2] => { results := [.lit (.bool true)], args := [d1, d2] }
  | _ => none }
def codeReadsRow : OpenClaim := { program := "ytnigipaebpddfaadoor", sum := "0419d93ff661a6a758b26b90b844ca57c9e84a9d9b1da3e197496bffa3405aac", func := "garderobe/garderobelaw06.CodeReads", spec := "codeReads", inPlace := ["internal/bytealg.CountString", "internal/bytealg.IndexByteString", "internal/bytealg.IndexString", "internal/reflectlite.TypeOf"], unfollowed := true, recurses := true, named := ["garderobe/code.errForm", "garderobe/ops.lower", "garderobe/ops.upper", "internal/bytealg.MaxLen"], apart := false, laid := [("garderobe/ops.lower", laid_garderobe_ops_lower), ("garderobe/ops.upper", laid_garderobe_ops_upper), ("garderobe/code.errForm", laid_garderobe_code_errForm)] }
def CodeReadsSaid : Prop := codeReadsRow.holds Tryd.pinned (OpenSpec.ofChange codeReadsSpec)

/-- ITS FALSE NEIGHBOUR: 'it returns false'. Refute it at one input. -/
def codeReadsWrong : ChangeSpec := { name := "codeReads", fn := fun _ => fun
  | [d1, d2] => { results := [.lit (.bool false)], args := [d1, d2] }
  | _ => none }
def CodeReadsWrongFalsely : Prop := codeReadsRow.holds Tryd.pinned (OpenSpec.ofChange codeReadsWrong)

/-- 'garderobelaw06.CodeBack': WHATEVER THE INPUT: true; the input reads as it did. -/
def codeBackSpec : ChangeSpec := { name := "codeBack", fn := fun _ => fun
  | [d] => { results := [.lit (.bool true)], args := [d] }
  | _ => none }
def codeBackRow : OpenClaim := { program := "ytnigipaebpddfaadoor", sum := "0419d93ff661a6a758b26b90b844ca57c9e84a9d9b1da3e197496bffa3405aac", func := "garderobe/garderobelaw06.CodeBack", spec := "codeBack", inPlace := ["internal/bytealg.CountString", "internal/bytealg.IndexByteString", "internal/bytealg.IndexString", "internal/reflectlite.TypeOf"], unfollowed := true, recurses := true, named := ["garderobe/code.errForm", "garderobe/ops.lower", "garderobe/ops.upper", "internal/bytealg.MaxLen"], apart := false, laid := [("garderobe/ops.lower", laid_garderobe_ops_lower), ("garderobe/ops.upper", laid_garderobe_ops_upper), ("garderobe/code.errForm", laid_garderobe_code_errForm)] }
def CodeBackSaid : Prop := codeBackRow.holds Tryd.pinned (OpenSpec.ofChange codeBackSpec)

/-- ITS FALSE NEIGHBOUR: 'it returns false'. Refute it at one input. -/
def codeBackWrong : ChangeSpec := { name := "codeBack", fn := fun _ => fun
  | [d] => { results := [.lit (.bool false)], args := [d] }
  | _ => none }
def CodeBackWrongFalsely : Prop := codeBackRow.holds Tryd.pinned (OpenSpec.ofChange codeBackWrong)

/-- 'garderobelaw06.CodeCuts': WHATEVER THE INPUT: true; the input reads as it did. -/
def codeCutsSpec : ChangeSpec := { name := "codeCuts", fn := fun _ => fun
  | [d1, d2] => { results := [.lit (.bool true)], args := [d1, d2] }
  | _ => none }
def codeCutsRow : OpenClaim := { program := "ytnigipaebpddfaadoor", sum := "0419d93ff661a6a758b26b90b844ca57c9e84a9d9b1da3e197496bffa3405aac", func := "garderobe/garderobelaw06.CodeCuts", spec := "codeCuts", inPlace := ["internal/bytealg.CountString", "internal/bytealg.IndexByteString", "internal/bytealg.IndexString", "internal/reflectlite.TypeOf"], unfollowed := true, recurses := true, named := ["garderobe/code.errForm", "garderobe/ops.lower", "garderobe/ops.upper", "internal/bytealg.MaxLen"], apart := false, laid := [("garderobe/ops.lower", laid_garderobe_ops_lower), ("garderobe/ops.upper", laid_garderobe_ops_upper), ("garderobe/code.errForm", laid_garderobe_code_errForm)] }
def CodeCutsSaid : Prop := codeCutsRow.holds Tryd.pinned (OpenSpec.ofChange codeCutsSpec)

/-- ITS FALSE NEIGHBOUR: 'it returns false'. Refute it at one input. -/
def codeCutsWrong : ChangeSpec := { name := "codeCuts", fn := fun _ => fun
  | [d1, d2] => { results := [.lit (.bool false)], args := [d1, d2] }
  | _ => none }
def CodeCutsWrongFalsely : Prop := codeCutsRow.holds Tryd.pinned (OpenSpec.ofChange codeCutsWrong)

/-- 'garderobelaw06.CodeJoins': WHATEVER THE INPUT: true; the input reads as it did. -/
def codeJoinsSpec : ChangeSpec := { name := "codeJoins", fn := fun _ => fun
  | [d1, d2] => { results := [.lit (.bool true)], args := [d1, d2] }
  | _ => none }
def codeJoinsRow : OpenClaim := { program := "ytnigipaebpddfaadoor", sum := "0419d93ff661a6a758b26b90b844ca57c9e84a9d9b1da3e197496bffa3405aac", func := "garderobe/garderobelaw06.CodeJoins", spec := "codeJoins", inPlace := ["internal/bytealg.CountString", "internal/bytealg.IndexByteString", "internal/bytealg.IndexString", "internal/reflectlite.TypeOf"], unfollowed := true, recurses := true, named := ["garderobe/code.errForm", "garderobe/ops.lower", "garderobe/ops.upper", "internal/bytealg.MaxLen"], apart := false, laid := [("garderobe/ops.lower", laid_garderobe_ops_lower), ("garderobe/ops.upper", laid_garderobe_ops_upper), ("garderobe/code.errForm", laid_garderobe_code_errForm)] }
def CodeJoinsSaid : Prop := codeJoinsRow.holds Tryd.pinned (OpenSpec.ofChange codeJoinsSpec)

/-- ITS FALSE NEIGHBOUR: 'it returns false'. Refute it at one input. -/
def codeJoinsWrong : ChangeSpec := { name := "codeJoins", fn := fun _ => fun
  | [d1, d2] => { results := [.lit (.bool false)], args := [d1, d2] }
  | _ => none }
def CodeJoinsWrongFalsely : Prop := codeJoinsRow.holds Tryd.pinned (OpenSpec.ofChange codeJoinsWrong)

/-- 'garderobelaw06.CodeFresh': WHATEVER THE INPUT: true; the input reads as it did. -/
def codeFreshSpec : ChangeSpec := { name := "codeFresh", fn := fun _ => fun
  | [d] => { results := [.lit (.bool true)], args := [d] }
  | _ => none }
def codeFreshRow : OpenClaim := { program := "ytnigipaebpddfaadoor", sum := "0419d93ff661a6a758b26b90b844ca57c9e84a9d9b1da3e197496bffa3405aac", func := "garderobe/garderobelaw06.CodeFresh", spec := "codeFresh", inPlace := ["internal/bytealg.CountString", "internal/bytealg.IndexByteString", "internal/bytealg.IndexString", "internal/reflectlite.TypeOf"], unfollowed := true, recurses := true, named := ["garderobe/code.errForm", "garderobe/ops.lower", "garderobe/ops.upper", "internal/bytealg.MaxLen"], apart := false, laid := [("garderobe/ops.lower", laid_garderobe_ops_lower), ("garderobe/ops.upper", laid_garderobe_ops_upper), ("garderobe/code.errForm", laid_garderobe_code_errForm)] }
def CodeFreshSaid : Prop := codeFreshRow.holds Tryd.pinned (OpenSpec.ofChange codeFreshSpec)

/-- ITS FALSE NEIGHBOUR: 'it returns false'. Refute it at one input. -/
def codeFreshWrong : ChangeSpec := { name := "codeFresh", fn := fun _ => fun
  | [d] => { results := [.lit (.bool false)], args := [d] }
  | _ => none }
def CodeFreshWrongFalsely : Prop := codeFreshRow.holds Tryd.pinned (OpenSpec.ofChange codeFreshWrong)

/- THE SECOND FORM. 'bulk': how many values and letters a reading holds, each counted each time it is reached (what is shared counts as often as it is met; a slice's spare places count too). A statement '..UptoSaid' is the law's where the arguments, and the package variables that the reading takes, are together of bulk at most 1048576: NARROWER than '..Said'. Prove '..Said' where nothing that the law and all that it calls make is longer than what came in: it says more and counts as full. Else prove '..UptoSaid'. A law counts once. -/
mutual
def uptoBulk {H : Type} : DataW H → Nat
  | .lit (.string bytes) => bytes.length + 1
  | .lit _ => 1
  | .nil => 1
  | .ptr d => uptoBulk d + 1
  | .slice elems spare => uptoBulkAll elems + uptoBulkAll spare + 1
  | .agg parts => uptoBulkAll parts + 1
  | .iface _ d => uptoBulk d + 1
  | .map entries => uptoBulkEntries entries + 1
  | .held _ => 1
def uptoBulkAll {H : Type} : List (DataW H) → Nat
  | [] => 0
  | d :: r => uptoBulk d + uptoBulkAll r
def uptoBulkEntries {H : Type} : List (Lit × DataW H) → Nat
  | [] => 0
  | x :: r => uptoBulkEntry x + uptoBulkEntries r
def uptoBulkEntry {H : Type} : Lit × DataW H → Nat
  | (.string bytes, d) => bytes.length + uptoBulk d + 1
  | (_, d) => uptoBulk d + 1
 end
def uptoSmall : (H : Type) → List (DataW H) → Bool := fun _ ds => decide (uptoBulkAll ds ≤ 1048576)
def OpenSpec.upto (s : _root_.Go.ChangeSpec) : _root_.Go.OpenSpec := { _root_.Go.OpenSpec.ofChange s with cond := some uptoSmall }

/-- 'garderobelaw06.CodeReads', WHERE WHAT IT READS IS OF BULK AT MOST 1048576: true; the input reads as it did. -/
def codeReadsUptoRow : OpenClaim := { program := "ytnigipaebpddfaadoor", sum := "0419d93ff661a6a758b26b90b844ca57c9e84a9d9b1da3e197496bffa3405aac", func := "garderobe/garderobelaw06.CodeReads", spec := "codeReads", inPlace := ["internal/bytealg.CountString", "internal/bytealg.IndexByteString", "internal/bytealg.IndexString", "internal/reflectlite.TypeOf"], unfollowed := true, recurses := true, named := ["garderobe/code.errForm", "garderobe/ops.lower", "garderobe/ops.upper", "internal/bytealg.MaxLen"], apart := false, laid := [("garderobe/ops.lower", laid_garderobe_ops_lower), ("garderobe/ops.upper", laid_garderobe_ops_upper), ("garderobe/code.errForm", laid_garderobe_code_errForm)], narrowed := true }
def CodeReadsUptoSaid : Prop := codeReadsUptoRow.holds Tryd.pinned (OpenSpec.upto codeReadsSpec)

/-- 'garderobelaw06.CodeBack', WHERE WHAT IT READS IS OF BULK AT MOST 1048576: true; the input reads as it did. -/
def codeBackUptoRow : OpenClaim := { program := "ytnigipaebpddfaadoor", sum := "0419d93ff661a6a758b26b90b844ca57c9e84a9d9b1da3e197496bffa3405aac", func := "garderobe/garderobelaw06.CodeBack", spec := "codeBack", inPlace := ["internal/bytealg.CountString", "internal/bytealg.IndexByteString", "internal/bytealg.IndexString", "internal/reflectlite.TypeOf"], unfollowed := true, recurses := true, named := ["garderobe/code.errForm", "garderobe/ops.lower", "garderobe/ops.upper", "internal/bytealg.MaxLen"], apart := false, laid := [("garderobe/ops.lower", laid_garderobe_ops_lower), ("garderobe/ops.upper", laid_garderobe_ops_upper), ("garderobe/code.errForm", laid_garderobe_code_errForm)], narrowed := true }
def CodeBackUptoSaid : Prop := codeBackUptoRow.holds Tryd.pinned (OpenSpec.upto codeBackSpec)

/-- 'garderobelaw06.CodeCuts', WHERE WHAT IT READS IS OF BULK AT MOST 1048576: true; the input reads as it did. -/
def codeCutsUptoRow : OpenClaim := { program := "ytnigipaebpddfaadoor", sum := "0419d93ff661a6a758b26b90b844ca57c9e84a9d9b1da3e197496bffa3405aac", func := "garderobe/garderobelaw06.CodeCuts", spec := "codeCuts", inPlace := ["internal/bytealg.CountString", "internal/bytealg.IndexByteString", "internal/bytealg.IndexString", "internal/reflectlite.TypeOf"], unfollowed := true, recurses := true, named := ["garderobe/code.errForm", "garderobe/ops.lower", "garderobe/ops.upper", "internal/bytealg.MaxLen"], apart := false, laid := [("garderobe/ops.lower", laid_garderobe_ops_lower), ("garderobe/ops.upper", laid_garderobe_ops_upper), ("garderobe/code.errForm", laid_garderobe_code_errForm)], narrowed := true }
def CodeCutsUptoSaid : Prop := codeCutsUptoRow.holds Tryd.pinned (OpenSpec.upto codeCutsSpec)

/-- 'garderobelaw06.CodeJoins', WHERE WHAT IT READS IS OF BULK AT MOST 1048576: true; the input reads as it did. -/
def codeJoinsUptoRow : OpenClaim := { program := "ytnigipaebpddfaadoor", sum := "0419d93ff661a6a758b26b90b844ca57c9e84a9d9b1da3e197496bffa3405aac", func := "garderobe/garderobelaw06.CodeJoins", spec := "codeJoins", inPlace := ["internal/bytealg.CountString", "internal/bytealg.IndexByteString", "internal/bytealg.IndexString", "internal/reflectlite.TypeOf"], unfollowed := true, recurses := true, named := ["garderobe/code.errForm", "garderobe/ops.lower", "garderobe/ops.upper", "internal/bytealg.MaxLen"], apart := false, laid := [("garderobe/ops.lower", laid_garderobe_ops_lower), ("garderobe/ops.upper", laid_garderobe_ops_upper), ("garderobe/code.errForm", laid_garderobe_code_errForm)], narrowed := true }
def CodeJoinsUptoSaid : Prop := codeJoinsUptoRow.holds Tryd.pinned (OpenSpec.upto codeJoinsSpec)

/-- 'garderobelaw06.CodeFresh', WHERE WHAT IT READS IS OF BULK AT MOST 1048576: true; the input reads as it did. -/
def codeFreshUptoRow : OpenClaim := { program := "ytnigipaebpddfaadoor", sum := "0419d93ff661a6a758b26b90b844ca57c9e84a9d9b1da3e197496bffa3405aac", func := "garderobe/garderobelaw06.CodeFresh", spec := "codeFresh", inPlace := ["internal/bytealg.CountString", "internal/bytealg.IndexByteString", "internal/bytealg.IndexString", "internal/reflectlite.TypeOf"], unfollowed := true, recurses := true, named := ["garderobe/code.errForm", "garderobe/ops.lower", "garderobe/ops.upper", "internal/bytealg.MaxLen"], apart := false, laid := [("garderobe/ops.lower", laid_garderobe_ops_lower), ("garderobe/ops.upper", laid_garderobe_ops_upper), ("garderobe/code.errForm", laid_garderobe_code_errForm)], narrowed := true }
def CodeFreshUptoSaid : Prop := codeFreshUptoRow.holds Tryd.pinned (OpenSpec.upto codeFreshSpec)

end Rows
end Go.Proofs.YtnigipaebpddfaaDoor
