import Derived.Test.YtkdnnoioejfpgaaKh
import Derived.Test.YtkdnnoioejfpgaaKl
import Derived.Test.YtkdnnoioejfpgaaKm
import Derived.Test.YtkdnnoioejfpgaaKn
set_option linter.unusedVariables false
namespace Go.Proofs.Ytkdnnoioejfpgaa
theorem i64_wf {a : Int} (h : (Lit.int .i64 a).wf = true) : -9223372036854775808 ≤ a ∧ a ≤ 9223372036854775807 := by simpa [Lit.wf, IntKind.min, IntKind.max, IntKind.signed, IntKind.bits] using h
end Go.Proofs.Ytkdnnoioejfpgaa
