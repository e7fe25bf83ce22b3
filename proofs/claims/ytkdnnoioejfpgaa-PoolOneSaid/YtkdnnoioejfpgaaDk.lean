import Derived.Test.YtkdnnoioejfpgaaDj
set_option linter.unusedVariables false
set_option maxRecDepth 100000
namespace Go.Proofs.Ytkdnnoioejfpgaa
open Go.RowKit
theorem size_le {W w : World} (h : Below W.heap.size W w) : W.heap.size ≤ w.heap.size := h.size
end Go.Proofs.Ytkdnnoioejfpgaa
