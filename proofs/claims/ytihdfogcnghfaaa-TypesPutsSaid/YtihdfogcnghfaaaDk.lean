import Derived.Test.YtihdfogcnghfaaaDj
set_option linter.unusedVariables false
namespace Go.Proofs.Ytihdfogcnghfaaa
open Go.RowKit
theorem size_le {W w : World} (h : Below W.heap.size W w) : W.heap.size ≤ w.heap.size := h.size
end Go.Proofs.Ytihdfogcnghfaaa
