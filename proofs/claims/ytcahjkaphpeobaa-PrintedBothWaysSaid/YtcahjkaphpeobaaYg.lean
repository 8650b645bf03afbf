/- The reference's VisitFault and OrderFault. -/
import Derived.Test.YtcahjkaphpeobaaYf
import Derived.Test.YtcahjkaphpeobaaTk
set_option linter.unusedSimpArgs false
set_option linter.unusedVariables false
namespace Go.Proofs.Ytcahjkaphpeobaa
open Go.RowKit

theorem undrew {w w' : World} (h : Below w.drew.heap.size w.drew w') : Below w.heap.size w w' := ⟨h.os, h.tape, h.output, h.size, h.block⟩
end Go.Proofs.Ytcahjkaphpeobaa
