/- A block that is kept. -/
import Derived.Test.YtpgpjoghfpfhlaaMk2
set_option linter.unusedSimpArgs false
set_option linter.unusedVariables false
namespace Go.Proofs.Ytpgpjoghfpfhlaa
open Go.RowKit

theorem heap_keep {w w' : World} {b : Nat} {o : Obj} (hb : Below w.heap.size w w') (h : w.heap[b]? = some o) : w'.heap[b]? = some o :=
  (hb.block b (Decidable.byContradiction fun hn => by rw [Array.getElem?_eq_none (by omega)] at h; cases h)).trans h
end Go.Proofs.Ytpgpjoghfpfhlaa
