/- The places of a turned, a moved, a mirrored mesh. -/
import Derived.Test.YtmcebhjcaacbpaaQt
import Derived.Test.YtmcebhjcaacbpaaHk
set_option linter.unusedSimpArgs false
set_option linter.unusedVariables false
namespace Go.Proofs.Ytmcebhjcaacbpaa
open Go.RowKit

/-- Some quarters of a turn. -/
def qn (a : Int) : Nat → V3 → V3
  | 0, v => v
  | n + 1, v => qv a (qn a n v)
theorem set3_heap {w : World} {b : Nat} {v0 v1 v2 u0 u1 u2 : Value} {t : TypeId} (h : w.heap[b]? = some (.cells #[v0, v1, v2] t (0, 0))) :
    (((w.setCell ⟨b, 0, none⟩ u0).setCell ⟨b, 1, none⟩ u1).setCell ⟨b, 2, none⟩ u2).heap[b]? = some (.cells #[u0, u1, u2] t (0, 0)) := by
  simp [World.setCell, Array.getElem?_modify, h]
theorem set3_other {w : World} {b c : Nat} {u0 u1 u2 : Value} (h : c ≠ b) : (((w.setCell ⟨b, 0, none⟩ u0).setCell ⟨b, 1, none⟩ u1).setCell ⟨b, 2, none⟩ u2).heap[c]? = w.heap[c]? := by
  rw [Below.heap_setCell _ _ _ _ h, Below.heap_setCell _ _ _ _ h, Below.heap_setCell _ _ _ _ h]
theorem lt_heap {w : World} {b : Nat} {o : Obj} (h : w.heap[b]? = some o) : b < w.heap.size :=
  Decidable.byContradiction fun hn => by rw [Array.getElem?_eq_none (by omega)] at h; cases h

end Go.Proofs.Ytmcebhjcaacbpaa
