/- The closures of Moved and of the reference's turned, moved and mirrored meshes. -/
import Derived.Test.YtmcebhjcaacbpaaTd
set_option linter.unusedSimpArgs false
set_option linter.unusedVariables false
namespace Go.Proofs.Ytmcebhjcaacbpaa
open Go.RowKit

def addv (b v : V3) : V3 := ⟨wrap64 (v.x + b.x), wrap64 (v.y + b.y), wrap64 (v.z + b.z)⟩

theorem set_turnB0 {w : World} {b : Nat} {v0 v1 v2 u0 u1 : Value} {t : TypeId} (h : w.heap[b]? = some (.cells #[v0, v1, v2] t (0, 0))) :
    ((w.setCell ⟨b, 1, none⟩ u0).setCell ⟨b, 2, none⟩ u1).heap[b]? = some (.cells #[v0, u0, u1] t (0, 0)) := by
  simp [World.setCell, Array.getElem?_modify, h]
theorem set_turnB1 {w : World} {b : Nat} {v0 v1 v2 u0 u1 : Value} {t : TypeId} (h : w.heap[b]? = some (.cells #[v0, v1, v2] t (0, 0))) :
    ((w.setCell ⟨b, 2, none⟩ u0).setCell ⟨b, 0, none⟩ u1).heap[b]? = some (.cells #[u1, v1, u0] t (0, 0)) := by
  simp [World.setCell, Array.getElem?_modify, h]
theorem set_turnB2 {w : World} {b : Nat} {v0 v1 v2 u0 u1 : Value} {t : TypeId} (h : w.heap[b]? = some (.cells #[v0, v1, v2] t (0, 0))) :
    ((w.setCell ⟨b, 0, none⟩ u0).setCell ⟨b, 1, none⟩ u1).heap[b]? = some (.cells #[u0, u1, v2] t (0, 0)) := by
  simp [World.setCell, Array.getElem?_modify, h]
/-- A number, kept near. -/
def short (n : Int) : Int := max (-300000) (min n 300000)
theorem short_in {n : Int} (h : -300000 ≤ n ∧ n ≤ 300000) : short n = n := by unfold short; omega
theorem short_far {n : Int} (h : ¬ (-300000 ≤ n ∧ n ≤ 300000)) : short n = 300000 ∨ short n = -300000 := by unfold short; omega
end Go.Proofs.Ytmcebhjcaacbpaa
