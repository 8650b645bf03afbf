/- The law's own check of its pyramid: true. -/
import Derived.Test.YtmcebhjcaacbpaaOpen
set_option linter.unusedSimpArgs false
set_option linter.unusedVariables false
namespace Go.Proofs.Ytmcebhjcaacbpaa
open Go.RowKit Go.Maps

def pyV (i : Nat) : V3 := if i = 1 then ⟨6, 0, 0⟩ else if i = 2 then ⟨0, 6, 0⟩ else if i = 3 then ⟨0, 0, 6⟩ else ⟨0, 0, 0⟩
def pyF (i : Nat) : V3 := if i = 0 then ⟨0, 2, 1⟩ else if i = 1 then ⟨0, 1, 3⟩ else if i = 2 then ⟨1, 2, 3⟩ else ⟨0, 3, 2⟩

theorem py_fault : fault 4 pyV 4 pyF = 0 := by decide +kernel
theorem py_small : Sml 4 pyF := by
  intro i hi
  match i, hi with
  | 0, _ => decide
  | 1, _ => decide
  | 2, _ => decide
  | 3, _ => decide
theorem py_fix : ∀ i, i < 4 → fIx 4 (pyF i) = true := by decide +kernel
theorem py_closed : Closed 4 pyF := by unfold Closed; decide +kernel
theorem py_vol : volS pyV pyF 4 = 216 := by decide +kernel

def PyrPost (w : World) (e : Ending) (w' : World) : Prop :=
  ∃ b1 b2, e = .returned (.agg #[.slice (some ⟨b1, 0, none⟩) 4 4, .slice (some ⟨b2, 0, none⟩) 4 4]) ∧ b1 < w'.heap.size ∧ b2 < w'.heap.size ∧ Tri w' b1 0 4 pyV ∧ Tri w' b2 0 4 pyF ∧ Below w.heap.size w w'

end Go.Proofs.Ytmcebhjcaacbpaa
