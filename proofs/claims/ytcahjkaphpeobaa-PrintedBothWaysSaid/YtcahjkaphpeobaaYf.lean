/- Visits and orders are checked: the reference. -/
import Derived.Test.YtcahjkaphpeobaaYe
set_option linter.unusedSimpArgs false
set_option linter.unusedVariables false
namespace Go.Proofs.Ytcahjkaphpeobaa
open Go.RowKit

theorem seen_yes {V : Nat → Vis} {k l : Nat} {q : Int} (hk : k < l) (h : (V k).p = q) : seenB V l q = true := by unfold seenB; rw [decide_eq_true_eq]; exact ⟨k, hk, h⟩
theorem seen_no {V : Nat → Vis} {l : Nat} {q : Int} (h : ∀ j, j < l → (V j).p ≠ q) : seenB V l q = false := by unfold seenB; rw [decide_eq_false_iff_not]; rintro ⟨i, h1, h2⟩; exact h i h1 h2
end Go.Proofs.Ytcahjkaphpeobaa
