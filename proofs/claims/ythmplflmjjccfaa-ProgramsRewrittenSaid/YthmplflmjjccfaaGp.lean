/- What a program does, told by the reference. -/
import Derived.Test.YthmplflmjjccfaaGo
set_option linter.unusedSimpArgs false
set_option linter.unusedVariables false
namespace Go.Proofs.Ythmplflmjjccfaa
open Go.RowKit
theorem mo_same {S T : Nat → St} {n m : Nat} : (decide ((mo S n).1 = (mo T m).1) && ((mo S n).2 == (mo T m).2)) = decide (syL S n = syL T m) := by
  rw [Bool.eq_iff_iff, Bool.and_eq_true, decide_eq_true_eq, beq_iff_eq, decide_eq_true_eq]
  exact syL_inj.symm
end Go.Proofs.Ythmplflmjjccfaa
