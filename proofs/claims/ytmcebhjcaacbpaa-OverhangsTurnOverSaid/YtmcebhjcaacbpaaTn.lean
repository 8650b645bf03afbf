/- Turned, Moved and Mirrored. -/
import Derived.Test.YtmcebhjcaacbpaaMd
import Derived.StillTailTactics
import Derived.Laws.EntriesVeiled
set_option linter.unusedSimpArgs false
set_option linter.unusedVariables false
namespace Go.Proofs.Ytmcebhjcaacbpaa
open Go.RowKit

theorem eq_nil (w : World) : (Go.binOp .eql 57 .nilFunc .nilFunc).run Try.prog w = Result.ok (.bool true) w := by kernel_rfl
theorem eq_m1 (w : World) : (Go.binOp .eql 57 (.func (.func 54) #[] #[]) .nilFunc).run Try.prog w = Result.ok (.bool false) w := by kernel_rfl
theorem eq_m2 (w : World) : (Go.binOp .eql 57 (.func (.func 55) #[] #[]) .nilFunc).run Try.prog w = Result.ok (.bool false) w := by kernel_rfl
theorem eq_m3 (w : World) : (Go.binOp .eql 57 (.func (.func 56) #[] #[]) .nilFunc).run Try.prog w = Result.ok (.bool false) w := by kernel_rfl

end Go.Proofs.Ytmcebhjcaacbpaa
