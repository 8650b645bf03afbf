/- The reference's abs. -/
import Derived.Test.YtjjedffmcloahaaVj
set_option linter.unusedSimpArgs false
set_option linter.unusedVariables false
namespace Go.Proofs.Ytjjedffmcloahaa
open Go.RowKit

def absZ (x : Int) : Int := if x < 0 then -x else x
theorem abs_any (x : Int) (w : World) (h : -1000000000000000000 ≤ x ∧ x ≤ 1000000000000000000) : Calls Try.prog 37 #[.int .i64 x] w fun e w' => e = .returned (.int .i64 (absZ x)) ∧ w = w' := by
  have e1 : IntKind.i64.wrap (-x) = -x := i64w (by omega)
  have e2 : (if -x > x then -x else x) = absZ x := by unfold absZ; split <;> split <;> omega
  go_enter Try.func37, Try.ntmps37
  go_wp2_with (fail)
  go_ret
  exact ⟨rfl, rfl⟩
end Go.Proofs.Ytjjedffmcloahaa
