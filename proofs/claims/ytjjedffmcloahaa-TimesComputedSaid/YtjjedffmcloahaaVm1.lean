/- Whether a speed can change to another within a leg. -/
import Derived.Test.YtjjedffmcloahaaVj
set_option linter.unusedSimpArgs false
set_option linter.unusedVariables false
namespace Go.Proofs.Ytjjedffmcloahaa
open Go.RowKit

def jnOk (u v g : Int) : Bool := decide (u * u - v * v ≤ g ∧ v * v - u * u ≤ g)
set_option maxRecDepth 100000 in
theorem joins_any (u v l m c : Int) (w : World) (hu : 0 ≤ u ∧ u ≤ 1000000) (hv : 0 ≤ v ∧ v ≤ 1000000) (hc : 1 ≤ c ∧ c ≤ 10000000) (hl : 1 ≤ l ∧ l ≤ 200000) :
    Calls Try.prog 28 #[.int .i64 u, .int .i64 v, .agg #[.int .i64 l, .int .i64 m], .int .i64 c] w fun e w' => e = .returned (.bool (jnOk u v (gainZ c l))) ∧ Below w.heap.size w w' := by
  have hs := bnd_sq (o := v) (by omega) (by omega)
  have hs' := bnd_sq (o := u) (by omega) (by omega)
  have e1 : IntKind.i64.wrap (v * v) = v * v := i64w (by omega)
  have e0 : IntKind.i64.wrap (u * u) = u * u := i64w (by omega)
  have e3 : IntKind.i64.wrap (v * v - u * u) = v * v - u * u := i64w (by omega)
  have e4 : IntKind.i64.wrap (-(v * v - u * u)) = u * u - v * v := by rw [i64w (by omega)]; omega
  have e5 : -(v * v - u * u) = u * u - v * v := by omega
  have e6 : IntKind.i64.wrap (u * u - v * v) = u * u - v * v := i64w (by omega)
  go_enter Try.func28, Try.ntmps28
  have r0 : (w.alloc (.cells #[.int .i64 l, .int .i64 m] 37)).cell? ⟨w.heap.size, 0, none⟩ = some (.int .i64 l) := by simp [go_sem]
  have r1 : (w.alloc (.cells #[.int .i64 l, .int .i64 m] 37)).cell? ⟨w.heap.size, 1, none⟩ = some (.int .i64 m) := by simp [go_sem]
  have B0 := Lib.hid (show Below w.heap.size w (w.alloc (.cells #[.int .i64 l, .int .i64 m] 37)) from (by repeat (first | exact Below.refl _ _ | assumption | refine Below.drew ?_ | refine bdrewN ?_ _ | refine Below.setCell ?_ (by first | omega | (simp <;> omega)) _ | refine Below.alloc ?_ (by first | omega | (simp <;> omega)) _)))
  obtain ⟨d, hd⟩ : ∃ d, (if u * u - v * v > v * v - u * u then u * u - v * v else v * v - u * u) = d := ⟨_, rfl⟩
  have HD := Lib.hid hd
  go_wp2_with (fail)
  generalize (w.alloc (.cells #[.int .i64 l, .int .i64 m] 37)) = w0 at *
  refine (gain_any l m c w0 hc hl).mono ?_
  rintro e w1 ⟨rfl, hb1⟩
  have B1 := Lib.hid (B0.out.trans (hb1.mono B0.out.size))
  clear hb1 B0
  go_wp2_with (fail)
  go_ret
  refine ⟨?_, B1.out⟩
  have key : (d ≤ gainZ c l) ↔ (u * u - v * v ≤ gainZ c l ∧ v * v - u * u ≤ gainZ c l) := by rw [← HD.out]; split <;> omega
  exact congrArg (fun b => Ending.returned (.bool b)) (decide_eq_decide.2 key)
end Go.Proofs.Ytjjedffmcloahaa
