/- Quarters of turns, mirrors, shortened numbers. -/
import Derived.Test.YtmcebhjcaacbpaaVec
set_option linter.unusedSimpArgs false
set_option linter.unusedVariables false
namespace Go.Proofs.Ytmcebhjcaacbpaa
open Go.RowKit

/-- A quarter of a turn about an axis; a mirror along one. -/
def qv (axis : Int) (v : V3) : V3 := if axis = 0 then ⟨v.x, wrap64 (-v.z), v.y⟩ else if axis = 1 then ⟨v.z, v.y, wrap64 (-v.x)⟩ else ⟨wrap64 (-v.y), v.x, v.z⟩
def mv (axis : Int) (v : V3) : V3 := if axis = 0 then ⟨wrap64 (-v.x), v.y, v.z⟩ else if axis = 1 then ⟨v.x, wrap64 (-v.y), v.z⟩ else ⟨v.x, v.y, wrap64 (-v.z)⟩
def vagg (v : V3) : Value := .agg #[.int .i64 v.x, .int .i64 v.y, .int .i64 v.z]
theorem m1_any (x y z : Int) (w : World) : Calls Try.prog 54 #[.agg #[.int .i64 x, .int .i64 y, .int .i64 z]] w fun e w' => e = .returned (.agg #[.int .i64 (wrap64 (-x)), .int .i64 y, .int .i64 z]) ∧ Below w.heap.size w w' := by
  go_enter Try.func54, Try.ntmps54
  go_wp2
  exact bodyPost_ret (v := .agg #[.int .i64 (wrap64 (-x)), .int .i64 y, .int .i64 z]) (by simp [results, Try.results54, go_sem]) rfl ⟨rfl, (by repeat (first | exact Below.refl _ _ | assumption | refine Below.drew ?_ | refine bdrewN ?_ _ | refine Below.setCell ?_ (by first | omega | (simp <;> omega)) _ | refine Below.alloc ?_ (by first | omega | (simp <;> omega)) _))⟩
theorem m2_any (x y z : Int) (w : World) : Calls Try.prog 55 #[.agg #[.int .i64 x, .int .i64 y, .int .i64 z]] w fun e w' => e = .returned (.agg #[.int .i64 x, .int .i64 (wrap64 (-y)), .int .i64 z]) ∧ Below w.heap.size w w' := by
  go_enter Try.func55, Try.ntmps55
  go_wp2
  exact bodyPost_ret (v := .agg #[.int .i64 x, .int .i64 (wrap64 (-y)), .int .i64 z]) (by simp [results, Try.results55, go_sem]) rfl ⟨rfl, (by repeat (first | exact Below.refl _ _ | assumption | refine Below.drew ?_ | refine bdrewN ?_ _ | refine Below.setCell ?_ (by first | omega | (simp <;> omega)) _ | refine Below.alloc ?_ (by first | omega | (simp <;> omega)) _))⟩
theorem m3_any (x y z : Int) (w : World) : Calls Try.prog 56 #[.agg #[.int .i64 x, .int .i64 y, .int .i64 z]] w fun e w' => e = .returned (.agg #[.int .i64 x, .int .i64 y, .int .i64 (wrap64 (-z))]) ∧ Below w.heap.size w w' := by
  go_enter Try.func56, Try.ntmps56
  go_wp2
  exact bodyPost_ret (v := .agg #[.int .i64 x, .int .i64 y, .int .i64 (wrap64 (-z))]) (by simp [results, Try.results56, go_sem]) rfl ⟨rfl, (by repeat (first | exact Below.refl _ _ | assumption | refine Below.drew ?_ | refine bdrewN ?_ _ | refine Below.setCell ?_ (by first | omega | (simp <;> omega)) _ | refine Below.alloc ?_ (by first | omega | (simp <;> omega)) _))⟩
def axisE (a : Int) : Int := if 0 ≤ a ∧ a ≤ 2 then 0 else 4
/-! The functions of the axes: nil if there is no such axis. -/
theorem mat0 (w : World) : Calls Try.prog 22 #[.int .i64 0] w fun e w' => e = .returned (.func (.func 54) #[] #[]) ∧ w = w' := by
  go_enter Try.func22, Try.ntmps22
  go_wp2
  go_ret
  exact ⟨rfl, rfl⟩
theorem mat1 (w : World) : Calls Try.prog 22 #[.int .i64 1] w fun e w' => e = .returned (.func (.func 55) #[] #[]) ∧ w = w' := by
  go_enter Try.func22, Try.ntmps22
  go_wp2
  go_ret
  exact ⟨rfl, rfl⟩
theorem mat2 (w : World) : Calls Try.prog 22 #[.int .i64 2] w fun e w' => e = .returned (.func (.func 56) #[] #[]) ∧ w = w' := by
  go_enter Try.func22, Try.ntmps22
  go_wp2
  go_ret
  exact ⟨rfl, rfl⟩
theorem mnone (a : Int) (w : World) (h : ¬ (0 ≤ a ∧ a ≤ 2)) : Calls Try.prog 22 #[.int .i64 a] w fun e w' => e = .returned .nilFunc ∧ w = w' := by
  have e0 : (a == 0) = false := by simp; omega
  have e1 : (a == 1) = false := by simp; omega
  have e2 : (a == 2) = false := by simp; omega
  go_enter Try.func22, Try.ntmps22
  go_wp2
  go_ret
  exact ⟨rfl, rfl⟩
end Go.Proofs.Ytmcebhjcaacbpaa
