/- Quarters of turns, mirrors, shortened numbers. -/
import Derived.Test.YtbkipjceglpmcaaVec
set_option linter.unusedSimpArgs false
set_option linter.unusedVariables false
namespace Go.Proofs.Ytbkipjceglpmcaa
open Go.RowKit

/-- A quarter of a turn about an axis; a mirror along one. -/
def qv (axis : Int) (v : V3) : V3 := if axis = 0 then ⟨v.x, wrap64 (-v.z), v.y⟩ else if axis = 1 then ⟨v.z, v.y, wrap64 (-v.x)⟩ else ⟨wrap64 (-v.y), v.x, v.z⟩
def mv (axis : Int) (v : V3) : V3 := if axis = 0 then ⟨wrap64 (-v.x), v.y, v.z⟩ else if axis = 1 then ⟨v.x, wrap64 (-v.y), v.z⟩ else ⟨v.x, v.y, wrap64 (-v.z)⟩
def vagg (v : V3) : Value := .agg #[.int .i64 v.x, .int .i64 v.y, .int .i64 v.z]
theorem q1_any (x y z : Int) (w : World) : Calls Try.prog 96 #[.agg #[.int .i64 x, .int .i64 y, .int .i64 z]] w fun e w' => e = .returned (.agg #[.int .i64 x, .int .i64 (wrap64 (-z)), .int .i64 y]) ∧ Below w.heap.size w w' := by
  go_enter Try.func96, Try.ntmps96
  go_wp2
  exact bodyPost_ret (v := .agg #[.int .i64 x, .int .i64 (wrap64 (-z)), .int .i64 y]) (by simp [results, Try.results96, go_sem]) rfl ⟨rfl, (by repeat (first | exact Below.refl _ _ | assumption | refine Below.drew ?_ | refine bdrewN ?_ _ | refine Below.setCell ?_ (by first | omega | (simp <;> omega)) _ | refine Below.alloc ?_ (by first | omega | (simp <;> omega)) _))⟩
theorem q2_any (x y z : Int) (w : World) : Calls Try.prog 97 #[.agg #[.int .i64 x, .int .i64 y, .int .i64 z]] w fun e w' => e = .returned (.agg #[.int .i64 z, .int .i64 y, .int .i64 (wrap64 (-x))]) ∧ Below w.heap.size w w' := by
  go_enter Try.func97, Try.ntmps97
  go_wp2
  exact bodyPost_ret (v := .agg #[.int .i64 z, .int .i64 y, .int .i64 (wrap64 (-x))]) (by simp [results, Try.results97, go_sem]) rfl ⟨rfl, (by repeat (first | exact Below.refl _ _ | assumption | refine Below.drew ?_ | refine bdrewN ?_ _ | refine Below.setCell ?_ (by first | omega | (simp <;> omega)) _ | refine Below.alloc ?_ (by first | omega | (simp <;> omega)) _))⟩
theorem q3_any (x y z : Int) (w : World) : Calls Try.prog 98 #[.agg #[.int .i64 x, .int .i64 y, .int .i64 z]] w fun e w' => e = .returned (.agg #[.int .i64 (wrap64 (-y)), .int .i64 x, .int .i64 z]) ∧ Below w.heap.size w w' := by
  go_enter Try.func98, Try.ntmps98
  go_wp2
  exact bodyPost_ret (v := .agg #[.int .i64 (wrap64 (-y)), .int .i64 x, .int .i64 z]) (by simp [results, Try.results98, go_sem]) rfl ⟨rfl, (by repeat (first | exact Below.refl _ _ | assumption | refine Below.drew ?_ | refine bdrewN ?_ _ | refine Below.setCell ?_ (by first | omega | (simp <;> omega)) _ | refine Below.alloc ?_ (by first | omega | (simp <;> omega)) _))⟩
theorem m1_any (x y z : Int) (w : World) : Calls Try.prog 99 #[.agg #[.int .i64 x, .int .i64 y, .int .i64 z]] w fun e w' => e = .returned (.agg #[.int .i64 (wrap64 (-x)), .int .i64 y, .int .i64 z]) ∧ Below w.heap.size w w' := by
  go_enter Try.func99, Try.ntmps99
  go_wp2
  exact bodyPost_ret (v := .agg #[.int .i64 (wrap64 (-x)), .int .i64 y, .int .i64 z]) (by simp [results, Try.results99, go_sem]) rfl ⟨rfl, (by repeat (first | exact Below.refl _ _ | assumption | refine Below.drew ?_ | refine bdrewN ?_ _ | refine Below.setCell ?_ (by first | omega | (simp <;> omega)) _ | refine Below.alloc ?_ (by first | omega | (simp <;> omega)) _))⟩
theorem m2_any (x y z : Int) (w : World) : Calls Try.prog 100 #[.agg #[.int .i64 x, .int .i64 y, .int .i64 z]] w fun e w' => e = .returned (.agg #[.int .i64 x, .int .i64 (wrap64 (-y)), .int .i64 z]) ∧ Below w.heap.size w w' := by
  go_enter Try.func100, Try.ntmps100
  go_wp2
  exact bodyPost_ret (v := .agg #[.int .i64 x, .int .i64 (wrap64 (-y)), .int .i64 z]) (by simp [results, Try.results100, go_sem]) rfl ⟨rfl, (by repeat (first | exact Below.refl _ _ | assumption | refine Below.drew ?_ | refine bdrewN ?_ _ | refine Below.setCell ?_ (by first | omega | (simp <;> omega)) _ | refine Below.alloc ?_ (by first | omega | (simp <;> omega)) _))⟩
theorem m3_any (x y z : Int) (w : World) : Calls Try.prog 101 #[.agg #[.int .i64 x, .int .i64 y, .int .i64 z]] w fun e w' => e = .returned (.agg #[.int .i64 x, .int .i64 y, .int .i64 (wrap64 (-z))]) ∧ Below w.heap.size w w' := by
  go_enter Try.func101, Try.ntmps101
  go_wp2
  exact bodyPost_ret (v := .agg #[.int .i64 x, .int .i64 y, .int .i64 (wrap64 (-z))]) (by simp [results, Try.results101, go_sem]) rfl ⟨rfl, (by repeat (first | exact Below.refl _ _ | assumption | refine Below.drew ?_ | refine bdrewN ?_ _ | refine Below.setCell ?_ (by first | omega | (simp <;> omega)) _ | refine Below.alloc ?_ (by first | omega | (simp <;> omega)) _))⟩
def axisE (a : Int) : Int := if 0 ≤ a ∧ a ≤ 2 then 0 else 4
theorem axisFault_any (a : Int) (w : World) : Calls Try.prog 13 #[.int .i64 a] w fun e w' => e = .returned (.int .i64 (axisE a)) ∧ w = w' := by
  rcases h : inB a 0 2 with _ | _
  all_goals
    have H := Lib.hid h
    go_enter Try.func13, Try.ntmps13
    go_wp2_with (go_at_call 44; refine (in_any _ _ _ _).mono ?_; rintro e w' ⟨rfl, rfl⟩; rw [H.out])
    go_ret
    exact ⟨ret_int (by have := H.out; simp [inB] at this; unfold axisE; first | rw [if_pos this] | rw [if_neg (by omega)]), rfl⟩

/-! The functions of the axes: nil if there is no such axis. -/
theorem qat0 (w : World) : Calls Try.prog 49 #[.int .i64 0] w fun e w' => e = .returned (.func (.func 96) #[] #[]) ∧ w = w' := by
  go_enter Try.func49, Try.ntmps49
  go_wp2
  go_ret
  exact ⟨rfl, rfl⟩
theorem qat1 (w : World) : Calls Try.prog 49 #[.int .i64 1] w fun e w' => e = .returned (.func (.func 97) #[] #[]) ∧ w = w' := by
  go_enter Try.func49, Try.ntmps49
  go_wp2
  go_ret
  exact ⟨rfl, rfl⟩
theorem qat2 (w : World) : Calls Try.prog 49 #[.int .i64 2] w fun e w' => e = .returned (.func (.func 98) #[] #[]) ∧ w = w' := by
  go_enter Try.func49, Try.ntmps49
  go_wp2
  go_ret
  exact ⟨rfl, rfl⟩
theorem qnone (a : Int) (w : World) (h : ¬ (0 ≤ a ∧ a ≤ 2)) : Calls Try.prog 49 #[.int .i64 a] w fun e w' => e = .returned .nilFunc ∧ w = w' := by
  have e0 : (a == 0) = false := by simp; omega
  have e1 : (a == 1) = false := by simp; omega
  have e2 : (a == 2) = false := by simp; omega
  go_enter Try.func49, Try.ntmps49
  go_wp2
  go_ret
  exact ⟨rfl, rfl⟩
theorem mat0 (w : World) : Calls Try.prog 55 #[.int .i64 0] w fun e w' => e = .returned (.func (.func 99) #[] #[]) ∧ w = w' := by
  go_enter Try.func55, Try.ntmps55
  go_wp2
  go_ret
  exact ⟨rfl, rfl⟩
theorem mat1 (w : World) : Calls Try.prog 55 #[.int .i64 1] w fun e w' => e = .returned (.func (.func 100) #[] #[]) ∧ w = w' := by
  go_enter Try.func55, Try.ntmps55
  go_wp2
  go_ret
  exact ⟨rfl, rfl⟩
theorem mat2 (w : World) : Calls Try.prog 55 #[.int .i64 2] w fun e w' => e = .returned (.func (.func 101) #[] #[]) ∧ w = w' := by
  go_enter Try.func55, Try.ntmps55
  go_wp2
  go_ret
  exact ⟨rfl, rfl⟩
theorem mnone (a : Int) (w : World) (h : ¬ (0 ≤ a ∧ a ≤ 2)) : Calls Try.prog 55 #[.int .i64 a] w fun e w' => e = .returned .nilFunc ∧ w = w' := by
  have e0 : (a == 0) = false := by simp; omega
  have e1 : (a == 1) = false := by simp; omega
  have e2 : (a == 2) = false := by simp; omega
  go_enter Try.func55, Try.ntmps55
  go_wp2
  go_ret
  exact ⟨rfl, rfl⟩
end Go.Proofs.Ytbkipjceglpmcaa
