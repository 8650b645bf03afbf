/- MeshFault and CheckMesh tell the same, of every mesh. -/
import Derived.Test.YtmcebhjcaacbpaaCM
set_option linter.unusedSimpArgs false
set_option linter.unusedVariables false
namespace Go.Proofs.Ytmcebhjcaacbpaa
open Go.RowKit Go.Maps

theorem meshFault_any (av af : Option Addr) (nv cv nf cf : Nat) (V F : Nat → V3) (w : World) (hv : Row3 w av nv V) (hf : Row3 w af nf F) (hnv : nv ≤ 1000000) (hnf : nf ≤ 1000000) :
    Calls Try.prog 15 #[.agg #[.slice av nv cv, .slice af nf cf]] w fun e w' => e = .returned (.int .i64 (fault nv V nf F)) ∧ Below w.heap.size w w' := by
  by_cases h0 : nf = 0
  · exact meshFault_head av af nv cv nf cf V F w hv hnv hnf (.inl h0)
  by_cases h1 : 1000 < nv ∨ 1000 < nf
  · exact meshFault_head av af nv cv nf cf V F w hv hnv hnf (.inr (.inl h1))
  by_cases h2 : first (vErr V) nv = 0
  · exact meshFault_main av af nv cv nf cf V F w hv hf h0 (by omega) (by omega) h2
  · exact meshFault_head av af nv cv nf cf V F w hv hnv hnf (.inr (.inr h2))

set_option maxHeartbeats 1000000 in
theorem checkMesh_any (av af : Option Addr) (nv cv nf cf : Nat) (V F : Nat → V3) (w : World) (hv : Row3 w av nv V) (hf : Row3 w af nf F) (hnv : nv ≤ 1000000) (hnf : nf ≤ 1000000) :
    Calls Try.prog 17 #[.agg #[.slice av nv cv, .slice af nf cf]] w fun e w' => e = .returned (.int .i64 (fault nv V nf F)) ∧ Below w.heap.size w w' := by
  by_cases h0 : nf = 0
  · subst h0
    go_enter Try.func17, Try.ntmps17
    go_wp2
    go_ret
    exact ⟨rfl, (by repeat (first | exact Below.refl _ _ | assumption | refine Below.drew ?_ | refine bdrewN ?_ _ | refine Below.setCell ?_ (by first | omega | (simp <;> omega)) _ | refine Below.alloc ?_ (by first | omega | (simp <;> omega)) _))⟩
  have e0 : ((nf : Int) == 0) = false := by simp; omega
  by_cases h1 : 1000 < nv
  · have HF := Lib.hid (show fault nv V nf F = 2 by simp [fault, h0, h1])
    go_enter Try.func17, Try.ntmps17
    go_wp2
    go_ret
    exact ⟨ret_int HF.out.symm, (by repeat (first | exact Below.refl _ _ | assumption | refine Below.drew ?_ | refine bdrewN ?_ _ | refine Below.setCell ?_ (by first | omega | (simp <;> omega)) _ | refine Below.alloc ?_ (by first | omega | (simp <;> omega)) _))⟩
  have d1 : decide (1000 < nv) = false := by simpa using h1
  by_cases h2 : 1000 < nf
  · have HF := Lib.hid (show fault nv V nf F = 2 by simp [fault, h0, h2])
    go_enter Try.func17, Try.ntmps17
    go_wp2
    go_ret
    exact ⟨ret_int HF.out.symm, (by repeat (first | exact Below.refl _ _ | assumption | refine Below.drew ?_ | refine bdrewN ?_ _ | refine Below.setCell ?_ (by first | omega | (simp <;> omega)) _ | refine Below.alloc ?_ (by first | omega | (simp <;> omega)) _))⟩
  exact checkMesh_sides av af nv cv nf cf V F w hv hf h0 (by omega) (by omega)
end Go.Proofs.Ytmcebhjcaacbpaa
