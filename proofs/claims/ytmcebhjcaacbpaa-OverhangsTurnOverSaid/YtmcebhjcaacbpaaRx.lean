/- The rows of a drawn mesh, carried on. -/
import Derived.Test.YtmcebhjcaacbpaaAmesh
import Derived.Test.YtmcebhjcaacbpaaCM2
set_option linter.unusedSimpArgs false
set_option linter.unusedVariables false
namespace Go.Proofs.Ytmcebhjcaacbpaa
open Go.RowKit

theorem RowX.row3 {w : World} {B : Nat} {a : Option Addr} {n : Nat} {V : Nat → V3} (h : RowX w B a n V) : Row3 w a n V := by
  rcases h with h | ⟨b, off, h1, _, h2, h3⟩
  · exact .inl h
  · exact .inr ⟨b, off, h1, h2, h3⟩
theorem RowX.mut {w w' : World} {B : Nat} {a : Option Addr} {n : Nat} {V : Nat → V3} (h : RowX w B a n V) (hm : Mut (· = B) w w') (_ : B < w.heap.size) : RowX w' B a n V := by
  rcases h with h | ⟨b, off, h1, h2, h3, h4⟩
  · exact .inl h
  · refine .inr ⟨b, off, h1, h2, Nat.lt_of_lt_of_le h3 hm.size, fun i hi => ?_⟩
    obtain ⟨c0, c1, c2⟩ := h4 i hi
    have e := fun o => hm.cell (p := ⟨b, o, none⟩) h3 (by simp; omega)
    exact ⟨(e _).trans c0, (e _).trans c1, (e _).trans c2⟩
end Go.Proofs.Ytmcebhjcaacbpaa
