/- ASlope: one of ten fractions. -/
import Derived.Test.YtmcebhjcaacbpaaSm
set_option linter.unusedSimpArgs false
set_option linter.unusedVariables false
namespace Go.Proofs.Ytmcebhjcaacbpaa
open Go.RowKit

def Slp (num den : Int) : Prop := (-9223372036854775808 ≤ num ∧ num ≤ 1001) ∧ (0 ≤ den ∧ den ≤ 1001)
theorem tab4 {w w1 : World} {B : Nat} {T : TypeId} {r : Int} (hm : Mut (· = B) (w.alloc (.cells #[.int .i64 0, .int .i64 1, .int .i64 1, .int .i64 2, .int .i64 1, .int .i64 1, .int .i64 3, .int .i64 2] T)) w1) (hB : B < w.heap.size) (h0 : 0 ≤ r) (h1 : r < 4) :
    ∃ x y, w1.cell? ⟨w.heap.size, r.toNat * 2, none⟩ = some (.int .i64 x) ∧ w1.cell? ⟨w.heap.size, r.toNat * 2 + 1, none⟩ = some (.int .i64 y) ∧ Slp x y := by
  rw [hm.cell (by simp) (by simp; omega), hm.cell (by simp) (by simp; omega)]
  have : r = 0 ∨ r = 1 ∨ r = 2 ∨ r = 3 := by omega
  rcases this with rfl | rfl | rfl | rfl
  all_goals exact ⟨_, _, by simp [go_sem]; rfl, by simp [go_sem]; rfl, by unfold Slp; omega⟩
theorem tab6 {w w1 : World} {B : Nat} {T : TypeId} {r : Int} (hm : Mut (· = B) (w.alloc (.cells #[.int .i64 2, .int .i64 4, .int .i64 1, .int .i64 0, .int .i64 (-1), .int .i64 2, .int .i64 1001, .int .i64 1, .int .i64 1, .int .i64 1001, .int .i64 (-9223372036854775808), .int .i64 3] T)) w1) (hB : B < w.heap.size) (h0 : 0 ≤ r) (h1 : r < 6) :
    ∃ x y, w1.cell? ⟨w.heap.size, r.toNat * 2, none⟩ = some (.int .i64 x) ∧ w1.cell? ⟨w.heap.size, r.toNat * 2 + 1, none⟩ = some (.int .i64 y) ∧ Slp x y := by
  rw [hm.cell (by simp) (by simp; omega), hm.cell (by simp) (by simp; omega)]
  have : r = 0 ∨ r = 1 ∨ r = 2 ∨ r = 3 ∨ r = 4 ∨ r = 5 := by omega
  rcases this with rfl | rfl | rfl | rfl | rfl | rfl
  all_goals exact ⟨_, _, by simp [go_sem]; rfl, by simp [go_sem]; rfl, by unfold Slp; omega⟩
theorem fin_mut {w w' : World} {B : Nat} {x y : Int} (h : Mut (· = B) w w') (hB : B < w.heap.size) : Mut (· = B) w ((w'.setCell ⟨w.heap.size, 0, none⟩ (.int .i64 x)).setCell ⟨w.heap.size, 1, none⟩ (.int .i64 y)) :=
  (((h.mono (S' := fun b => b = B ∨ b = w.heap.size) (fun _ _ h => .inl h)).setCell (fun _ => .inr rfl) _).setCell (fun _ => .inr rfl) _).mono (fun b hb h => by have := hB; omega)
theorem fin_strm {w w' : World} {B k : Nat} {x y : Int} (h : Strm w' B k) (hB : B < w.heap.size) : Strm ((w'.setCell ⟨w.heap.size, 0, none⟩ (.int .i64 x)).setCell ⟨w.heap.size, 1, none⟩ (.int .i64 y)) B k :=
  h.kept (S := (· = w.heap.size)) (((Mut.refl (· = w.heap.size) w').setCell (p := ⟨w.heap.size, 0, none⟩) (fun _ => rfl) _).setCell (p := ⟨w.heap.size, 1, none⟩) (fun _ => rfl) _) (by intro x hx; have := hB; omega)
end Go.Proofs.Ytmcebhjcaacbpaa
