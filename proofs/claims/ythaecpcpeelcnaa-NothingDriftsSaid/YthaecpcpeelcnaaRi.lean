/- The regions' own small check. -/
import Derived.Test.YthaecpcpeelcnaaRh
set_option linter.unusedSimpArgs false
set_option linter.unusedVariables false
namespace Go.Proofs.Ythaecpcpeelcnaa
open Go.RowKit

def QB : Obj := .cells #[.int .i64 0, .int .i64 0, .int .i64 4, .int .i64 0, .int .i64 4, .int .i64 4, .int .i64 0, .int .i64 4] 49
/-- The area of a list with this ring alone, which lies in the two last blocks. -/
theorem area_square (w : World) (g1 g2 : Nat) (h1 : g1 = w.heap.size) (h2 : g2 = w.heap.size + 1) (c : Nat) :
    Calls Try.prog 21 #[.slice (some ⟨g2, 0, none⟩) 1 c] ((w.alloc QB).alloc (.cells #[.slice (some ⟨g1, 0, none⟩) 4 4] 51)) fun e w' => e = .returned (.tuple #[.int .i64 32, .int .i64 0]) ∧ Below w.heap.size w w' := by
  subst h1 h2
  have hA : ((w.alloc QB).alloc (.cells #[.slice (some ⟨w.heap.size, 0, none⟩) 4 4] 51)).heap[w.heap.size]? = some (.cells #[.int .i64 0, .int .i64 0, .int .i64 4, .int .i64 0, .int .i64 4, .int .i64 4, .int .i64 0, .int .i64 4] 49 (0, 0)) := by
    rw [Below.heap_alloc _ _ _ (by simp)]
    exact heap_new rfl
  refine (area_one (w.heap.size + 1) 0 w.heap.size 0 4 4 c qX qY _ (by simp) (by simp [go_sem]) (by simp; omega) (q_du hA) (by omega) (by omega) q_in q_far q_no 32 q_area (by omega)).mono ?_
  rintro e w' ⟨rfl, hb⟩
  exact ⟨rfl, Below.trans (((Below.refl _ w).alloc (Nat.le_refl _) _).alloc (by simp) _) (hb.mono (by simp; omega))⟩
end Go.Proofs.Ythaecpcpeelcnaa
