/- A ring that doesn't meet itself. -/
import Derived.Test.YthaecpcpeelcnaaRd
import Derived.Test.YthaecpcpeelcnaaRb
import Derived.Deep.QuietTactic
import Derived.BigQuiet
set_option linter.unusedSimpArgs false
set_option linter.unusedVariables false
namespace Go.Proofs.Ythaecpcpeelcnaa
open Go.RowKit

/-- Sides in a block. -/
def Qu (w : World) (g n : Nat) (X Y : Nat → Int) : Prop :=
  ∀ i, i < n → (w.cell? ⟨g, i * 4, none⟩ = some (.int .i64 (X i)) ∧ w.cell? ⟨g, i * 4 + 1, none⟩ = some (.int .i64 (Y i)) ∧ w.cell? ⟨g, i * 4 + 2, none⟩ = some (.int .i64 (X (nx n i))) ∧ w.cell? ⟨g, i * 4 + 3, none⟩ = some (.int .i64 (Y (nx n i))))
theorem Qu.kept {w w' : World} {g n : Nat} {X Y : Nat → Int} (h : Qu w g n X Y) (hb : Below w.heap.size w w') (hl : g < w.heap.size) : Qu w' g n X Y :=
  fun i hi => ⟨cellk hb hl (h i hi).1, cellk hb hl (h i hi).2.1, cellk hb hl (h i hi).2.2.1, cellk hb hl (h i hi).2.2.2⟩
theorem cells4_get (n : Nat) (X Y : Nat → Int) : ∀ m i, i < m → (cells4 n X Y m)[i * 4]? = some (.int .i64 (X i)) ∧ (cells4 n X Y m)[i * 4 + 1]? = some (.int .i64 (Y i)) ∧ (cells4 n X Y m)[i * 4 + 2]? = some (.int .i64 (X (nx n i))) ∧ (cells4 n X Y m)[i * 4 + 3]? = some (.int .i64 (Y (nx n i)))
  | 0, i, h => by omega
  | m + 1, i, h => by
    have hl := cells4_length n X Y m
    by_cases e : i = m
    · subst e
      simp only [cells4]
      refine ⟨?_, ?_, ?_, ?_⟩ <;> rw [List.getElem?_append_right (by omega)] <;> simp [hl]
    · obtain ⟨h0, h1, h2, h3⟩ := cells4_get n X Y m i (by omega)
      simp only [cells4]
      refine ⟨?_, ?_, ?_, ?_⟩ <;> rw [List.getElem?_append_left (by omega)] <;> assumption
theorem own_qu {w : World} {base n c : Nat} {a : Option Addr} {X Y : Nat → Int} (h : w.ownsRow base 94 4 (.slice a n c) n (cells4 n X Y n)) (hn : n ≠ 0) : ∃ g, a = some ⟨g, 0, none⟩ ∧ base ≤ g ∧ g < w.heap.size ∧ Qu w g n X Y := by
  obtain ⟨g, c', hv, hg, hl⟩ := h.form (by omega)
  cases hv
  have hlen := cells4_length n X Y n
  refine ⟨g, rfl, hg, hl, fun i hi => ?_⟩
  obtain ⟨h0, h1, h2, h3⟩ := cells4_get n X Y n i hi
  refine ⟨?_, ?_, ?_, ?_⟩ <;> (rw [h.cellAt _ (by omega)]; assumption)
end Go.Proofs.Ythaecpcpeelcnaa
