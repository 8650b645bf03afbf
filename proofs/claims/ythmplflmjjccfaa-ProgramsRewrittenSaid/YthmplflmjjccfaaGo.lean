/- What two programs do, compared: by the program and by the reference. -/
import Derived.Test.YthmplflmjjccfaaGl
import Derived.Test.YthmplflmjjccfaaGg
set_option linter.unusedSimpArgs false
set_option linter.unusedVariables false
namespace Go.Proofs.Ythmplflmjjccfaa
open Go.RowKit
/-- Statuses with waits in memory, or none. -/
def YsR (w : World) (a : Option Addr) (l : List (Ma × Int)) : Prop :=
  l.length = 0 ∨ ∃ b off, a = some ⟨b, off, none⟩ ∧ b < w.heap.size ∧ ∀ i, i < l.length → w.cell? ⟨b, off + i * 9, none⟩ = some (.int .i64 (l.getD i (m00, 0)).1.x) ∧ w.cell? ⟨b, off + i * 9 + 1, none⟩ = some (.int .i64 (l.getD i (m00, 0)).1.y) ∧ w.cell? ⟨b, off + i * 9 + 2, none⟩ = some (.int .i64 (l.getD i (m00, 0)).1.z) ∧ w.cell? ⟨b, off + i * 9 + 3, none⟩ = some (.int .i64 (l.getD i (m00, 0)).1.s) ∧ w.cell? ⟨b, off + i * 9 + 4, none⟩ = some (.int .i64 (l.getD i (m00, 0)).1.h) ∧ w.cell? ⟨b, off + i * 9 + 5, none⟩ = some (.int .i64 (l.getD i (m00, 0)).1.t) ∧ w.cell? ⟨b, off + i * 9 + 6, none⟩ = some (.int .i64 (l.getD i (m00, 0)).1.f) ∧ w.cell? ⟨b, off + i * 9 + 7, none⟩ = some (.bool (l.getD i (m00, 0)).1.r) ∧ w.cell? ⟨b, off + i * 9 + 8, none⟩ = some (.int .i64 (l.getD i (m00, 0)).2)
theorem YsR.kept {w w' : World} {a : Option Addr} {l : List (Ma × Int)} (h : YsR w a l) (hb : Below w.heap.size w w') : YsR w' a l := by
  rcases h with h | ⟨b, off, rfl, h1, h2⟩
  · exact .inl h
  · exact .inr ⟨b, off, rfl, Nat.lt_of_lt_of_le h1 hb.size, fun i hi => by
      obtain ⟨p0, p1, p2, p3, p4, p5, p6, p7, p8⟩ := h2 i hi
      exact ⟨cellk hb h1 p0, cellk hb h1 p1, cellk hb h1 p2, cellk hb h1 p3, cellk hb h1 p4, cellk hb h1 p5, cellk hb h1 p6, cellk hb h1 p7, cellk hb h1 p8⟩⟩
theorem own_ys {w : World} {base n c : Nat} {e : TypeId} {a : Option Addr} {l : List (Ma × Int)} (h : w.ownsRow base e 9 (.slice a n c) n (rowL l)) (hn : n = l.length) : YsR w a l := by
  subst hn
  by_cases hn : l.length = 0
  · exact .inl hn
  · obtain ⟨g, cap', hv, _, hlt⟩ := h.form (by omega)
    cases hv
    refine .inr ⟨g, 0, rfl, hlt, fun i hi => ?_⟩
    have hk : ∀ j, j < 9 → w.cell? ⟨g, i * 9 + j, none⟩ = (yV (l.getD i (m00, 0)))[j]? := fun j hj => by
      rw [h.cellAt (i * 9 + j) (by omega)]
      exact rowL_get hi hj
    simp only [Nat.zero_add]
    exact ⟨hk 0 (by omega), hk 1 (by omega), hk 2 (by omega), hk 3 (by omega), hk 4 (by omega), hk 5 (by omega), hk 6 (by omega), hk 7 (by omega), hk 8 (by omega)⟩
theorem lists_eq {l m : List (Ma × Int)} (h : l.length = m.length) (he : ∀ j, j < l.length → l.getD j (m00, 0) = m.getD j (m00, 0)) : l = m := by
  refine List.ext_getElem h (fun j h1 h2 => ?_)
  have := he j h1
  rw [List.getD_eq_getElem?_getD, List.getD_eq_getElem?_getD, List.getElem?_eq_getElem h1, List.getElem?_eq_getElem h2] at this
  exact this
/-- What Same tells. -/
def sameE (n : Nat) (S : Nat → St) (m : Nat) (T : Nat → St) : Int := if stepsE n S = 0 then stepsE m T else stepsE n S
def sameB (n : Nat) (S : Nat → St) (m : Nat) (T : Nat → St) : Bool := if sameE n S m T = 0 then decide (syL S n = syL T m) else false
end Go.Proofs.Ythmplflmjjccfaa
