/- Where a visit begins and ends: the program. -/
import Derived.Test.YtcahjkaphpeobaaYj
set_option linter.unusedSimpArgs false
set_option linter.unusedVariables false
namespace Go.Proofs.Ytcahjkaphpeobaa
open Go.RowKit

def enB (p : Pth) (v : Vis) : Nat := if p.k = true then v.s.toNat else if v.b = true then p.n - 1 else 0
def enE (p : Pth) (v : Vis) : Nat := if p.k = true then v.s.toNat else if v.b = true then 0 else p.n - 1
/-- Two points. -/
def two (bx by_ ex ey : Int) : Value := .tuple #[.agg #[.int .i64 bx, .int .i64 by_], .agg #[.int .i64 ex, .int .i64 ey]]
theorem set22 {w W : World} {a b : Nat} {x0 x1 y0 y1 : Value} (hab : a ≠ b) (h0 : (w.cell? ⟨a, 0, none⟩).isSome = true) (h1 : (w.cell? ⟨a, 1, none⟩).isSome = true) (h2 : (w.cell? ⟨b, 0, none⟩).isSome = true) (h3 : (w.cell? ⟨b, 1, none⟩).isSome = true)
    (hW : (((w.setCell ⟨a, 0, none⟩ x0).setCell ⟨a, 1, none⟩ x1).setCell ⟨b, 0, none⟩ y0).setCell ⟨b, 1, none⟩ y1 = W) : W.cell? ⟨a, 0, none⟩ = some x0 ∧ W.cell? ⟨a, 1, none⟩ = some x1 ∧ W.cell? ⟨b, 0, none⟩ = some y0 ∧ W.cell? ⟨b, 1, none⟩ = some y1 := by
  refine ⟨?_, ?_, ?_, ?_⟩
  · rw [← hW, sc_other (ne_block (Ne.symm hab)), sc_other (ne_block (Ne.symm hab)), sc_other (by simp), sc_same' h0]
  · rw [← hW, sc_other (ne_block (Ne.symm hab)), sc_other (ne_block (Ne.symm hab)), sc_same' (is_set h1)]
  · rw [← hW, sc_other (by simp), sc_same' (is_set (is_set h2))]
  · rw [← hW, sc_same' (is_set (is_set (is_set h3)))]
/-- What stays while new blocks are made and written. -/
structure Sx (w0 : World) (g b off m n c : Nat) (x y x2 y2 : Int) (w : World) : Prop where
  bel : Below w0.heap.size w0 w
  p : w.cell? ⟨g, 0, none⟩ = some (.slice (some ⟨b, off, none⟩) n c)
  c0 : w.cell? ⟨b, off, none⟩ = some (.int .i64 x)
  c1 : w.cell? ⟨b, off + 1, none⟩ = some (.int .i64 y)
  d0 : w.cell? ⟨b, off + m * 2, none⟩ = some (.int .i64 x2)
  d1 : w.cell? ⟨b, off + m * 2 + 1, none⟩ = some (.int .i64 y2)
theorem Sx.next {w0 w w' : World} {g b off m n c : Nat} {x y x2 y2 : Int} (h : Sx w0 g b off m n c x y x2 y2 w) (hb : b < w0.heap.size) (hg : g < w0.heap.size) (B : Below w0.heap.size w w') : Sx w0 g b off m n c x y x2 y2 w' := by
  obtain ⟨q0, q1, q2, q3, q4, q5⟩ := h
  exact ⟨q0.trans B, (B.cell (p := ⟨g, 0, none⟩) hg).trans q1, (B.cell (p := ⟨b, off, none⟩) hb).trans q2, (B.cell (p := ⟨b, off + 1, none⟩) hb).trans q3, (B.cell (p := ⟨b, off + m * 2, none⟩) hb).trans q4, (B.cell (p := ⟨b, off + m * 2 + 1, none⟩) hb).trans q5⟩
end Go.Proofs.Ytcahjkaphpeobaa
