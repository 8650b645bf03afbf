/- What a visit prints: the reference. -/
import Derived.Test.YtcahjkaphpeobaaYm
set_option linter.unusedSimpArgs false
set_option linter.unusedVariables false
namespace Go.Proofs.Ytcahjkaphpeobaa
open Go.RowKit

/-- What the reference's printed reads, while new blocks are made. -/
structure Sr (w0 : World) (g : Nat) (a : Option Addr) (n c : Nat) (k : Bool) (s : Int) (bk : Bool) (w : World) : Prop where
  bel : Below w0.heap.size w0 w
  lg : g + 1 < w0.heap.size
  cs : w.cell? ⟨g, 1, none⟩ = some (.int .i64 s)
  cb : w.cell? ⟨g, 2, none⟩ = some (.bool bk)
  cr : w.cell? ⟨g + 1, 0, none⟩ = some (.slice a n c)
  ck : w.cell? ⟨g + 1, 1, none⟩ = some (.bool k)
theorem Sr.next {w0 w' : World} {g : Nat} {a : Option Addr} {n c : Nat} {k : Bool} {s : Int} {bk : Bool} (h : Sr w0 g a n c k s bk w0) (B : Below w0.heap.size w0 w') : Sr w0 g a n c k s bk w' := by
  obtain ⟨q0, l1, q1, q2, q3, q4⟩ := h
  exact ⟨B, l1, (B.cell (p := ⟨g, 1, none⟩) (by show g < _; omega)).trans q1, (B.cell (p := ⟨g, 2, none⟩) (by show g < _; omega)).trans q2, (B.cell (p := ⟨g + 1, 0, none⟩) l1).trans q3, (B.cell (p := ⟨g + 1, 1, none⟩) l1).trans q4⟩
theorem cells2_one_more (n : Nat) (X Y : Nat → Int) : cells2 X Y (n + 1) = cells2 X Y n ++ [.int .i64 (X n), .int .i64 (Y n)] := rfl
end Go.Proofs.Ytcahjkaphpeobaa
