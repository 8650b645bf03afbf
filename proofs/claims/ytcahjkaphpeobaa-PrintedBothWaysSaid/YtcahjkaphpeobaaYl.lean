/- Ends of the program. -/
import Derived.Test.YtcahjkaphpeobaaYk
import Derived.Deep.Cut
import Derived.Deep.CutRange
set_option linter.unusedSimpArgs false
set_option linter.unusedVariables false
namespace Go.Proofs.Ytcahjkaphpeobaa
open Go.RowKit

theorem undrew' {w w' : World} (h : Below w.drew.heap.size w.drew w') : Below w.heap.size w w' := ⟨h.os, h.tape, h.output, h.size, h.block⟩
/-- What a visit's place in a row of paths reads as, and the visit, while new blocks are made. -/
structure Sy (w0 : World) (g b o : Nat) (q s : Int) (bk : Bool) (v : Value) (k : Bool) (w : World) : Prop where
  bel : Below w0.heap.size w0 w
  lg : g < w0.heap.size
  lb : b < w0.heap.size
  cp : w.cell? ⟨g, 0, none⟩ = some (.int .i64 q)
  cs : w.cell? ⟨g, 1, none⟩ = some (.int .i64 s)
  cb : w.cell? ⟨g, 2, none⟩ = some (.bool bk)
  cr : w.cell? ⟨b, o, none⟩ = some v
  ck : w.cell? ⟨b, o + 1, none⟩ = some (.bool k)
theorem Sy.next {w0 w' : World} {g b o : Nat} {q s : Int} {bk : Bool} {v : Value} {k : Bool} (h : Sy w0 g b o q s bk v k w0) (B : Below w0.heap.size w0 w') : Sy w0 g b o q s bk v k w' := by
  obtain ⟨q0, l1, l2, q1, q2, q3, q4, q5⟩ := h
  exact ⟨B, l1, l2, (B.cell (p := ⟨g, 0, none⟩) l1).trans q1, (B.cell (p := ⟨g, 1, none⟩) l1).trans q2, (B.cell (p := ⟨g, 2, none⟩) l1).trans q3, (B.cell (p := ⟨b, o, none⟩) l2).trans q4, (B.cell (p := ⟨b, o + 1, none⟩) l2).trans q5⟩
/-- The answer of Ends. -/
def endsV (m : Nat) (P : Nat → Pth) (v : Vis) : Value :=
  if oneF m P v = 0 then .tuple #[.agg #[.int .i64 ((P v.p.toNat).X (enB (P v.p.toNat) v)), .int .i64 ((P v.p.toNat).Y (enB (P v.p.toNat) v))], .agg #[.int .i64 ((P v.p.toNat).X (enE (P v.p.toNat) v)), .int .i64 ((P v.p.toNat).Y (enE (P v.p.toNat) v))], .int .i64 0]
  else .tuple #[.agg #[.int .i64 0, .int .i64 0], .agg #[.int .i64 0, .int .i64 0], .int .i64 (oneF m P v)]
end Go.Proofs.Ytcahjkaphpeobaa
