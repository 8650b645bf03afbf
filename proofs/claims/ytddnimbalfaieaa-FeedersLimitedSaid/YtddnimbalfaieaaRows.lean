/-
  No cell of these rows narrows 'for every input' (looked for: loops, veiled, ifaces, maps, wideKeys, modest, calm, conditions, laid).
  DERIVED. THE GIVEN ROWS OF THIS SEAT. 2 by the template 'for every input the law returns true; each argument reads behind the call as it read before'; 0 by the template 'total and deterministic' (their statements: YtddnimbalfaieaaTotals.lean).
  GIVEN WITH THE SEED: the statements are not yours to turn. If you find one false, say at which input.
  Laid BY PROGRAM, IN A SANDBOX (cutbox-rows.mjs): the forced cells as the released guide's own fill.sh prints them over the translation 7992d1fa28faabe0… (all of the seat's roots in one cut). By AI agents, Wed Nov 11 2026. No macro, syntax, notation, axiom, sorry.
-/
import Derived.Test.YtddnimbalfaieaaChecked
import GoSem.Claim
import GoSem.ClaimJoined
import GoSem.ClaimMapViews
import Derived.JoinedTies
import Derived.KernelRfl
namespace Go.Proofs.Ytddnimbalfaieaa
/- THE CELL 'sum', in the pinned program and in every row, IS THE sha256 OF THE DUMP (.gsa) THAT YtddnimbalfaieaaProg.lean LOADS. Nothing in Lean hashes anything: it is a label: what it is worth is what the hold of that sum in a sandbox is worth. -/
noncomputable def Try.pinned : Pinned := { name := "ytddnimbalfaieaa", sum := "7992d1fa28faabe0152d1c9e3493871bdbcbf84d820c4c0c9d0840d760fcbbf9", checked := Try.checked }
namespace Rows
def none {H : Type} : Left H := { results := [], args := [] }

/-- 'bllaw1.BeadsFed': WHATEVER THE INPUT: true; the input reads as it did. -/
def beadsFedSpec : ChangeSpec := { name := "beadsFed", fn := fun _ => fun
  | [d] => { results := [.lit (.bool true)], args := [d] }
  | _ => none }
def beadsFedRow : OpenClaim := { program := "ytddnimbalfaieaa", sum := "7992d1fa28faabe0152d1c9e3493871bdbcbf84d820c4c0c9d0840d760fcbbf9", func := "beadlayer/bllaw1.BeadsFed", spec := "beadsFed", apart := false }
def BeadsFedSaid : Prop := beadsFedRow.holds Try.pinned (OpenSpec.ofChange beadsFedSpec)

/-- ITS FALSE NEIGHBOUR: 'it returns false'. Refute it at one input. -/
def beadsFedWrong : ChangeSpec := { name := "beadsFed", fn := fun _ => fun
  | [d] => { results := [.lit (.bool false)], args := [d] }
  | _ => none }
def BeadsFedWrongFalsely : Prop := beadsFedRow.holds Try.pinned (OpenSpec.ofChange beadsFedWrong)

/-- 'bllaw1.FeedersLimited': WHATEVER THE INPUT: true; the input reads as it did. -/
def feedersLimitedSpec : ChangeSpec := { name := "feedersLimited", fn := fun _ => fun
  | [d] => { results := [.lit (.bool true)], args := [d] }
  | _ => none }
def feedersLimitedRow : OpenClaim := { program := "ytddnimbalfaieaa", sum := "7992d1fa28faabe0152d1c9e3493871bdbcbf84d820c4c0c9d0840d760fcbbf9", func := "beadlayer/bllaw1.FeedersLimited", spec := "feedersLimited", apart := false }
def FeedersLimitedSaid : Prop := feedersLimitedRow.holds Try.pinned (OpenSpec.ofChange feedersLimitedSpec)

/-- ITS FALSE NEIGHBOUR: 'it returns false'. Refute it at one input. -/
def feedersLimitedWrong : ChangeSpec := { name := "feedersLimited", fn := fun _ => fun
  | [d] => { results := [.lit (.bool false)], args := [d] }
  | _ => none }
def FeedersLimitedWrongFalsely : Prop := feedersLimitedRow.holds Try.pinned (OpenSpec.ofChange feedersLimitedWrong)

/- THE SECOND FORM. 'bulk': how many values and letters a reading holds, each counted each time it is reached (what is shared counts as often as it is met; a slice's spare places count too). A statement '..UptoSaid' is the law's where the arguments, and the package variables that the reading takes, are together of bulk at most 1048576: NARROWER than '..Said'. Prove '..Said' where nothing that the law and all that it calls make is longer than what came in: it says more and counts as full. Else prove '..UptoSaid'. A law counts once. -/
mutual
def uptoBulk {H : Type} : DataW H → Nat
  | .lit (.string bytes) => bytes.length + 1
  | .lit _ => 1
  | .nil => 1
  | .ptr d => uptoBulk d + 1
  | .slice elems spare => uptoBulkAll elems + uptoBulkAll spare + 1
  | .agg parts => uptoBulkAll parts + 1
  | .iface _ d => uptoBulk d + 1
  | .map entries => uptoBulkEntries entries + 1
  | .held _ => 1
def uptoBulkAll {H : Type} : List (DataW H) → Nat
  | [] => 0
  | d :: r => uptoBulk d + uptoBulkAll r
def uptoBulkEntries {H : Type} : List (Lit × DataW H) → Nat
  | [] => 0
  | x :: r => uptoBulkEntry x + uptoBulkEntries r
def uptoBulkEntry {H : Type} : Lit × DataW H → Nat
  | (.string bytes, d) => bytes.length + uptoBulk d + 1
  | (_, d) => uptoBulk d + 1
 end
def uptoSmall : (H : Type) → List (DataW H) → Bool := fun _ ds => decide (uptoBulkAll ds ≤ 1048576)
def OpenSpec.upto (s : _root_.Go.ChangeSpec) : _root_.Go.OpenSpec := { _root_.Go.OpenSpec.ofChange s with cond := some uptoSmall }

/-- 'bllaw1.BeadsFed', WHERE WHAT IT READS IS OF BULK AT MOST 1048576: true; the input reads as it did. -/
def beadsFedUptoRow : OpenClaim := { program := "ytddnimbalfaieaa", sum := "7992d1fa28faabe0152d1c9e3493871bdbcbf84d820c4c0c9d0840d760fcbbf9", func := "beadlayer/bllaw1.BeadsFed", spec := "beadsFed", apart := false, narrowed := true }
def BeadsFedUptoSaid : Prop := beadsFedUptoRow.holds Try.pinned (OpenSpec.upto beadsFedSpec)

/-- 'bllaw1.FeedersLimited', WHERE WHAT IT READS IS OF BULK AT MOST 1048576: true; the input reads as it did. -/
def feedersLimitedUptoRow : OpenClaim := { program := "ytddnimbalfaieaa", sum := "7992d1fa28faabe0152d1c9e3493871bdbcbf84d820c4c0c9d0840d760fcbbf9", func := "beadlayer/bllaw1.FeedersLimited", spec := "feedersLimited", apart := false, narrowed := true }
def FeedersLimitedUptoSaid : Prop := feedersLimitedUptoRow.holds Try.pinned (OpenSpec.upto feedersLimitedSpec)

end Rows
end Go.Proofs.Ytddnimbalfaieaa
