/-
  No cell of these rows narrows 'for every input' (looked for: loops, veiled, ifaces, maps, wideKeys, modest, calm, conditions, laid).
  DERIVED. THE GIVEN ROWS OF THIS SEAT. 2 by the template 'for every input the law returns true; each argument reads behind the call as it read before'; 0 by the template 'total and deterministic' (their statements: YtmcebhjcaacbpaaTotals.lean).
  GIVEN WITH THE SEED: the statements are not yours to turn. If you find one false, say at which input.
  Laid BY PROGRAM, IN A SANDBOX (cutbox-rows.mjs): the forced cells as the released guide's own fill.sh prints them over the translation f8cafe1f2b332e45… (all of the seat's roots in one cut). By AI agents, Wed Nov 11 2026. No macro, syntax, notation, axiom, sorry.
-/
import Derived.Test.YtmcebhjcaacbpaaChecked
import GoSem.Claim
import GoSem.ClaimJoined
import GoSem.ClaimMapViews
import Derived.JoinedTies
import Derived.KernelRfl
namespace Go.Proofs.Ytmcebhjcaacbpaa
/- THE CELL 'sum', in the pinned program and in every row, IS THE sha256 OF THE DUMP (.gsa) THAT YtmcebhjcaacbpaaProg.lean LOADS. Nothing in Lean hashes anything: it is a label: what it is worth is what the hold of that sum in a sandbox is worth. -/
noncomputable def Try.pinned : Pinned := { name := "ytmcebhjcaacbpaa", sum := "f8cafe1f2b332e456b5c6e012bc1d6cb77cfc8df59cdc9f2dbd67794b0ee84b9", checked := Try.checked }
namespace Rows
def none {H : Type} : Left H := { results := [], args := [] }

/-- 'blkeep1.OverhangsTurnOver': WHATEVER THE INPUT: true; the input reads as it did. -/
def overhangsTurnOverSpec : ChangeSpec := { name := "overhangsTurnOver", fn := fun _ => fun
  | [d] => { results := [.lit (.bool true)], args := [d] }
  | _ => none }
def overhangsTurnOverRow : OpenClaim := { program := "ytmcebhjcaacbpaa", sum := "f8cafe1f2b332e456b5c6e012bc1d6cb77cfc8df59cdc9f2dbd67794b0ee84b9", func := "beadlayer/blkeep1.OverhangsTurnOver", spec := "overhangsTurnOver", unfollowed := true, recurses := true, plainKeys := false, apart := false }
def OverhangsTurnOverSaid : Prop := overhangsTurnOverRow.holds Try.pinned (OpenSpec.ofChange overhangsTurnOverSpec)

/-- ITS FALSE NEIGHBOUR: 'it returns false'. Refute it at one input. -/
def overhangsTurnOverWrong : ChangeSpec := { name := "overhangsTurnOver", fn := fun _ => fun
  | [d] => { results := [.lit (.bool false)], args := [d] }
  | _ => none }
def OverhangsTurnOverWrongFalsely : Prop := overhangsTurnOverRow.holds Try.pinned (OpenSpec.ofChange overhangsTurnOverWrong)

/-- 'blkeep1.WeldedKeepsVolume': WHATEVER THE INPUT: true; the input reads as it did. -/
def weldedKeepsVolumeSpec : ChangeSpec := { name := "weldedKeepsVolume", fn := fun _ => fun
  | [d] => { results := [.lit (.bool true)], args := [d] }
  | _ => none }
def weldedKeepsVolumeRow : OpenClaim := { program := "ytmcebhjcaacbpaa", sum := "f8cafe1f2b332e456b5c6e012bc1d6cb77cfc8df59cdc9f2dbd67794b0ee84b9", func := "beadlayer/blkeep1.WeldedKeepsVolume", spec := "weldedKeepsVolume", unfollowed := true, recurses := true, plainKeys := false, apart := false }
def WeldedKeepsVolumeSaid : Prop := weldedKeepsVolumeRow.holds Try.pinned (OpenSpec.ofChange weldedKeepsVolumeSpec)

/-- ITS FALSE NEIGHBOUR: 'it returns false'. Refute it at one input. -/
def weldedKeepsVolumeWrong : ChangeSpec := { name := "weldedKeepsVolume", fn := fun _ => fun
  | [d] => { results := [.lit (.bool false)], args := [d] }
  | _ => none }
def WeldedKeepsVolumeWrongFalsely : Prop := weldedKeepsVolumeRow.holds Try.pinned (OpenSpec.ofChange weldedKeepsVolumeWrong)

/- THE SECOND FORM. 'bulk': how many values and letters a reading holds, each counted each time it is reached (what is shared counts as often as it is met; a slice's spare places count too). A statement '..UptoSaid' is the law's where the arguments, and the package variables that the reading takes, are together of bulk at most 1048576: NARROWER than '..Said'. Prove '..Said' where nothing that the law and all that it calls make is longer than what came in: it says more and counts as full. Else prove '..UptoSaid'. A law counts once. -/
mutual
def uptoBulk {H : Type} : DataW H → Nat
  | .lit (.string bytes) => bytes.length + 1
  | .lit _ => 1
  | .nil => 1
  | .ptr d => uptoBulk d + 1
  | .slice elems spare => uptoBulkAll elems + uptoBulkAll spare + 1
  | .agg parts => uptoBulkAll parts + 1
  | .iface _ d => uptoBulk d + 1
  | .map entries => uptoBulkEntries entries + 1
  | .held _ => 1
def uptoBulkAll {H : Type} : List (DataW H) → Nat
  | [] => 0
  | d :: r => uptoBulk d + uptoBulkAll r
def uptoBulkEntries {H : Type} : List (Lit × DataW H) → Nat
  | [] => 0
  | x :: r => uptoBulkEntry x + uptoBulkEntries r
def uptoBulkEntry {H : Type} : Lit × DataW H → Nat
  | (.string bytes, d) => bytes.length + uptoBulk d + 1
  | (_, d) => uptoBulk d + 1
 end
def uptoSmall : (H : Type) → List (DataW H) → Bool := fun _ ds => decide (uptoBulkAll ds ≤ 1048576)
def OpenSpec.upto (s : _root_.Go.ChangeSpec) : _root_.Go.OpenSpec := { _root_.Go.OpenSpec.ofChange s with cond := some uptoSmall }

/-- 'blkeep1.OverhangsTurnOver', WHERE WHAT IT READS IS OF BULK AT MOST 1048576: true; the input reads as it did. -/
def overhangsTurnOverUptoRow : OpenClaim := { program := "ytmcebhjcaacbpaa", sum := "f8cafe1f2b332e456b5c6e012bc1d6cb77cfc8df59cdc9f2dbd67794b0ee84b9", func := "beadlayer/blkeep1.OverhangsTurnOver", spec := "overhangsTurnOver", unfollowed := true, recurses := true, plainKeys := false, apart := false, narrowed := true }
def OverhangsTurnOverUptoSaid : Prop := overhangsTurnOverUptoRow.holds Try.pinned (OpenSpec.upto overhangsTurnOverSpec)

/-- 'blkeep1.WeldedKeepsVolume', WHERE WHAT IT READS IS OF BULK AT MOST 1048576: true; the input reads as it did. -/
def weldedKeepsVolumeUptoRow : OpenClaim := { program := "ytmcebhjcaacbpaa", sum := "f8cafe1f2b332e456b5c6e012bc1d6cb77cfc8df59cdc9f2dbd67794b0ee84b9", func := "beadlayer/blkeep1.WeldedKeepsVolume", spec := "weldedKeepsVolume", unfollowed := true, recurses := true, plainKeys := false, apart := false, narrowed := true }
def WeldedKeepsVolumeUptoSaid : Prop := weldedKeepsVolumeUptoRow.holds Try.pinned (OpenSpec.upto weldedKeepsVolumeSpec)

end Rows
end Go.Proofs.Ytmcebhjcaacbpaa
