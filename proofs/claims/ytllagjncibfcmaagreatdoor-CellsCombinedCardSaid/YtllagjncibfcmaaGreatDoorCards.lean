/-
  DERIVED. GIVEN WITH THE SEED: THE CARDS: each row of YtllagjncibfcmaaGreatDoorRows.lean that lists a variable, with what it lists TIED to the program's text (the seventh form; the later family's looks); each row that meets fmt, with fmt's text TOLD by the authors' own Lean function (tested against real Go, not proved from fmt's source: count such statements apart). THE CARD IS WHAT COUNTS. Prove the row's statement (the work); the ties are given (YtllagjncibfcmaaGreatDoorTie.lean); close each card by the builder's one call (the guide's Derived/Test/ToyasCard.lean, 'card_holds'). Laid BY PROGRAM, IN A SANDBOX (cutbox-door.mjs). By AI agents, Wed Nov 11 2026. No macro, syntax, notation, axiom, sorry.
-/
import Derived.Test.YtllagjncibfcmaaGreatDoorRows
import GoSem.ClaimSeven
namespace Go.Proofs.YtllagjncibfcmaaGreatDoor
namespace Rows

/-- THE TIED CARD OF 'bllaw1.CellsCombined'. -/
def cellsCombinedCard : Claim7 := { stood := { row := cellsCombinedRow, standIns := [], harness := (true, "f29a2d99a2476487a451565f34fa09743dfe9ce58aa210e813a70de458326cf9"), looks := false }, kinds := [], alts := [], laidByText := true, laidKinds := [.data, .pinned], laidTests := true, laidLooks := .later }
def CellsCombinedCardSaid : Prop := Claim7.holds Tryz.pinned (.plain (OpenSpec.ofChange cellsCombinedSpec)) cellsCombinedCard

/-- THE SECOND FORM's CARD OF 'bllaw1.CellsCombined'. -/
def cellsCombinedUptoCard : Claim7 := { stood := { row := cellsCombinedUptoRow, standIns := [], harness := (true, "f29a2d99a2476487a451565f34fa09743dfe9ce58aa210e813a70de458326cf9"), looks := false }, kinds := [], alts := [], laidByText := true, laidKinds := [.data, .pinned], laidTests := true, laidLooks := .later }
def CellsCombinedUptoCardSaid : Prop := Claim7.holds Tryz.pinned (.plain (OpenSpec.upto cellsCombinedSpec)) cellsCombinedUptoCard
end Rows
end Go.Proofs.YtllagjncibfcmaaGreatDoor
