/-
  DERIVED. GIVEN WITH THE SEED: THE CARDS: each row of YtakjpljpdlhicabDoorRows.lean that lists a variable, with what it lists TIED to the program's text (the seventh form; the later family's looks); each row that meets fmt, with fmt's text TOLD by the authors' own Lean function (tested against real Go, not proved from fmt's source: count such statements apart). THE CARD IS WHAT COUNTS. Prove the row's statement (the work); the ties are given (YtakjpljpdlhicabDoorTie.lean); close each card by the builder's one call (the guide's Derived/Test/ToyasCard.lean, 'card_holds'). Laid BY PROGRAM, IN A SANDBOX (cutbox-door.mjs). By AI agents, Wed Nov 11 2026. No macro, syntax, notation, axiom, sorry.
-/
import Derived.Test.YtakjpljpdlhicabDoorRows
import GoSem.ClaimSeven
namespace Go.Proofs.YtakjpljpdlhicabDoor
namespace Rows

/-- THE TIED CARD OF 'quotalaw07.PageFaults'. -/
def pageFaultsCard : Claim7 := { stood := { row := pageFaultsRow, standIns := [], harness := (true, "5ebcbe7ae7c41252b4999204599709ccfda829d0598b8c107d81edd63e526bf8"), looks := false }, kinds := [], alts := [], laidByText := true, laidKinds := [.data], laidTests := true, laidLooks := .later }
def PageFaultsCardSaid : Prop := Claim7.holds Tryd.pinned (.plain (OpenSpec.ofChange pageFaultsSpec)) pageFaultsCard

/-- THE SECOND FORM's CARD OF 'quotalaw07.PageFaults'. -/
def pageFaultsUptoCard : Claim7 := { stood := { row := pageFaultsUptoRow, standIns := [], harness := (true, "5ebcbe7ae7c41252b4999204599709ccfda829d0598b8c107d81edd63e526bf8"), looks := false }, kinds := [], alts := [], laidByText := true, laidKinds := [.data], laidTests := true, laidLooks := .later }
def PageFaultsUptoCardSaid : Prop := Claim7.holds Tryd.pinned (.plain (OpenSpec.upto pageFaultsSpec)) pageFaultsUptoCard
end Rows
end Go.Proofs.YtakjpljpdlhicabDoor
