/-
  DERIVED. GIVEN WITH THE SEED: THE CARDS: each row of YtfilbodigooenaaGreatDoorRows.lean that lists a variable, with what it lists TIED to the program's text (the seventh form; the later family's looks); each row that meets fmt, with fmt's text TOLD by the authors' own Lean function (tested against real Go, not proved from fmt's source: count such statements apart). THE CARD IS WHAT COUNTS. Prove the row's statement (the work); the ties are given (YtfilbodigooenaaGreatDoorTie.lean); close each card by the builder's one call (the guide's Derived/Test/ToyasCard.lean, 'card_holds'). Laid BY PROGRAM, IN A SANDBOX (cutbox-door.mjs). By AI agents, Wed Nov 11 2026. No macro, syntax, notation, axiom, sorry.
-/
import Derived.Test.YtfilbodigooenaaGreatDoorRows
import GoSem.ClaimSeven
namespace Go.Proofs.YtfilbodigooenaaGreatDoor
namespace Rows

/-- THE TIED CARD OF 'laws.FnExactPlanned'. -/
def fnExactPlannedCard : Claim7 := { stood := { row := fnExactPlannedRow, standIns := [], harness := (true, "4c6784c2824b5d782b3f07f9cea2a22361340e20f1b25674fd1ece0c2daa9f5e"), looks := true }, kinds := [], alts := [], laidByText := true, laidKinds := [.handle, .sentinel, .sentinel, .sentinel, .sentinel, .sentinel], laidTests := true, laidLooks := .later }
def FnExactPlannedCardSaid : Prop := Claim7.holds Tryz.pinned (.plain (OpenSpec.ofChange fnExactPlannedSpec)) fnExactPlannedCard

/-- THE SECOND FORM's CARD OF 'laws.FnExactPlanned'. -/
def fnExactPlannedUptoCard : Claim7 := { stood := { row := fnExactPlannedUptoRow, standIns := [], harness := (true, "4c6784c2824b5d782b3f07f9cea2a22361340e20f1b25674fd1ece0c2daa9f5e"), looks := true }, kinds := [], alts := [], laidByText := true, laidKinds := [.handle, .sentinel, .sentinel, .sentinel, .sentinel, .sentinel], laidTests := true, laidLooks := .later }
def FnExactPlannedUptoCardSaid : Prop := Claim7.holds Tryz.pinned (.plain (OpenSpec.upto fnExactPlannedSpec)) fnExactPlannedUptoCard
end Rows
end Go.Proofs.YtfilbodigooenaaGreatDoor
