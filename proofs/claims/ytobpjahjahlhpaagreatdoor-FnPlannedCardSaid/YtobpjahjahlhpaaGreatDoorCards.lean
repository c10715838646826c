/-
  DERIVED. GIVEN WITH THE SEED: THE CARDS: each row of YtobpjahjahlhpaaGreatDoorRows.lean that lists a variable, with what it lists TIED to the program's text (the seventh form; the later family's looks); each row that meets fmt, with fmt's text TOLD by the authors' own Lean function (tested against real Go, not proved from fmt's source: count such statements apart). THE CARD IS WHAT COUNTS. Prove the row's statement (the work); the ties are given (YtobpjahjahlhpaaGreatDoorTie.lean); close each card by the builder's one call (the guide's Derived/Test/ToyasCard.lean, 'card_holds'). Laid BY PROGRAM, IN A SANDBOX (cutbox-door.mjs). By AI agents, Wed Nov 11 2026. No macro, syntax, notation, axiom, sorry.
-/
import Derived.Test.YtobpjahjahlhpaaGreatDoorRows
import GoSem.ClaimSeven
namespace Go.Proofs.YtobpjahjahlhpaaGreatDoor
namespace Rows

/-- THE TIED CARD OF 'laws.FnPlanned'. -/
def fnPlannedCard : Claim7 := { stood := { row := fnPlannedRow, standIns := [], harness := (true, "23780842a0fa7b92a5e8c42aa81c69d0735c0a364ce16b875a3d9c4b1e0c3745"), looks := true }, kinds := [], alts := [], laidByText := true, laidKinds := [.handle, .data, .sentinel, .sentinel, .sentinel, .sentinel, .sentinel], laidTests := true, laidLooks := .later }
def FnPlannedCardSaid : Prop := Claim7.holds Tryz.pinned (.plain (OpenSpec.ofChange fnPlannedSpec)) fnPlannedCard

/-- THE SECOND FORM's CARD OF 'laws.FnPlanned'. -/
def fnPlannedUptoCard : Claim7 := { stood := { row := fnPlannedUptoRow, standIns := [], harness := (true, "23780842a0fa7b92a5e8c42aa81c69d0735c0a364ce16b875a3d9c4b1e0c3745"), looks := true }, kinds := [], alts := [], laidByText := true, laidKinds := [.handle, .data, .sentinel, .sentinel, .sentinel, .sentinel, .sentinel], laidTests := true, laidLooks := .later }
def FnPlannedUptoCardSaid : Prop := Claim7.holds Tryz.pinned (.plain (OpenSpec.upto fnPlannedSpec)) fnPlannedUptoCard
end Rows
end Go.Proofs.YtobpjahjahlhpaaGreatDoor
