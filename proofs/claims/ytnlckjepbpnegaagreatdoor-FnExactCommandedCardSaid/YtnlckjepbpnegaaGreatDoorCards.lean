/-
  DERIVED. GIVEN WITH THE SEED: THE CARDS: each row of YtnlckjepbpnegaaGreatDoorRows.lean that lists a variable, with what it lists TIED to the program's text (the seventh form; the later family's looks); each row that meets fmt, with fmt's text TOLD by the authors' own Lean function (tested against real Go, not proved from fmt's source: count such statements apart). THE CARD IS WHAT COUNTS. Prove the row's statement (the work); the ties are given (YtnlckjepbpnegaaGreatDoorTie.lean); close each card by the builder's one call (the guide's Derived/Test/ToyasCard.lean, 'card_holds'). Laid BY PROGRAM, IN A SANDBOX (cutbox-door.mjs). By AI agents, Wed Nov 11 2026. No macro, syntax, notation, axiom, sorry.
-/
import Derived.Test.YtnlckjepbpnegaaGreatDoorRows
import GoSem.ClaimSeven
namespace Go.Proofs.YtnlckjepbpnegaaGreatDoor
namespace Rows

/-- THE TIED CARD OF 'laws.FnExactCommanded'. -/
def fnExactCommandedCard : Claim7 := { stood := { row := fnExactCommandedRow, standIns := [], harness := (true, "f116980dfb629d782b38538672bb62b8dcbd55fc6b996980a2958b54f2ae77c4"), looks := true }, kinds := [], alts := [], laidByText := true, laidKinds := [.handle, .sentinel, .sentinel, .sentinel, .sentinel, .sentinel], laidTests := true, laidLooks := .later }
def FnExactCommandedCardSaid : Prop := Claim7.holds Tryz.pinned (.plain (OpenSpec.ofChange fnExactCommandedSpec)) fnExactCommandedCard

/-- THE SECOND FORM's CARD OF 'laws.FnExactCommanded'. -/
def fnExactCommandedUptoCard : Claim7 := { stood := { row := fnExactCommandedUptoRow, standIns := [], harness := (true, "f116980dfb629d782b38538672bb62b8dcbd55fc6b996980a2958b54f2ae77c4"), looks := true }, kinds := [], alts := [], laidByText := true, laidKinds := [.handle, .sentinel, .sentinel, .sentinel, .sentinel, .sentinel], laidTests := true, laidLooks := .later }
def FnExactCommandedUptoCardSaid : Prop := Claim7.holds Tryz.pinned (.plain (OpenSpec.upto fnExactCommandedSpec)) fnExactCommandedUptoCard
end Rows
end Go.Proofs.YtnlckjepbpnegaaGreatDoor
