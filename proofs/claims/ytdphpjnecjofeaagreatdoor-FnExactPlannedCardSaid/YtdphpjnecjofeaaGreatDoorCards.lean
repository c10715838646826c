/-
  DERIVED. GIVEN WITH THE SEED: THE CARDS: each row of YtdphpjnecjofeaaGreatDoorRows.lean that lists a variable, with what it lists TIED to the program's text (the seventh form; the later family's looks); each row that meets fmt, with fmt's text TOLD by the authors' own Lean function (tested against real Go, not proved from fmt's source: count such statements apart). THE CARD IS WHAT COUNTS. Prove the row's statement (the work); the ties are given (YtdphpjnecjofeaaGreatDoorTie.lean); close each card by the builder's one call (the guide's Derived/Test/ToyasCard.lean, 'card_holds'). Laid BY PROGRAM, IN A SANDBOX (cutbox-door.mjs). By AI agents, Wed Nov 11 2026. No macro, syntax, notation, axiom, sorry.
-/
import Derived.Test.YtdphpjnecjofeaaGreatDoorRows
import GoSem.ClaimSeven
namespace Go.Proofs.YtdphpjnecjofeaaGreatDoor
namespace Rows

/-- THE TIED CARD OF 'laws.FnExactAppliedRec'. -/
def fnExactAppliedRecCard : Claim7 := { stood := { row := fnExactAppliedRecRow, standIns := [], harness := (true, "15bf401f4c702e812a6d36bd633aefde72431cc50e7deb406c5532528cc5f13f"), looks := true }, kinds := [], alts := [], laidByText := true, laidKinds := [.data], laidTests := true, laidLooks := .later }
def FnExactAppliedRecCardSaid : Prop := Claim7.holds Tryz.pinned (.plain (OpenSpec.ofChange fnExactAppliedRecSpec)) fnExactAppliedRecCard

/-- THE TIED CARD OF 'laws.FnExactAppliedAll'. -/
def fnExactAppliedAllCard : Claim7 := { stood := { row := fnExactAppliedAllRow, standIns := [], harness := (true, "15bf401f4c702e812a6d36bd633aefde72431cc50e7deb406c5532528cc5f13f"), looks := true }, kinds := [], alts := [], laidByText := true, laidKinds := [.data], laidTests := true, laidLooks := .later }
def FnExactAppliedAllCardSaid : Prop := Claim7.holds Tryz.pinned (.plain (OpenSpec.ofChange fnExactAppliedAllSpec)) fnExactAppliedAllCard

/-- THE TIED CARD OF 'laws.FnExactCommanded'. -/
def fnExactCommandedCard : Claim7 := { stood := { row := fnExactCommandedRow, standIns := [], harness := (true, "15bf401f4c702e812a6d36bd633aefde72431cc50e7deb406c5532528cc5f13f"), looks := true }, kinds := [], alts := [], laidByText := true, laidKinds := [.handle, .sentinel, .sentinel, .sentinel, .sentinel, .sentinel], laidTests := true, laidLooks := .later }
def FnExactCommandedCardSaid : Prop := Claim7.holds Tryz.pinned (.plain (OpenSpec.ofChange fnExactCommandedSpec)) fnExactCommandedCard

/-- THE TIED CARD OF 'laws.FnExactPlanned'. -/
def fnExactPlannedCard : Claim7 := { stood := { row := fnExactPlannedRow, standIns := [], harness := (true, "15bf401f4c702e812a6d36bd633aefde72431cc50e7deb406c5532528cc5f13f"), looks := true }, kinds := [], alts := [], laidByText := true, laidKinds := [.handle, .sentinel, .sentinel, .sentinel, .sentinel, .sentinel], laidTests := true, laidLooks := .later }
def FnExactPlannedCardSaid : Prop := Claim7.holds Tryz.pinned (.plain (OpenSpec.ofChange fnExactPlannedSpec)) fnExactPlannedCard

/-- THE SECOND FORM's CARD OF 'laws.FnExactAppliedRec'. -/
def fnExactAppliedRecUptoCard : Claim7 := { stood := { row := fnExactAppliedRecUptoRow, standIns := [], harness := (true, "15bf401f4c702e812a6d36bd633aefde72431cc50e7deb406c5532528cc5f13f"), looks := true }, kinds := [], alts := [], laidByText := true, laidKinds := [.data], laidTests := true, laidLooks := .later }
def FnExactAppliedRecUptoCardSaid : Prop := Claim7.holds Tryz.pinned (.plain (OpenSpec.upto fnExactAppliedRecSpec)) fnExactAppliedRecUptoCard

/-- THE SECOND FORM's CARD OF 'laws.FnExactAppliedAll'. -/
def fnExactAppliedAllUptoCard : Claim7 := { stood := { row := fnExactAppliedAllUptoRow, standIns := [], harness := (true, "15bf401f4c702e812a6d36bd633aefde72431cc50e7deb406c5532528cc5f13f"), looks := true }, kinds := [], alts := [], laidByText := true, laidKinds := [.data], laidTests := true, laidLooks := .later }
def FnExactAppliedAllUptoCardSaid : Prop := Claim7.holds Tryz.pinned (.plain (OpenSpec.upto fnExactAppliedAllSpec)) fnExactAppliedAllUptoCard

/-- THE SECOND FORM's CARD OF 'laws.FnExactCommanded'. -/
def fnExactCommandedUptoCard : Claim7 := { stood := { row := fnExactCommandedUptoRow, standIns := [], harness := (true, "15bf401f4c702e812a6d36bd633aefde72431cc50e7deb406c5532528cc5f13f"), looks := true }, kinds := [], alts := [], laidByText := true, laidKinds := [.handle, .sentinel, .sentinel, .sentinel, .sentinel, .sentinel], laidTests := true, laidLooks := .later }
def FnExactCommandedUptoCardSaid : Prop := Claim7.holds Tryz.pinned (.plain (OpenSpec.upto fnExactCommandedSpec)) fnExactCommandedUptoCard

/-- THE SECOND FORM's CARD OF 'laws.FnExactPlanned'. -/
def fnExactPlannedUptoCard : Claim7 := { stood := { row := fnExactPlannedUptoRow, standIns := [], harness := (true, "15bf401f4c702e812a6d36bd633aefde72431cc50e7deb406c5532528cc5f13f"), looks := true }, kinds := [], alts := [], laidByText := true, laidKinds := [.handle, .sentinel, .sentinel, .sentinel, .sentinel, .sentinel], laidTests := true, laidLooks := .later }
def FnExactPlannedUptoCardSaid : Prop := Claim7.holds Tryz.pinned (.plain (OpenSpec.upto fnExactPlannedSpec)) fnExactPlannedUptoCard
end Rows
end Go.Proofs.YtdphpjnecjofeaaGreatDoor
