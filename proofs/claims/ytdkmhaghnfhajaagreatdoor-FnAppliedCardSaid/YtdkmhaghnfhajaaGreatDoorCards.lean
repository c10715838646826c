/-
  DERIVED. GIVEN WITH THE SEED: THE CARDS: each row of YtdkmhaghnfhajaaGreatDoorRows.lean that lists a variable, with what it lists TIED to the program's text (the seventh form; the later family's looks); each row that meets fmt, with fmt's text TOLD by the authors' own Lean function (tested against real Go, not proved from fmt's source: count such statements apart). THE CARD IS WHAT COUNTS. Prove the row's statement (the work); the ties are given (YtdkmhaghnfhajaaGreatDoorTie.lean); close each card by the builder's one call (the guide's Derived/Test/ToyasCard.lean, 'card_holds'). Laid BY PROGRAM, IN A SANDBOX (cutbox-door.mjs). By AI agents, Wed Nov 11 2026. No macro, syntax, notation, axiom, sorry.
-/
import Derived.Test.YtdkmhaghnfhajaaGreatDoorRows
import GoSem.ClaimSeven
namespace Go.Proofs.YtdkmhaghnfhajaaGreatDoor
namespace Rows

/-- THE TIED CARD OF 'laws.FnSnaps'. -/
def fnSnapsCard : Claim7 := { stood := { row := fnSnapsRow, standIns := [], harness := (true, "9604883ff75e5b0d9a334acb260197841692de1925e2bec7ca77df0a84e99f13"), looks := true }, kinds := [], alts := [], laidByText := true, laidKinds := [.data], laidTests := true, laidLooks := .later }
def FnSnapsCardSaid : Prop := Claim7.holds Tryz.pinned (.plain (OpenSpec.ofChange fnSnapsSpec)) fnSnapsCard

/-- THE TIED CARD OF 'laws.FnApplied'. -/
def fnAppliedCard : Claim7 := { stood := { row := fnAppliedRow, standIns := [], harness := (true, "9604883ff75e5b0d9a334acb260197841692de1925e2bec7ca77df0a84e99f13"), looks := true }, kinds := [], alts := [], laidByText := true, laidKinds := [.data], laidTests := true, laidLooks := .later }
def FnAppliedCardSaid : Prop := Claim7.holds Tryz.pinned (.plain (OpenSpec.ofChange fnAppliedSpec)) fnAppliedCard

/-- THE TIED CARD OF 'laws.FnCommands'. -/
def fnCommandsCard : Claim7 := { stood := { row := fnCommandsRow, standIns := [], harness := (true, "9604883ff75e5b0d9a334acb260197841692de1925e2bec7ca77df0a84e99f13"), looks := true }, kinds := [], alts := [], laidByText := true, laidKinds := [.handle, .data, .sentinel, .sentinel, .sentinel, .sentinel, .sentinel], laidTests := true, laidLooks := .later }
def FnCommandsCardSaid : Prop := Claim7.holds Tryz.pinned (.plain (OpenSpec.ofChange fnCommandsSpec)) fnCommandsCard

/-- THE TIED CARD OF 'laws.FnTicks'. -/
def fnTicksCard : Claim7 := { stood := { row := fnTicksRow, standIns := [], harness := (true, "9604883ff75e5b0d9a334acb260197841692de1925e2bec7ca77df0a84e99f13"), looks := true }, kinds := [], alts := [], laidByText := true, laidKinds := [.data], laidTests := true, laidLooks := .later }
def FnTicksCardSaid : Prop := Claim7.holds Tryz.pinned (.plain (OpenSpec.ofChange fnTicksSpec)) fnTicksCard

/-- THE TIED CARD OF 'laws.FnBoots'. -/
def fnBootsCard : Claim7 := { stood := { row := fnBootsRow, standIns := [], harness := (true, "9604883ff75e5b0d9a334acb260197841692de1925e2bec7ca77df0a84e99f13"), looks := true }, kinds := [], alts := [], laidByText := true, laidKinds := [.data], laidTests := true, laidLooks := .later }
def FnBootsCardSaid : Prop := Claim7.holds Tryz.pinned (.plain (OpenSpec.ofChange fnBootsSpec)) fnBootsCard

/-- THE TIED CARD OF 'laws.FnPlanned'. -/
def fnPlannedCard : Claim7 := { stood := { row := fnPlannedRow, standIns := [], harness := (true, "9604883ff75e5b0d9a334acb260197841692de1925e2bec7ca77df0a84e99f13"), looks := true }, kinds := [], alts := [], laidByText := true, laidKinds := [.handle, .data, .sentinel, .sentinel, .sentinel, .sentinel, .sentinel], laidTests := true, laidLooks := .later }
def FnPlannedCardSaid : Prop := Claim7.holds Tryz.pinned (.plain (OpenSpec.ofChange fnPlannedSpec)) fnPlannedCard

/-- THE SECOND FORM's CARD OF 'laws.FnSnaps'. -/
def fnSnapsUptoCard : Claim7 := { stood := { row := fnSnapsUptoRow, standIns := [], harness := (true, "9604883ff75e5b0d9a334acb260197841692de1925e2bec7ca77df0a84e99f13"), looks := true }, kinds := [], alts := [], laidByText := true, laidKinds := [.data], laidTests := true, laidLooks := .later }
def FnSnapsUptoCardSaid : Prop := Claim7.holds Tryz.pinned (.plain (OpenSpec.upto fnSnapsSpec)) fnSnapsUptoCard

/-- THE SECOND FORM's CARD OF 'laws.FnApplied'. -/
def fnAppliedUptoCard : Claim7 := { stood := { row := fnAppliedUptoRow, standIns := [], harness := (true, "9604883ff75e5b0d9a334acb260197841692de1925e2bec7ca77df0a84e99f13"), looks := true }, kinds := [], alts := [], laidByText := true, laidKinds := [.data], laidTests := true, laidLooks := .later }
def FnAppliedUptoCardSaid : Prop := Claim7.holds Tryz.pinned (.plain (OpenSpec.upto fnAppliedSpec)) fnAppliedUptoCard

/-- THE SECOND FORM's CARD OF 'laws.FnCommands'. -/
def fnCommandsUptoCard : Claim7 := { stood := { row := fnCommandsUptoRow, standIns := [], harness := (true, "9604883ff75e5b0d9a334acb260197841692de1925e2bec7ca77df0a84e99f13"), looks := true }, kinds := [], alts := [], laidByText := true, laidKinds := [.handle, .data, .sentinel, .sentinel, .sentinel, .sentinel, .sentinel], laidTests := true, laidLooks := .later }
def FnCommandsUptoCardSaid : Prop := Claim7.holds Tryz.pinned (.plain (OpenSpec.upto fnCommandsSpec)) fnCommandsUptoCard

/-- THE SECOND FORM's CARD OF 'laws.FnTicks'. -/
def fnTicksUptoCard : Claim7 := { stood := { row := fnTicksUptoRow, standIns := [], harness := (true, "9604883ff75e5b0d9a334acb260197841692de1925e2bec7ca77df0a84e99f13"), looks := true }, kinds := [], alts := [], laidByText := true, laidKinds := [.data], laidTests := true, laidLooks := .later }
def FnTicksUptoCardSaid : Prop := Claim7.holds Tryz.pinned (.plain (OpenSpec.upto fnTicksSpec)) fnTicksUptoCard

/-- THE SECOND FORM's CARD OF 'laws.FnBoots'. -/
def fnBootsUptoCard : Claim7 := { stood := { row := fnBootsUptoRow, standIns := [], harness := (true, "9604883ff75e5b0d9a334acb260197841692de1925e2bec7ca77df0a84e99f13"), looks := true }, kinds := [], alts := [], laidByText := true, laidKinds := [.data], laidTests := true, laidLooks := .later }
def FnBootsUptoCardSaid : Prop := Claim7.holds Tryz.pinned (.plain (OpenSpec.upto fnBootsSpec)) fnBootsUptoCard

/-- THE SECOND FORM's CARD OF 'laws.FnPlanned'. -/
def fnPlannedUptoCard : Claim7 := { stood := { row := fnPlannedUptoRow, standIns := [], harness := (true, "9604883ff75e5b0d9a334acb260197841692de1925e2bec7ca77df0a84e99f13"), looks := true }, kinds := [], alts := [], laidByText := true, laidKinds := [.handle, .data, .sentinel, .sentinel, .sentinel, .sentinel, .sentinel], laidTests := true, laidLooks := .later }
def FnPlannedUptoCardSaid : Prop := Claim7.holds Tryz.pinned (.plain (OpenSpec.upto fnPlannedSpec)) fnPlannedUptoCard
end Rows
end Go.Proofs.YtdkmhaghnfhajaaGreatDoor
