/-
  DERIVED. GIVEN WITH THE SEED: THE CARDS: each row of YtlfppcppjbfieaaGreatDoorRows.lean that lists a variable, with what it lists TIED to the program's text (the seventh form; the later family's looks); each row that meets fmt, with fmt's text TOLD by the authors' own Lean function (tested against real Go, not proved from fmt's source: count such statements apart). THE CARD IS WHAT COUNTS. Prove the row's statement (the work); the ties are given (YtlfppcppjbfieaaGreatDoorTie.lean); close each card by the builder's one call (the guide's Derived/Test/ToyasCard.lean, 'card_holds'). Laid BY PROGRAM, IN A SANDBOX (cutbox-door.mjs). By AI agents, Wed Nov 11 2026. No macro, syntax, notation, axiom, sorry.
-/
import Derived.Test.YtlfppcppjbfieaaGreatDoorRows
import GoSem.ClaimSeven
namespace Go.Proofs.YtlfppcppjbfieaaGreatDoor
namespace Rows

/-- THE TIED CARD OF 'laws.FnExactAppliedRec'. -/
def fnExactAppliedRecCard : Claim7 := { stood := { row := fnExactAppliedRecRow, standIns := [], harness := (true, "c3a396cc83476b57a5ec739f8f0cdcc496ffaec6fec867abeeb5119e2cb3c5c6"), looks := false }, kinds := [], alts := [], laidByText := true, laidKinds := [.data], laidTests := true, laidLooks := .later }
def FnExactAppliedRecCardSaid : Prop := Claim7.holds Tryz.pinned (.plain (OpenSpec.ofChange fnExactAppliedRecSpec)) fnExactAppliedRecCard

/-- THE TIED CARD OF 'laws.FnExactAppliedAll'. -/
def fnExactAppliedAllCard : Claim7 := { stood := { row := fnExactAppliedAllRow, standIns := [], harness := (true, "c3a396cc83476b57a5ec739f8f0cdcc496ffaec6fec867abeeb5119e2cb3c5c6"), looks := false }, kinds := [], alts := [], laidByText := true, laidKinds := [.data], laidTests := true, laidLooks := .later }
def FnExactAppliedAllCardSaid : Prop := Claim7.holds Tryz.pinned (.plain (OpenSpec.ofChange fnExactAppliedAllSpec)) fnExactAppliedAllCard

/-- THE SECOND FORM's CARD OF 'laws.FnExactAppliedRec'. -/
def fnExactAppliedRecUptoCard : Claim7 := { stood := { row := fnExactAppliedRecUptoRow, standIns := [], harness := (true, "c3a396cc83476b57a5ec739f8f0cdcc496ffaec6fec867abeeb5119e2cb3c5c6"), looks := false }, kinds := [], alts := [], laidByText := true, laidKinds := [.data], laidTests := true, laidLooks := .later }
def FnExactAppliedRecUptoCardSaid : Prop := Claim7.holds Tryz.pinned (.plain (OpenSpec.upto fnExactAppliedRecSpec)) fnExactAppliedRecUptoCard

/-- THE SECOND FORM's CARD OF 'laws.FnExactAppliedAll'. -/
def fnExactAppliedAllUptoCard : Claim7 := { stood := { row := fnExactAppliedAllUptoRow, standIns := [], harness := (true, "c3a396cc83476b57a5ec739f8f0cdcc496ffaec6fec867abeeb5119e2cb3c5c6"), looks := false }, kinds := [], alts := [], laidByText := true, laidKinds := [.data], laidTests := true, laidLooks := .later }
def FnExactAppliedAllUptoCardSaid : Prop := Claim7.holds Tryz.pinned (.plain (OpenSpec.upto fnExactAppliedAllSpec)) fnExactAppliedAllUptoCard
end Rows
end Go.Proofs.YtlfppcppjbfieaaGreatDoor
