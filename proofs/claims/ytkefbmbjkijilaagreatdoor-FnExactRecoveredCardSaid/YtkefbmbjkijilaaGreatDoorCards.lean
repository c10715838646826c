/-
  DERIVED. GIVEN WITH THE SEED: THE CARDS: each row of YtkefbmbjkijilaaGreatDoorRows.lean that lists a variable, with what it lists TIED to the program's text (the seventh form; the later family's looks); each row that meets fmt, with fmt's text TOLD by the authors' own Lean function (tested against real Go, not proved from fmt's source: count such statements apart). THE CARD IS WHAT COUNTS. Prove the row's statement (the work); the ties are given (YtkefbmbjkijilaaGreatDoorTie.lean); close each card by the builder's one call (the guide's Derived/Test/ToyasCard.lean, 'card_holds'). Laid BY PROGRAM, IN A SANDBOX (cutbox-door.mjs). By AI agents, Wed Nov 11 2026. No macro, syntax, notation, axiom, sorry.
-/
import Derived.Test.YtkefbmbjkijilaaGreatDoorRows
import GoSem.ClaimSeven
namespace Go.Proofs.YtkefbmbjkijilaaGreatDoor
namespace Rows

/-- THE TIED CARD OF 'laws.FnExactAgentOk'. -/
def fnExactAgentOkCard : Claim7 := { stood := { row := fnExactAgentOkRow, standIns := [], harness := (true, "cc58cc4c8cc4c75dacc5fc30e8d201de6c3faa08657ee5364666688c52085f27"), looks := false }, kinds := [], alts := [], laidByText := true, laidKinds := [.data], laidTests := true, laidLooks := .later }
def FnExactAgentOkCardSaid : Prop := Claim7.holds Tryz.pinned (.plain (OpenSpec.ofChange fnExactAgentOkSpec)) fnExactAgentOkCard

/-- THE TIED CARD OF 'laws.FnExactNewAgent'. -/
def fnExactNewAgentCard : Claim7 := { stood := { row := fnExactNewAgentRow, standIns := [], harness := (true, "cc58cc4c8cc4c75dacc5fc30e8d201de6c3faa08657ee5364666688c52085f27"), looks := false }, kinds := [], alts := [], laidByText := true, laidKinds := [.data], laidTests := true, laidLooks := .later }
def FnExactNewAgentCardSaid : Prop := Claim7.holds Tryz.pinned (.plain (OpenSpec.ofChange fnExactNewAgentSpec)) fnExactNewAgentCard

/-- THE TIED CARD OF 'laws.FnExactRecovered'. -/
def fnExactRecoveredCard : Claim7 := { stood := { row := fnExactRecoveredRow, standIns := [], harness := (true, "cc58cc4c8cc4c75dacc5fc30e8d201de6c3faa08657ee5364666688c52085f27"), looks := false }, kinds := [], alts := [], laidByText := true, laidKinds := [.data], laidTests := true, laidLooks := .later }
def FnExactRecoveredCardSaid : Prop := Claim7.holds Tryz.pinned (.plain (OpenSpec.ofChange fnExactRecoveredSpec)) fnExactRecoveredCard

/-- THE SECOND FORM's CARD OF 'laws.FnExactAgentOk'. -/
def fnExactAgentOkUptoCard : Claim7 := { stood := { row := fnExactAgentOkUptoRow, standIns := [], harness := (true, "cc58cc4c8cc4c75dacc5fc30e8d201de6c3faa08657ee5364666688c52085f27"), looks := false }, kinds := [], alts := [], laidByText := true, laidKinds := [.data], laidTests := true, laidLooks := .later }
def FnExactAgentOkUptoCardSaid : Prop := Claim7.holds Tryz.pinned (.plain (OpenSpec.upto fnExactAgentOkSpec)) fnExactAgentOkUptoCard

/-- THE SECOND FORM's CARD OF 'laws.FnExactNewAgent'. -/
def fnExactNewAgentUptoCard : Claim7 := { stood := { row := fnExactNewAgentUptoRow, standIns := [], harness := (true, "cc58cc4c8cc4c75dacc5fc30e8d201de6c3faa08657ee5364666688c52085f27"), looks := false }, kinds := [], alts := [], laidByText := true, laidKinds := [.data], laidTests := true, laidLooks := .later }
def FnExactNewAgentUptoCardSaid : Prop := Claim7.holds Tryz.pinned (.plain (OpenSpec.upto fnExactNewAgentSpec)) fnExactNewAgentUptoCard

/-- THE SECOND FORM's CARD OF 'laws.FnExactRecovered'. -/
def fnExactRecoveredUptoCard : Claim7 := { stood := { row := fnExactRecoveredUptoRow, standIns := [], harness := (true, "cc58cc4c8cc4c75dacc5fc30e8d201de6c3faa08657ee5364666688c52085f27"), looks := false }, kinds := [], alts := [], laidByText := true, laidKinds := [.data], laidTests := true, laidLooks := .later }
def FnExactRecoveredUptoCardSaid : Prop := Claim7.holds Tryz.pinned (.plain (OpenSpec.upto fnExactRecoveredSpec)) fnExactRecoveredUptoCard
end Rows
end Go.Proofs.YtkefbmbjkijilaaGreatDoor
