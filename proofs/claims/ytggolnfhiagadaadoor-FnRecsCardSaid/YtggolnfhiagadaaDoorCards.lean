/-
  DERIVED. GIVEN WITH THE SEED: THE CARDS: each row of YtggolnfhiagadaaDoorRows.lean that lists a variable, with what it lists TIED to the program's text (the seventh form; the later family's looks); each row that meets fmt, with fmt's text TOLD by the authors' own Lean function (tested against real Go, not proved from fmt's source: count such statements apart). THE CARD IS WHAT COUNTS. Prove the row's statement (the work); the ties are given (YtggolnfhiagadaaDoorTie.lean); close each card by the builder's one call (the guide's Derived/Test/ToyasCard.lean, 'card_holds'). Laid BY PROGRAM, IN A SANDBOX (cutbox-door.mjs). By AI agents, Wed Nov 11 2026. No macro, syntax, notation, axiom, sorry.
-/
import Derived.Test.YtggolnfhiagadaaDoorRows
import GoSem.ClaimSeven
namespace Go.Proofs.YtggolnfhiagadaaDoor
namespace Rows

/-- THE TIED CARD OF 'laws.FnRecs'. -/
def fnRecsCard : Claim7 := { stood := { row := fnRecsRow, standIns := [], harness := (true, "affa60d451768dae6cceb6f4f35c6b992e6abcd2bee7d9399111cb5ab1612a55"), looks := false }, kinds := [], alts := [], laidByText := true, laidKinds := [.data], laidTests := true, laidLooks := .later }
def FnRecsCardSaid : Prop := Claim7.holds Tryd.pinned (.plain (OpenSpec.ofChange fnRecsSpec)) fnRecsCard

/-- THE TIED CARD OF 'laws.FnExactRecOk'. -/
def fnExactRecOkCard : Claim7 := { stood := { row := fnExactRecOkRow, standIns := [], harness := (true, "affa60d451768dae6cceb6f4f35c6b992e6abcd2bee7d9399111cb5ab1612a55"), looks := false }, kinds := [], alts := [], laidByText := true, laidKinds := [.data], laidTests := true, laidLooks := .later }
def FnExactRecOkCardSaid : Prop := Claim7.holds Tryd.pinned (.plain (OpenSpec.ofChange fnExactRecOkSpec)) fnExactRecOkCard

/-- THE TIED CARD OF 'laws.FnExactRecBytes'. -/
def fnExactRecBytesCard : Claim7 := { stood := { row := fnExactRecBytesRow, standIns := [], harness := (true, "affa60d451768dae6cceb6f4f35c6b992e6abcd2bee7d9399111cb5ab1612a55"), looks := false }, kinds := [], alts := [], laidByText := true, laidKinds := [.data], laidTests := true, laidLooks := .later }
def FnExactRecBytesCardSaid : Prop := Claim7.holds Tryd.pinned (.plain (OpenSpec.ofChange fnExactRecBytesSpec)) fnExactRecBytesCard

/-- THE TIED CARD OF 'laws.FnExactReadRecs'. -/
def fnExactReadRecsCard : Claim7 := { stood := { row := fnExactReadRecsRow, standIns := [], harness := (true, "affa60d451768dae6cceb6f4f35c6b992e6abcd2bee7d9399111cb5ab1612a55"), looks := false }, kinds := [], alts := [], laidByText := true, laidKinds := [.data], laidTests := true, laidLooks := .later }
def FnExactReadRecsCardSaid : Prop := Claim7.holds Tryd.pinned (.plain (OpenSpec.ofChange fnExactReadRecsSpec)) fnExactReadRecsCard

/-- THE SECOND FORM's CARD OF 'laws.FnRecs'. -/
def fnRecsUptoCard : Claim7 := { stood := { row := fnRecsUptoRow, standIns := [], harness := (true, "affa60d451768dae6cceb6f4f35c6b992e6abcd2bee7d9399111cb5ab1612a55"), looks := false }, kinds := [], alts := [], laidByText := true, laidKinds := [.data], laidTests := true, laidLooks := .later }
def FnRecsUptoCardSaid : Prop := Claim7.holds Tryd.pinned (.plain (OpenSpec.upto fnRecsSpec)) fnRecsUptoCard

/-- THE SECOND FORM's CARD OF 'laws.FnExactRecOk'. -/
def fnExactRecOkUptoCard : Claim7 := { stood := { row := fnExactRecOkUptoRow, standIns := [], harness := (true, "affa60d451768dae6cceb6f4f35c6b992e6abcd2bee7d9399111cb5ab1612a55"), looks := false }, kinds := [], alts := [], laidByText := true, laidKinds := [.data], laidTests := true, laidLooks := .later }
def FnExactRecOkUptoCardSaid : Prop := Claim7.holds Tryd.pinned (.plain (OpenSpec.upto fnExactRecOkSpec)) fnExactRecOkUptoCard

/-- THE SECOND FORM's CARD OF 'laws.FnExactRecBytes'. -/
def fnExactRecBytesUptoCard : Claim7 := { stood := { row := fnExactRecBytesUptoRow, standIns := [], harness := (true, "affa60d451768dae6cceb6f4f35c6b992e6abcd2bee7d9399111cb5ab1612a55"), looks := false }, kinds := [], alts := [], laidByText := true, laidKinds := [.data], laidTests := true, laidLooks := .later }
def FnExactRecBytesUptoCardSaid : Prop := Claim7.holds Tryd.pinned (.plain (OpenSpec.upto fnExactRecBytesSpec)) fnExactRecBytesUptoCard

/-- THE SECOND FORM's CARD OF 'laws.FnExactReadRecs'. -/
def fnExactReadRecsUptoCard : Claim7 := { stood := { row := fnExactReadRecsUptoRow, standIns := [], harness := (true, "affa60d451768dae6cceb6f4f35c6b992e6abcd2bee7d9399111cb5ab1612a55"), looks := false }, kinds := [], alts := [], laidByText := true, laidKinds := [.data], laidTests := true, laidLooks := .later }
def FnExactReadRecsUptoCardSaid : Prop := Claim7.holds Tryd.pinned (.plain (OpenSpec.upto fnExactReadRecsSpec)) fnExactReadRecsUptoCard
end Rows
end Go.Proofs.YtggolnfhiagadaaDoor
