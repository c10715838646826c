/-
  DERIVED. GIVEN WITH THE SEED: THE CARDS: each row of YtbcaginjibnngaaGreatDoorRows.lean that lists a variable, with what it lists TIED to the program's text (the seventh form; the later family's looks); each row that meets fmt, with fmt's text TOLD by the authors' own Lean function (tested against real Go, not proved from fmt's source: count such statements apart). THE CARD IS WHAT COUNTS. Prove the row's statement (the work); the ties are given (YtbcaginjibnngaaGreatDoorTie.lean); close each card by the builder's one call (the guide's Derived/Test/ToyasCard.lean, 'card_holds'). Laid BY PROGRAM, IN A SANDBOX (cutbox-door.mjs). By AI agents, Wed Nov 11 2026. No macro, syntax, notation, axiom, sorry.
-/
import Derived.Test.YtbcaginjibnngaaGreatDoorRows
import GoSem.ClaimSeven
namespace Go.Proofs.YtbcaginjibnngaaGreatDoor
namespace Rows

/-- THE TIED CARD OF 'laws.FnTicks'. -/
def fnTicksCard : Claim7 := { stood := { row := fnTicksRow, standIns := [], harness := (true, "703d07aa88b9cc7478b49ce0f89c879e78d41f2f2af568e76024e5b23de9a359"), looks := false }, kinds := [], alts := [], laidByText := true, laidKinds := [.data], laidTests := true, laidLooks := .later }
def FnTicksCardSaid : Prop := Claim7.holds Tryz.pinned (.plain (OpenSpec.ofChange fnTicksSpec)) fnTicksCard

/-- THE SECOND FORM's CARD OF 'laws.FnTicks'. -/
def fnTicksUptoCard : Claim7 := { stood := { row := fnTicksUptoRow, standIns := [], harness := (true, "703d07aa88b9cc7478b49ce0f89c879e78d41f2f2af568e76024e5b23de9a359"), looks := false }, kinds := [], alts := [], laidByText := true, laidKinds := [.data], laidTests := true, laidLooks := .later }
def FnTicksUptoCardSaid : Prop := Claim7.holds Tryz.pinned (.plain (OpenSpec.upto fnTicksSpec)) fnTicksUptoCard
end Rows
end Go.Proofs.YtbcaginjibnngaaGreatDoor
