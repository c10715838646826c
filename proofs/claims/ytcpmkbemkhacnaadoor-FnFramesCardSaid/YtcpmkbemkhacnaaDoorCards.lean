/-
  DERIVED. GIVEN WITH THE SEED: THE CARDS: each row of YtcpmkbemkhacnaaDoorRows.lean that lists a variable, with what it lists TIED to the program's text (the seventh form; the later family's looks); each row that meets fmt, with fmt's text TOLD by the authors' own Lean function (tested against real Go, not proved from fmt's source: count such statements apart). THE CARD IS WHAT COUNTS. Prove the row's statement (the work); the ties are given (YtcpmkbemkhacnaaDoorTie.lean); close each card by the builder's one call (the guide's Derived/Test/ToyasCard.lean, 'card_holds'). Laid BY PROGRAM, IN A SANDBOX (cutbox-door.mjs). By AI agents, Wed Nov 11 2026. No macro, syntax, notation, axiom, sorry.
-/
import Derived.Test.YtcpmkbemkhacnaaDoorRows
import GoSem.ClaimSeven
namespace Go.Proofs.YtcpmkbemkhacnaaDoor
namespace Rows

/-- THE TIED CARD OF 'laws.FnTorn'. -/
def fnTornCard : Claim7 := { stood := { row := fnTornRow, standIns := [], harness := (true, "51da49b20b10ecf9f669aea10da00f70a695e590082b5c6c1793561cf13e70b2"), looks := false }, kinds := [], alts := [], laidByText := true, laidKinds := [.data], laidTests := true, laidLooks := .later }
def FnTornCardSaid : Prop := Claim7.holds Tryd.pinned (.plain (OpenSpec.ofChange fnTornSpec)) fnTornCard

/-- THE TIED CARD OF 'laws.FnFrames'. -/
def fnFramesCard : Claim7 := { stood := { row := fnFramesRow, standIns := [], harness := (true, "51da49b20b10ecf9f669aea10da00f70a695e590082b5c6c1793561cf13e70b2"), looks := false }, kinds := [], alts := [], laidByText := true, laidKinds := [.data], laidTests := true, laidLooks := .later }
def FnFramesCardSaid : Prop := Claim7.holds Tryd.pinned (.plain (OpenSpec.ofChange fnFramesSpec)) fnFramesCard

/-- THE TIED CARD OF 'laws.FnExactFramed'. -/
def fnExactFramedCard : Claim7 := { stood := { row := fnExactFramedRow, standIns := [], harness := (true, "51da49b20b10ecf9f669aea10da00f70a695e590082b5c6c1793561cf13e70b2"), looks := false }, kinds := [], alts := [], laidByText := true, laidKinds := [.data], laidTests := true, laidLooks := .later }
def FnExactFramedCardSaid : Prop := Claim7.holds Tryd.pinned (.plain (OpenSpec.ofChange fnExactFramedSpec)) fnExactFramedCard

/-- THE TIED CARD OF 'laws.FnExactReadFrames'. -/
def fnExactReadFramesCard : Claim7 := { stood := { row := fnExactReadFramesRow, standIns := [], harness := (true, "51da49b20b10ecf9f669aea10da00f70a695e590082b5c6c1793561cf13e70b2"), looks := false }, kinds := [], alts := [], laidByText := true, laidKinds := [.data], laidTests := true, laidLooks := .later }
def FnExactReadFramesCardSaid : Prop := Claim7.holds Tryd.pinned (.plain (OpenSpec.ofChange fnExactReadFramesSpec)) fnExactReadFramesCard

/-- THE TIED CARD OF 'laws.FnExactWithFrame'. -/
def fnExactWithFrameCard : Claim7 := { stood := { row := fnExactWithFrameRow, standIns := [], harness := (true, "51da49b20b10ecf9f669aea10da00f70a695e590082b5c6c1793561cf13e70b2"), looks := false }, kinds := [], alts := [], laidByText := true, laidKinds := [.data], laidTests := true, laidLooks := .later }
def FnExactWithFrameCardSaid : Prop := Claim7.holds Tryd.pinned (.plain (OpenSpec.ofChange fnExactWithFrameSpec)) fnExactWithFrameCard

/-- THE SECOND FORM's CARD OF 'laws.FnTorn'. -/
def fnTornUptoCard : Claim7 := { stood := { row := fnTornUptoRow, standIns := [], harness := (true, "51da49b20b10ecf9f669aea10da00f70a695e590082b5c6c1793561cf13e70b2"), looks := false }, kinds := [], alts := [], laidByText := true, laidKinds := [.data], laidTests := true, laidLooks := .later }
def FnTornUptoCardSaid : Prop := Claim7.holds Tryd.pinned (.plain (OpenSpec.upto fnTornSpec)) fnTornUptoCard

/-- THE SECOND FORM's CARD OF 'laws.FnFrames'. -/
def fnFramesUptoCard : Claim7 := { stood := { row := fnFramesUptoRow, standIns := [], harness := (true, "51da49b20b10ecf9f669aea10da00f70a695e590082b5c6c1793561cf13e70b2"), looks := false }, kinds := [], alts := [], laidByText := true, laidKinds := [.data], laidTests := true, laidLooks := .later }
def FnFramesUptoCardSaid : Prop := Claim7.holds Tryd.pinned (.plain (OpenSpec.upto fnFramesSpec)) fnFramesUptoCard

/-- THE SECOND FORM's CARD OF 'laws.FnExactFramed'. -/
def fnExactFramedUptoCard : Claim7 := { stood := { row := fnExactFramedUptoRow, standIns := [], harness := (true, "51da49b20b10ecf9f669aea10da00f70a695e590082b5c6c1793561cf13e70b2"), looks := false }, kinds := [], alts := [], laidByText := true, laidKinds := [.data], laidTests := true, laidLooks := .later }
def FnExactFramedUptoCardSaid : Prop := Claim7.holds Tryd.pinned (.plain (OpenSpec.upto fnExactFramedSpec)) fnExactFramedUptoCard

/-- THE SECOND FORM's CARD OF 'laws.FnExactReadFrames'. -/
def fnExactReadFramesUptoCard : Claim7 := { stood := { row := fnExactReadFramesUptoRow, standIns := [], harness := (true, "51da49b20b10ecf9f669aea10da00f70a695e590082b5c6c1793561cf13e70b2"), looks := false }, kinds := [], alts := [], laidByText := true, laidKinds := [.data], laidTests := true, laidLooks := .later }
def FnExactReadFramesUptoCardSaid : Prop := Claim7.holds Tryd.pinned (.plain (OpenSpec.upto fnExactReadFramesSpec)) fnExactReadFramesUptoCard

/-- THE SECOND FORM's CARD OF 'laws.FnExactWithFrame'. -/
def fnExactWithFrameUptoCard : Claim7 := { stood := { row := fnExactWithFrameUptoRow, standIns := [], harness := (true, "51da49b20b10ecf9f669aea10da00f70a695e590082b5c6c1793561cf13e70b2"), looks := false }, kinds := [], alts := [], laidByText := true, laidKinds := [.data], laidTests := true, laidLooks := .later }
def FnExactWithFrameUptoCardSaid : Prop := Claim7.holds Tryd.pinned (.plain (OpenSpec.upto fnExactWithFrameSpec)) fnExactWithFrameUptoCard
end Rows
end Go.Proofs.YtcpmkbemkhacnaaDoor
