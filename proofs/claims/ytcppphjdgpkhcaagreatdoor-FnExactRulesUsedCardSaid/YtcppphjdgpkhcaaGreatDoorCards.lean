/-
  DERIVED. GIVEN WITH THE SEED: THE CARDS: each row of YtcppphjdgpkhcaaGreatDoorRows.lean that lists a variable, with what it lists TIED to the program's text (the seventh form; the later family's looks); each row that meets fmt, with fmt's text TOLD by the authors' own Lean function (tested against real Go, not proved from fmt's source: count such statements apart). THE CARD IS WHAT COUNTS. Prove the row's statement (the work); the ties are given (YtcppphjdgpkhcaaGreatDoorTie.lean); close each card by the builder's one call (the guide's Derived/Test/ToyasCard.lean, 'card_holds'). Laid BY PROGRAM, IN A SANDBOX (cutbox-door.mjs). By AI agents, Wed Nov 11 2026. No macro, syntax, notation, axiom, sorry.
-/
import Derived.Test.YtcppphjdgpkhcaaGreatDoorRows
import GoSem.ClaimSeven
namespace Go.Proofs.YtcppphjdgpkhcaaGreatDoor
namespace Rows

/-- THE TIED CARD OF 'laws.FnTripleText'. -/
def fnTripleTextCard : Claim7 := { stood := { row := fnTripleTextRow, standIns := [], harness := (true, "c98865771d9bac7c5f2e14248542bec51f80b38367481ace04beb001964547f2"), looks := true }, kinds := [], alts := [], laidByText := true, laidKinds := [.data, .sentinel, .sentinel, .data, .widerDeep, .sentinel, .widerDeep, .sentinel, .sentinel, .pinned], laidTests := true, laidLooks := .later }
def FnTripleTextCardSaid : Prop := Claim7.holds Tryz.pinned (.plain (OpenSpec.ofChange fnTripleTextSpec)) fnTripleTextCard

/-- THE TIED CARD OF 'laws.FnCheckProof'. -/
def fnCheckProofCard : Claim7 := { stood := { row := fnCheckProofRow, standIns := [], harness := (true, "c98865771d9bac7c5f2e14248542bec51f80b38367481ace04beb001964547f2"), looks := true }, kinds := [], alts := [], laidByText := true, laidKinds := [.data, .widerDeep, .sentinel, .widerDeep, .sentinel, .sentinel], laidTests := true, laidLooks := .later }
def FnCheckProofCardSaid : Prop := Claim7.holds Tryz.pinned (.plain (OpenSpec.ofChange fnCheckProofSpec)) fnCheckProofCard

/-- THE TIED CARD OF 'laws.FnLineHolds'. -/
def fnLineHoldsCard : Claim7 := { stood := { row := fnLineHoldsRow, standIns := [], harness := (true, "c98865771d9bac7c5f2e14248542bec51f80b38367481ace04beb001964547f2"), looks := true }, kinds := [], alts := [], laidByText := true, laidKinds := [.data, .widerDeep, .sentinel, .widerDeep, .sentinel, .sentinel], laidTests := true, laidLooks := .later }
def FnLineHoldsCardSaid : Prop := Claim7.holds Tryz.pinned (.plain (OpenSpec.ofChange fnLineHoldsSpec)) fnLineHoldsCard

/-- THE TIED CARD OF 'laws.FnProofText'. -/
def fnProofTextCard : Claim7 := { stood := { row := fnProofTextRow, standIns := [], harness := (true, "c98865771d9bac7c5f2e14248542bec51f80b38367481ace04beb001964547f2"), looks := true }, kinds := [], alts := [], laidByText := true, laidKinds := [.data, .data, .data, .data, .sentinel, .sentinel, .sentinel, .sentinel, .data, .widerDeep, .sentinel, .widerDeep, .sentinel, .sentinel, .sentinel, .sentinel, .sentinel, .sentinel, .pinned], laidTests := true, laidLooks := .later }
def FnProofTextCardSaid : Prop := Claim7.holds Tryz.pinned (.plain (OpenSpec.ofChange fnProofTextSpec)) fnProofTextCard

/-- THE TIED CARD OF 'laws.FnNeeded'. -/
def fnNeededCard : Claim7 := { stood := { row := fnNeededRow, standIns := [], harness := (true, "c98865771d9bac7c5f2e14248542bec51f80b38367481ace04beb001964547f2"), looks := true }, kinds := [], alts := [], laidByText := true, laidKinds := [.data, .widerDeep, .sentinel, .widerDeep, .sentinel, .sentinel], laidTests := true, laidLooks := .later }
def FnNeededCardSaid : Prop := Claim7.holds Tryz.pinned (.plain (OpenSpec.ofChange fnNeededSpec)) fnNeededCard

/-- THE TIED CARD OF 'laws.FnExactLineHolds'. -/
def fnExactLineHoldsCard : Claim7 := { stood := { row := fnExactLineHoldsRow, standIns := [], harness := (true, "c98865771d9bac7c5f2e14248542bec51f80b38367481ace04beb001964547f2"), looks := true }, kinds := [], alts := [], laidByText := true, laidKinds := [.data, .widerDeep, .sentinel, .widerDeep, .sentinel, .sentinel], laidTests := true, laidLooks := .later }
def FnExactLineHoldsCardSaid : Prop := Claim7.holds Tryz.pinned (.plain (OpenSpec.ofChange fnExactLineHoldsSpec)) fnExactLineHoldsCard

/-- THE TIED CARD OF 'laws.FnExactCheckProof'. -/
def fnExactCheckProofCard : Claim7 := { stood := { row := fnExactCheckProofRow, standIns := [], harness := (true, "c98865771d9bac7c5f2e14248542bec51f80b38367481ace04beb001964547f2"), looks := true }, kinds := [], alts := [], laidByText := true, laidKinds := [.data, .widerDeep, .sentinel, .widerDeep, .sentinel, .sentinel], laidTests := true, laidLooks := .later }
def FnExactCheckProofCardSaid : Prop := Claim7.holds Tryz.pinned (.plain (OpenSpec.ofChange fnExactCheckProofSpec)) fnExactCheckProofCard

/-- THE TIED CARD OF 'laws.FnExactProves'. -/
def fnExactProvesCard : Claim7 := { stood := { row := fnExactProvesRow, standIns := [], harness := (true, "c98865771d9bac7c5f2e14248542bec51f80b38367481ace04beb001964547f2"), looks := true }, kinds := [], alts := [], laidByText := true, laidKinds := [.data, .widerDeep, .sentinel, .widerDeep, .sentinel, .sentinel], laidTests := true, laidLooks := .later }
def FnExactProvesCardSaid : Prop := Claim7.holds Tryz.pinned (.plain (OpenSpec.ofChange fnExactProvesSpec)) fnExactProvesCard

/-- THE TIED CARD OF 'laws.FnExactFormatProof'. -/
def fnExactFormatProofCard : Claim7 := { stood := { row := fnExactFormatProofRow, standIns := [], harness := (true, "c98865771d9bac7c5f2e14248542bec51f80b38367481ace04beb001964547f2"), looks := true }, kinds := [], alts := [], laidByText := true, laidKinds := [.data, .data, .data, .data, .widerDeep, .sentinel, .widerDeep, .sentinel, .sentinel, .sentinel], laidTests := true, laidLooks := .later }
def FnExactFormatProofCardSaid : Prop := Claim7.holds Tryz.pinned (.plain (OpenSpec.ofChange fnExactFormatProofSpec)) fnExactFormatProofCard

/-- THE TIED CARD OF 'laws.FnExactParseProof'. -/
def fnExactParseProofCard : Claim7 := { stood := { row := fnExactParseProofRow, standIns := [], harness := (true, "c98865771d9bac7c5f2e14248542bec51f80b38367481ace04beb001964547f2"), looks := true }, kinds := [], alts := [], laidByText := true, laidKinds := [.data, .data, .data, .data, .sentinel, .sentinel, .sentinel, .sentinel, .data, .widerDeep, .sentinel, .widerDeep, .sentinel, .sentinel, .sentinel, .sentinel, .sentinel, .sentinel, .pinned], laidTests := true, laidLooks := .later }
def FnExactParseProofCardSaid : Prop := Claim7.holds Tryz.pinned (.plain (OpenSpec.ofChange fnExactParseProofSpec)) fnExactParseProofCard

/-- THE TIED CARD OF 'laws.FnExactRulesUsed'. -/
def fnExactRulesUsedCard : Claim7 := { stood := { row := fnExactRulesUsedRow, standIns := [], harness := (true, "c98865771d9bac7c5f2e14248542bec51f80b38367481ace04beb001964547f2"), looks := true }, kinds := [], alts := [], laidByText := true, laidKinds := [.data, .widerDeep, .sentinel, .widerDeep, .sentinel], laidTests := true, laidLooks := .later }
def FnExactRulesUsedCardSaid : Prop := Claim7.holds Tryz.pinned (.plain (OpenSpec.ofChange fnExactRulesUsedSpec)) fnExactRulesUsedCard

/-- THE TIED CARD OF 'laws.FnExactNeededLines'. -/
def fnExactNeededLinesCard : Claim7 := { stood := { row := fnExactNeededLinesRow, standIns := [], harness := (true, "c98865771d9bac7c5f2e14248542bec51f80b38367481ace04beb001964547f2"), looks := true }, kinds := [], alts := [], laidByText := true, laidKinds := [.data, .widerDeep, .sentinel, .widerDeep, .sentinel, .sentinel], laidTests := true, laidLooks := .later }
def FnExactNeededLinesCardSaid : Prop := Claim7.holds Tryz.pinned (.plain (OpenSpec.ofChange fnExactNeededLinesSpec)) fnExactNeededLinesCard

/-- THE SECOND FORM's CARD OF 'laws.FnTripleText'. -/
def fnTripleTextUptoCard : Claim7 := { stood := { row := fnTripleTextUptoRow, standIns := [], harness := (true, "c98865771d9bac7c5f2e14248542bec51f80b38367481ace04beb001964547f2"), looks := true }, kinds := [], alts := [], laidByText := true, laidKinds := [.data, .sentinel, .sentinel, .data, .widerDeep, .sentinel, .widerDeep, .sentinel, .sentinel, .pinned], laidTests := true, laidLooks := .later }
def FnTripleTextUptoCardSaid : Prop := Claim7.holds Tryz.pinned (.plain (OpenSpec.upto fnTripleTextSpec)) fnTripleTextUptoCard

/-- THE SECOND FORM's CARD OF 'laws.FnCheckProof'. -/
def fnCheckProofUptoCard : Claim7 := { stood := { row := fnCheckProofUptoRow, standIns := [], harness := (true, "c98865771d9bac7c5f2e14248542bec51f80b38367481ace04beb001964547f2"), looks := true }, kinds := [], alts := [], laidByText := true, laidKinds := [.data, .widerDeep, .sentinel, .widerDeep, .sentinel, .sentinel], laidTests := true, laidLooks := .later }
def FnCheckProofUptoCardSaid : Prop := Claim7.holds Tryz.pinned (.plain (OpenSpec.upto fnCheckProofSpec)) fnCheckProofUptoCard

/-- THE SECOND FORM's CARD OF 'laws.FnLineHolds'. -/
def fnLineHoldsUptoCard : Claim7 := { stood := { row := fnLineHoldsUptoRow, standIns := [], harness := (true, "c98865771d9bac7c5f2e14248542bec51f80b38367481ace04beb001964547f2"), looks := true }, kinds := [], alts := [], laidByText := true, laidKinds := [.data, .widerDeep, .sentinel, .widerDeep, .sentinel, .sentinel], laidTests := true, laidLooks := .later }
def FnLineHoldsUptoCardSaid : Prop := Claim7.holds Tryz.pinned (.plain (OpenSpec.upto fnLineHoldsSpec)) fnLineHoldsUptoCard

/-- THE SECOND FORM's CARD OF 'laws.FnProofText'. -/
def fnProofTextUptoCard : Claim7 := { stood := { row := fnProofTextUptoRow, standIns := [], harness := (true, "c98865771d9bac7c5f2e14248542bec51f80b38367481ace04beb001964547f2"), looks := true }, kinds := [], alts := [], laidByText := true, laidKinds := [.data, .data, .data, .data, .sentinel, .sentinel, .sentinel, .sentinel, .data, .widerDeep, .sentinel, .widerDeep, .sentinel, .sentinel, .sentinel, .sentinel, .sentinel, .sentinel, .pinned], laidTests := true, laidLooks := .later }
def FnProofTextUptoCardSaid : Prop := Claim7.holds Tryz.pinned (.plain (OpenSpec.upto fnProofTextSpec)) fnProofTextUptoCard

/-- THE SECOND FORM's CARD OF 'laws.FnNeeded'. -/
def fnNeededUptoCard : Claim7 := { stood := { row := fnNeededUptoRow, standIns := [], harness := (true, "c98865771d9bac7c5f2e14248542bec51f80b38367481ace04beb001964547f2"), looks := true }, kinds := [], alts := [], laidByText := true, laidKinds := [.data, .widerDeep, .sentinel, .widerDeep, .sentinel, .sentinel], laidTests := true, laidLooks := .later }
def FnNeededUptoCardSaid : Prop := Claim7.holds Tryz.pinned (.plain (OpenSpec.upto fnNeededSpec)) fnNeededUptoCard

/-- THE SECOND FORM's CARD OF 'laws.FnExactLineHolds'. -/
def fnExactLineHoldsUptoCard : Claim7 := { stood := { row := fnExactLineHoldsUptoRow, standIns := [], harness := (true, "c98865771d9bac7c5f2e14248542bec51f80b38367481ace04beb001964547f2"), looks := true }, kinds := [], alts := [], laidByText := true, laidKinds := [.data, .widerDeep, .sentinel, .widerDeep, .sentinel, .sentinel], laidTests := true, laidLooks := .later }
def FnExactLineHoldsUptoCardSaid : Prop := Claim7.holds Tryz.pinned (.plain (OpenSpec.upto fnExactLineHoldsSpec)) fnExactLineHoldsUptoCard

/-- THE SECOND FORM's CARD OF 'laws.FnExactCheckProof'. -/
def fnExactCheckProofUptoCard : Claim7 := { stood := { row := fnExactCheckProofUptoRow, standIns := [], harness := (true, "c98865771d9bac7c5f2e14248542bec51f80b38367481ace04beb001964547f2"), looks := true }, kinds := [], alts := [], laidByText := true, laidKinds := [.data, .widerDeep, .sentinel, .widerDeep, .sentinel, .sentinel], laidTests := true, laidLooks := .later }
def FnExactCheckProofUptoCardSaid : Prop := Claim7.holds Tryz.pinned (.plain (OpenSpec.upto fnExactCheckProofSpec)) fnExactCheckProofUptoCard

/-- THE SECOND FORM's CARD OF 'laws.FnExactProves'. -/
def fnExactProvesUptoCard : Claim7 := { stood := { row := fnExactProvesUptoRow, standIns := [], harness := (true, "c98865771d9bac7c5f2e14248542bec51f80b38367481ace04beb001964547f2"), looks := true }, kinds := [], alts := [], laidByText := true, laidKinds := [.data, .widerDeep, .sentinel, .widerDeep, .sentinel, .sentinel], laidTests := true, laidLooks := .later }
def FnExactProvesUptoCardSaid : Prop := Claim7.holds Tryz.pinned (.plain (OpenSpec.upto fnExactProvesSpec)) fnExactProvesUptoCard

/-- THE SECOND FORM's CARD OF 'laws.FnExactFormatProof'. -/
def fnExactFormatProofUptoCard : Claim7 := { stood := { row := fnExactFormatProofUptoRow, standIns := [], harness := (true, "c98865771d9bac7c5f2e14248542bec51f80b38367481ace04beb001964547f2"), looks := true }, kinds := [], alts := [], laidByText := true, laidKinds := [.data, .data, .data, .data, .widerDeep, .sentinel, .widerDeep, .sentinel, .sentinel, .sentinel], laidTests := true, laidLooks := .later }
def FnExactFormatProofUptoCardSaid : Prop := Claim7.holds Tryz.pinned (.plain (OpenSpec.upto fnExactFormatProofSpec)) fnExactFormatProofUptoCard

/-- THE SECOND FORM's CARD OF 'laws.FnExactParseProof'. -/
def fnExactParseProofUptoCard : Claim7 := { stood := { row := fnExactParseProofUptoRow, standIns := [], harness := (true, "c98865771d9bac7c5f2e14248542bec51f80b38367481ace04beb001964547f2"), looks := true }, kinds := [], alts := [], laidByText := true, laidKinds := [.data, .data, .data, .data, .sentinel, .sentinel, .sentinel, .sentinel, .data, .widerDeep, .sentinel, .widerDeep, .sentinel, .sentinel, .sentinel, .sentinel, .sentinel, .sentinel, .pinned], laidTests := true, laidLooks := .later }
def FnExactParseProofUptoCardSaid : Prop := Claim7.holds Tryz.pinned (.plain (OpenSpec.upto fnExactParseProofSpec)) fnExactParseProofUptoCard

/-- THE SECOND FORM's CARD OF 'laws.FnExactRulesUsed'. -/
def fnExactRulesUsedUptoCard : Claim7 := { stood := { row := fnExactRulesUsedUptoRow, standIns := [], harness := (true, "c98865771d9bac7c5f2e14248542bec51f80b38367481ace04beb001964547f2"), looks := true }, kinds := [], alts := [], laidByText := true, laidKinds := [.data, .widerDeep, .sentinel, .widerDeep, .sentinel], laidTests := true, laidLooks := .later }
def FnExactRulesUsedUptoCardSaid : Prop := Claim7.holds Tryz.pinned (.plain (OpenSpec.upto fnExactRulesUsedSpec)) fnExactRulesUsedUptoCard

/-- THE SECOND FORM's CARD OF 'laws.FnExactNeededLines'. -/
def fnExactNeededLinesUptoCard : Claim7 := { stood := { row := fnExactNeededLinesUptoRow, standIns := [], harness := (true, "c98865771d9bac7c5f2e14248542bec51f80b38367481ace04beb001964547f2"), looks := true }, kinds := [], alts := [], laidByText := true, laidKinds := [.data, .widerDeep, .sentinel, .widerDeep, .sentinel, .sentinel], laidTests := true, laidLooks := .later }
def FnExactNeededLinesUptoCardSaid : Prop := Claim7.holds Tryz.pinned (.plain (OpenSpec.upto fnExactNeededLinesSpec)) fnExactNeededLinesUptoCard
end Rows
end Go.Proofs.YtcppphjdgpkhcaaGreatDoor
