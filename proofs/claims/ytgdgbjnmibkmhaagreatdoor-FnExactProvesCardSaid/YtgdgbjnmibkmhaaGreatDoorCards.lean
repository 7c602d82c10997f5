/-
  DERIVED. GIVEN WITH THE SEED: THE CARDS: each row of YtgdgbjnmibkmhaaGreatDoorRows.lean that lists a variable, with what it lists TIED to the program's text (the seventh form; the later family's looks); each row that meets fmt, with fmt's text TOLD by the authors' own Lean function (tested against real Go, not proved from fmt's source: count such statements apart). THE CARD IS WHAT COUNTS. Prove the row's statement (the work); the ties are given (YtgdgbjnmibkmhaaGreatDoorTie.lean); close each card by the builder's one call (the guide's Derived/Test/ToyasCard.lean, 'card_holds'). Laid BY PROGRAM, IN A SANDBOX (cutbox-door.mjs). By AI agents, Wed Nov 11 2026. No macro, syntax, notation, axiom, sorry.
-/
import Derived.Test.YtgdgbjnmibkmhaaGreatDoorRows
import GoSem.ClaimSeven
namespace Go.Proofs.YtgdgbjnmibkmhaaGreatDoor
namespace Rows

/-- THE TIED CARD OF 'laws.FnExactLineHolds'. -/
def fnExactLineHoldsCard : Claim7 := { stood := { row := fnExactLineHoldsRow, standIns := [], harness := (true, "725f93db9d050c7e8a8ce14193eb621121f49339106b27f6e578a18e0196de27"), looks := true }, kinds := [], alts := [], laidByText := true, laidKinds := [.data, .widerDeep, .sentinel, .widerDeep, .sentinel, .sentinel], laidTests := true, laidLooks := .later }
def FnExactLineHoldsCardSaid : Prop := Claim7.holds Tryz.pinned (.plain (OpenSpec.ofChange fnExactLineHoldsSpec)) fnExactLineHoldsCard

/-- THE TIED CARD OF 'laws.FnExactCheckProof'. -/
def fnExactCheckProofCard : Claim7 := { stood := { row := fnExactCheckProofRow, standIns := [], harness := (true, "725f93db9d050c7e8a8ce14193eb621121f49339106b27f6e578a18e0196de27"), looks := true }, kinds := [], alts := [], laidByText := true, laidKinds := [.data, .widerDeep, .sentinel, .widerDeep, .sentinel, .sentinel], laidTests := true, laidLooks := .later }
def FnExactCheckProofCardSaid : Prop := Claim7.holds Tryz.pinned (.plain (OpenSpec.ofChange fnExactCheckProofSpec)) fnExactCheckProofCard

/-- THE TIED CARD OF 'laws.FnExactProves'. -/
def fnExactProvesCard : Claim7 := { stood := { row := fnExactProvesRow, standIns := [], harness := (true, "725f93db9d050c7e8a8ce14193eb621121f49339106b27f6e578a18e0196de27"), looks := true }, kinds := [], alts := [], laidByText := true, laidKinds := [.data, .widerDeep, .sentinel, .widerDeep, .sentinel, .sentinel], laidTests := true, laidLooks := .later }
def FnExactProvesCardSaid : Prop := Claim7.holds Tryz.pinned (.plain (OpenSpec.ofChange fnExactProvesSpec)) fnExactProvesCard

/-- THE TIED CARD OF 'laws.FnExactRulesUsed'. -/
def fnExactRulesUsedCard : Claim7 := { stood := { row := fnExactRulesUsedRow, standIns := [], harness := (true, "725f93db9d050c7e8a8ce14193eb621121f49339106b27f6e578a18e0196de27"), looks := true }, kinds := [], alts := [], laidByText := true, laidKinds := [.data, .widerDeep, .sentinel, .widerDeep, .sentinel], laidTests := true, laidLooks := .later }
def FnExactRulesUsedCardSaid : Prop := Claim7.holds Tryz.pinned (.plain (OpenSpec.ofChange fnExactRulesUsedSpec)) fnExactRulesUsedCard

/-- THE TIED CARD OF 'laws.FnExactFormatProof'. -/
def fnExactFormatProofCard : Claim7 := { stood := { row := fnExactFormatProofRow, standIns := [], harness := (true, "725f93db9d050c7e8a8ce14193eb621121f49339106b27f6e578a18e0196de27"), looks := true }, kinds := [], alts := [], laidByText := true, laidKinds := [.data, .data, .data, .data, .widerDeep, .sentinel, .widerDeep, .sentinel, .sentinel, .sentinel], laidTests := true, laidLooks := .later }
def FnExactFormatProofCardSaid : Prop := Claim7.holds Tryz.pinned (.plain (OpenSpec.ofChange fnExactFormatProofSpec)) fnExactFormatProofCard

/-- THE TIED CARD OF 'laws.FnExactNeededLines'. -/
def fnExactNeededLinesCard : Claim7 := { stood := { row := fnExactNeededLinesRow, standIns := [], harness := (true, "725f93db9d050c7e8a8ce14193eb621121f49339106b27f6e578a18e0196de27"), looks := true }, kinds := [], alts := [], laidByText := true, laidKinds := [.data, .widerDeep, .sentinel, .widerDeep, .sentinel, .sentinel], laidTests := true, laidLooks := .later }
def FnExactNeededLinesCardSaid : Prop := Claim7.holds Tryz.pinned (.plain (OpenSpec.ofChange fnExactNeededLinesSpec)) fnExactNeededLinesCard

/-- THE SECOND FORM's CARD OF 'laws.FnExactLineHolds'. -/
def fnExactLineHoldsUptoCard : Claim7 := { stood := { row := fnExactLineHoldsUptoRow, standIns := [], harness := (true, "725f93db9d050c7e8a8ce14193eb621121f49339106b27f6e578a18e0196de27"), looks := true }, kinds := [], alts := [], laidByText := true, laidKinds := [.data, .widerDeep, .sentinel, .widerDeep, .sentinel, .sentinel], laidTests := true, laidLooks := .later }
def FnExactLineHoldsUptoCardSaid : Prop := Claim7.holds Tryz.pinned (.plain (OpenSpec.upto fnExactLineHoldsSpec)) fnExactLineHoldsUptoCard

/-- THE SECOND FORM's CARD OF 'laws.FnExactCheckProof'. -/
def fnExactCheckProofUptoCard : Claim7 := { stood := { row := fnExactCheckProofUptoRow, standIns := [], harness := (true, "725f93db9d050c7e8a8ce14193eb621121f49339106b27f6e578a18e0196de27"), looks := true }, kinds := [], alts := [], laidByText := true, laidKinds := [.data, .widerDeep, .sentinel, .widerDeep, .sentinel, .sentinel], laidTests := true, laidLooks := .later }
def FnExactCheckProofUptoCardSaid : Prop := Claim7.holds Tryz.pinned (.plain (OpenSpec.upto fnExactCheckProofSpec)) fnExactCheckProofUptoCard

/-- THE SECOND FORM's CARD OF 'laws.FnExactProves'. -/
def fnExactProvesUptoCard : Claim7 := { stood := { row := fnExactProvesUptoRow, standIns := [], harness := (true, "725f93db9d050c7e8a8ce14193eb621121f49339106b27f6e578a18e0196de27"), looks := true }, kinds := [], alts := [], laidByText := true, laidKinds := [.data, .widerDeep, .sentinel, .widerDeep, .sentinel, .sentinel], laidTests := true, laidLooks := .later }
def FnExactProvesUptoCardSaid : Prop := Claim7.holds Tryz.pinned (.plain (OpenSpec.upto fnExactProvesSpec)) fnExactProvesUptoCard

/-- THE SECOND FORM's CARD OF 'laws.FnExactRulesUsed'. -/
def fnExactRulesUsedUptoCard : Claim7 := { stood := { row := fnExactRulesUsedUptoRow, standIns := [], harness := (true, "725f93db9d050c7e8a8ce14193eb621121f49339106b27f6e578a18e0196de27"), looks := true }, kinds := [], alts := [], laidByText := true, laidKinds := [.data, .widerDeep, .sentinel, .widerDeep, .sentinel], laidTests := true, laidLooks := .later }
def FnExactRulesUsedUptoCardSaid : Prop := Claim7.holds Tryz.pinned (.plain (OpenSpec.upto fnExactRulesUsedSpec)) fnExactRulesUsedUptoCard

/-- THE SECOND FORM's CARD OF 'laws.FnExactFormatProof'. -/
def fnExactFormatProofUptoCard : Claim7 := { stood := { row := fnExactFormatProofUptoRow, standIns := [], harness := (true, "725f93db9d050c7e8a8ce14193eb621121f49339106b27f6e578a18e0196de27"), looks := true }, kinds := [], alts := [], laidByText := true, laidKinds := [.data, .data, .data, .data, .widerDeep, .sentinel, .widerDeep, .sentinel, .sentinel, .sentinel], laidTests := true, laidLooks := .later }
def FnExactFormatProofUptoCardSaid : Prop := Claim7.holds Tryz.pinned (.plain (OpenSpec.upto fnExactFormatProofSpec)) fnExactFormatProofUptoCard

/-- THE SECOND FORM's CARD OF 'laws.FnExactNeededLines'. -/
def fnExactNeededLinesUptoCard : Claim7 := { stood := { row := fnExactNeededLinesUptoRow, standIns := [], harness := (true, "725f93db9d050c7e8a8ce14193eb621121f49339106b27f6e578a18e0196de27"), looks := true }, kinds := [], alts := [], laidByText := true, laidKinds := [.data, .widerDeep, .sentinel, .widerDeep, .sentinel, .sentinel], laidTests := true, laidLooks := .later }
def FnExactNeededLinesUptoCardSaid : Prop := Claim7.holds Tryz.pinned (.plain (OpenSpec.upto fnExactNeededLinesSpec)) fnExactNeededLinesUptoCard
end Rows
end Go.Proofs.YtgdgbjnmibkmhaaGreatDoor
