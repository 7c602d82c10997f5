/-
  DERIVED. GIVEN WITH THE SEED: THE CARDS: each row of YtmgfdicmmldjfaaDoorRows.lean that lists a variable, with what it lists TIED to the program's text (the seventh form; the later family's looks); each row that meets fmt, with fmt's text TOLD by the authors' own Lean function (tested against real Go, not proved from fmt's source: count such statements apart). THE CARD IS WHAT COUNTS. Prove the row's statement (the work); the ties are given (YtmgfdicmmldjfaaDoorTie.lean); close each card by the builder's one call (the guide's Derived/Test/ToyasCard.lean, 'card_holds'). Laid BY PROGRAM, IN A SANDBOX (cutbox-door.mjs). By AI agents, Wed Nov 11 2026. No macro, syntax, notation, axiom, sorry.
-/
import Derived.Test.YtmgfdicmmldjfaaDoorRows
import GoSem.ClaimSeven
namespace Go.Proofs.YtmgfdicmmldjfaaDoor
namespace Rows

/-- THE TIED CARD OF 'laws.FnExactSameResults'. -/
def fnExactSameResultsCard : Claim7 := { stood := { row := fnExactSameResultsRow, standIns := [], harness := (true, "6dfae9238a3a9ca583c4f03a5351eca7957226b841da29b0a676900e46554b11"), looks := true }, kinds := [], alts := [], laidByText := true, laidKinds := [.data, .widerDeep, .sentinel, .widerDeep], laidTests := true, laidLooks := .later }
def FnExactSameResultsCardSaid : Prop := Claim7.holds Tryd.pinned (.plain (OpenSpec.ofChange fnExactSameResultsSpec)) fnExactSameResultsCard

/-- THE TIED CARD OF 'laws.FnExactIsBelow'. -/
def fnExactIsBelowCard : Claim7 := { stood := { row := fnExactIsBelowRow, standIns := [], harness := (true, "6dfae9238a3a9ca583c4f03a5351eca7957226b841da29b0a676900e46554b11"), looks := true }, kinds := [], alts := [], laidByText := true, laidKinds := [.data, .widerDeep, .sentinel, .widerDeep], laidTests := true, laidLooks := .later }
def FnExactIsBelowCardSaid : Prop := Claim7.holds Tryd.pinned (.plain (OpenSpec.ofChange fnExactIsBelowSpec)) fnExactIsBelowCard

/-- THE TIED CARD OF 'laws.FnExactDiffers'. -/
def fnExactDiffersCard : Claim7 := { stood := { row := fnExactDiffersRow, standIns := [], harness := (true, "6dfae9238a3a9ca583c4f03a5351eca7957226b841da29b0a676900e46554b11"), looks := true }, kinds := [], alts := [], laidByText := true, laidKinds := [.data, .widerDeep, .sentinel, .widerDeep], laidTests := true, laidLooks := .later }
def FnExactDiffersCardSaid : Prop := Claim7.holds Tryd.pinned (.plain (OpenSpec.ofChange fnExactDiffersSpec)) fnExactDiffersCard

/-- THE TIED CARD OF 'laws.FnExactSimplify'. -/
def fnExactSimplifyCard : Claim7 := { stood := { row := fnExactSimplifyRow, standIns := [], harness := (true, "6dfae9238a3a9ca583c4f03a5351eca7957226b841da29b0a676900e46554b11"), looks := true }, kinds := [], alts := [], laidByText := true, laidKinds := [.data, .widerDeep, .sentinel, .widerDeep], laidTests := true, laidLooks := .later }
def FnExactSimplifyCardSaid : Prop := Claim7.holds Tryd.pinned (.plain (OpenSpec.ofChange fnExactSimplifySpec)) fnExactSimplifyCard

/-- THE TIED CARD OF 'laws.FnExactSimplerTop'. -/
def fnExactSimplerTopCard : Claim7 := { stood := { row := fnExactSimplerTopRow, standIns := [], harness := (true, "6dfae9238a3a9ca583c4f03a5351eca7957226b841da29b0a676900e46554b11"), looks := true }, kinds := [], alts := [], laidByText := true, laidKinds := [.data, .widerDeep, .sentinel, .widerDeep], laidTests := true, laidLooks := .later }
def FnExactSimplerTopCardSaid : Prop := Claim7.holds Tryd.pinned (.plain (OpenSpec.ofChange fnExactSimplerTopSpec)) fnExactSimplerTopCard

/-- THE TIED CARD OF 'laws.FnExactCountSimpler'. -/
def fnExactCountSimplerCard : Claim7 := { stood := { row := fnExactCountSimplerRow, standIns := [], harness := (true, "6dfae9238a3a9ca583c4f03a5351eca7957226b841da29b0a676900e46554b11"), looks := true }, kinds := [], alts := [], laidByText := true, laidKinds := [.data, .widerDeep, .sentinel, .widerDeep], laidTests := true, laidLooks := .later }
def FnExactCountSimplerCardSaid : Prop := Claim7.holds Tryd.pinned (.plain (OpenSpec.ofChange fnExactCountSimplerSpec)) fnExactCountSimplerCard

/-- THE TIED CARD OF 'laws.FnExactIsPlain'. -/
def fnExactIsPlainCard : Claim7 := { stood := { row := fnExactIsPlainRow, standIns := [], harness := (true, "6dfae9238a3a9ca583c4f03a5351eca7957226b841da29b0a676900e46554b11"), looks := true }, kinds := [], alts := [], laidByText := true, laidKinds := [.data, .widerDeep, .sentinel, .widerDeep], laidTests := true, laidLooks := .later }
def FnExactIsPlainCardSaid : Prop := Claim7.holds Tryd.pinned (.plain (OpenSpec.ofChange fnExactIsPlainSpec)) fnExactIsPlainCard

/-- THE TIED CARD OF 'laws.FnExactShortest'. -/
def fnExactShortestCard : Claim7 := { stood := { row := fnExactShortestRow, standIns := [], harness := (true, "6dfae9238a3a9ca583c4f03a5351eca7957226b841da29b0a676900e46554b11"), looks := true }, kinds := [], alts := [], laidByText := true, laidKinds := [.data, .widerDeep, .sentinel, .widerDeep], laidTests := true, laidLooks := .later }
def FnExactShortestCardSaid : Prop := Claim7.holds Tryd.pinned (.plain (OpenSpec.ofChange fnExactShortestSpec)) fnExactShortestCard

/-- THE SECOND FORM's CARD OF 'laws.FnExactSameResults'. -/
def fnExactSameResultsUptoCard : Claim7 := { stood := { row := fnExactSameResultsUptoRow, standIns := [], harness := (true, "6dfae9238a3a9ca583c4f03a5351eca7957226b841da29b0a676900e46554b11"), looks := true }, kinds := [], alts := [], laidByText := true, laidKinds := [.data, .widerDeep, .sentinel, .widerDeep], laidTests := true, laidLooks := .later }
def FnExactSameResultsUptoCardSaid : Prop := Claim7.holds Tryd.pinned (.plain (OpenSpec.upto fnExactSameResultsSpec)) fnExactSameResultsUptoCard

/-- THE SECOND FORM's CARD OF 'laws.FnExactIsBelow'. -/
def fnExactIsBelowUptoCard : Claim7 := { stood := { row := fnExactIsBelowUptoRow, standIns := [], harness := (true, "6dfae9238a3a9ca583c4f03a5351eca7957226b841da29b0a676900e46554b11"), looks := true }, kinds := [], alts := [], laidByText := true, laidKinds := [.data, .widerDeep, .sentinel, .widerDeep], laidTests := true, laidLooks := .later }
def FnExactIsBelowUptoCardSaid : Prop := Claim7.holds Tryd.pinned (.plain (OpenSpec.upto fnExactIsBelowSpec)) fnExactIsBelowUptoCard

/-- THE SECOND FORM's CARD OF 'laws.FnExactDiffers'. -/
def fnExactDiffersUptoCard : Claim7 := { stood := { row := fnExactDiffersUptoRow, standIns := [], harness := (true, "6dfae9238a3a9ca583c4f03a5351eca7957226b841da29b0a676900e46554b11"), looks := true }, kinds := [], alts := [], laidByText := true, laidKinds := [.data, .widerDeep, .sentinel, .widerDeep], laidTests := true, laidLooks := .later }
def FnExactDiffersUptoCardSaid : Prop := Claim7.holds Tryd.pinned (.plain (OpenSpec.upto fnExactDiffersSpec)) fnExactDiffersUptoCard

/-- THE SECOND FORM's CARD OF 'laws.FnExactSimplify'. -/
def fnExactSimplifyUptoCard : Claim7 := { stood := { row := fnExactSimplifyUptoRow, standIns := [], harness := (true, "6dfae9238a3a9ca583c4f03a5351eca7957226b841da29b0a676900e46554b11"), looks := true }, kinds := [], alts := [], laidByText := true, laidKinds := [.data, .widerDeep, .sentinel, .widerDeep], laidTests := true, laidLooks := .later }
def FnExactSimplifyUptoCardSaid : Prop := Claim7.holds Tryd.pinned (.plain (OpenSpec.upto fnExactSimplifySpec)) fnExactSimplifyUptoCard

/-- THE SECOND FORM's CARD OF 'laws.FnExactSimplerTop'. -/
def fnExactSimplerTopUptoCard : Claim7 := { stood := { row := fnExactSimplerTopUptoRow, standIns := [], harness := (true, "6dfae9238a3a9ca583c4f03a5351eca7957226b841da29b0a676900e46554b11"), looks := true }, kinds := [], alts := [], laidByText := true, laidKinds := [.data, .widerDeep, .sentinel, .widerDeep], laidTests := true, laidLooks := .later }
def FnExactSimplerTopUptoCardSaid : Prop := Claim7.holds Tryd.pinned (.plain (OpenSpec.upto fnExactSimplerTopSpec)) fnExactSimplerTopUptoCard

/-- THE SECOND FORM's CARD OF 'laws.FnExactCountSimpler'. -/
def fnExactCountSimplerUptoCard : Claim7 := { stood := { row := fnExactCountSimplerUptoRow, standIns := [], harness := (true, "6dfae9238a3a9ca583c4f03a5351eca7957226b841da29b0a676900e46554b11"), looks := true }, kinds := [], alts := [], laidByText := true, laidKinds := [.data, .widerDeep, .sentinel, .widerDeep], laidTests := true, laidLooks := .later }
def FnExactCountSimplerUptoCardSaid : Prop := Claim7.holds Tryd.pinned (.plain (OpenSpec.upto fnExactCountSimplerSpec)) fnExactCountSimplerUptoCard

/-- THE SECOND FORM's CARD OF 'laws.FnExactIsPlain'. -/
def fnExactIsPlainUptoCard : Claim7 := { stood := { row := fnExactIsPlainUptoRow, standIns := [], harness := (true, "6dfae9238a3a9ca583c4f03a5351eca7957226b841da29b0a676900e46554b11"), looks := true }, kinds := [], alts := [], laidByText := true, laidKinds := [.data, .widerDeep, .sentinel, .widerDeep], laidTests := true, laidLooks := .later }
def FnExactIsPlainUptoCardSaid : Prop := Claim7.holds Tryd.pinned (.plain (OpenSpec.upto fnExactIsPlainSpec)) fnExactIsPlainUptoCard

/-- THE SECOND FORM's CARD OF 'laws.FnExactShortest'. -/
def fnExactShortestUptoCard : Claim7 := { stood := { row := fnExactShortestUptoRow, standIns := [], harness := (true, "6dfae9238a3a9ca583c4f03a5351eca7957226b841da29b0a676900e46554b11"), looks := true }, kinds := [], alts := [], laidByText := true, laidKinds := [.data, .widerDeep, .sentinel, .widerDeep], laidTests := true, laidLooks := .later }
def FnExactShortestUptoCardSaid : Prop := Claim7.holds Tryd.pinned (.plain (OpenSpec.upto fnExactShortestSpec)) fnExactShortestUptoCard
end Rows
end Go.Proofs.YtmgfdicmmldjfaaDoor
