/-
  DERIVED. GIVEN WITH THE SEED: THE CARDS: each row of YtgkgkaapjljpcaaDoorRows.lean that lists a variable, with what it lists TIED to the program's text (the seventh form; the later family's looks); each row that meets fmt, with fmt's text TOLD by the authors' own Lean function (tested against real Go, not proved from fmt's source: count such statements apart). THE CARD IS WHAT COUNTS. Prove the row's statement (the work); the ties are given (YtgkgkaapjljpcaaDoorTie.lean); close each card by the builder's one call (the guide's Derived/Test/ToyasCard.lean, 'card_holds'). Laid BY PROGRAM, IN A SANDBOX (cutbox-door.mjs). By AI agents, Wed Nov 11 2026. No macro, syntax, notation, axiom, sorry.
-/
import Derived.Test.YtgkgkaapjljpcaaDoorRows
import GoSem.ClaimSeven
namespace Go.Proofs.YtgkgkaapjljpcaaDoor
namespace Rows

/-- THE TIED CARD OF 'laws.FnNumbers'. -/
def fnNumbersCard : Claim7 := { stood := { row := fnNumbersRow, standIns := [], harness := (true, "20aab3bfd65089e7e2aff04de31019b9161408d8fe01c8cbbd7159d87f9492a2"), looks := true }, kinds := [], alts := [], laidByText := true, laidKinds := [.data, .data, .data, .sentinel], laidTests := true, laidLooks := .later }
def FnNumbersCardSaid : Prop := Claim7.holds Tryd.pinned (.plain (OpenSpec.ofChange fnNumbersSpec)) fnNumbersCard

/-- THE TIED CARD OF 'laws.FnExactFormatNumbers'. -/
def fnExactFormatNumbersCard : Claim7 := { stood := { row := fnExactFormatNumbersRow, standIns := [], harness := (true, "20aab3bfd65089e7e2aff04de31019b9161408d8fe01c8cbbd7159d87f9492a2"), looks := true }, kinds := [], alts := [], laidByText := true, laidKinds := [.data, .data, .data], laidTests := true, laidLooks := .later }
def FnExactFormatNumbersCardSaid : Prop := Claim7.holds Tryd.pinned (.plain (OpenSpec.ofChange fnExactFormatNumbersSpec)) fnExactFormatNumbersCard

/-- THE TIED CARD OF 'laws.FnExactParseExit'. -/
def fnExactParseExitCard : Claim7 := { stood := { row := fnExactParseExitRow, standIns := [], harness := (true, "20aab3bfd65089e7e2aff04de31019b9161408d8fe01c8cbbd7159d87f9492a2"), looks := true }, kinds := [], alts := [], laidByText := true, laidKinds := [.sentinel], laidTests := true, laidLooks := .later }
def FnExactParseExitCardSaid : Prop := Claim7.holds Tryd.pinned (.plain (OpenSpec.ofChange fnExactParseExitSpec)) fnExactParseExitCard

/-- THE TIED CARD OF 'laws.FnExactIsBelow'. -/
def fnExactIsBelowCard : Claim7 := { stood := { row := fnExactIsBelowRow, standIns := [], harness := (true, "20aab3bfd65089e7e2aff04de31019b9161408d8fe01c8cbbd7159d87f9492a2"), looks := true }, kinds := [], alts := [], laidByText := true, laidKinds := [.data, .widerDeep, .sentinel, .widerDeep], laidTests := true, laidLooks := .later }
def FnExactIsBelowCardSaid : Prop := Claim7.holds Tryd.pinned (.plain (OpenSpec.ofChange fnExactIsBelowSpec)) fnExactIsBelowCard

/-- THE TIED CARD OF 'laws.FnExactSimplify'. -/
def fnExactSimplifyCard : Claim7 := { stood := { row := fnExactSimplifyRow, standIns := [], harness := (true, "20aab3bfd65089e7e2aff04de31019b9161408d8fe01c8cbbd7159d87f9492a2"), looks := true }, kinds := [], alts := [], laidByText := true, laidKinds := [.data, .widerDeep, .sentinel, .widerDeep], laidTests := true, laidLooks := .later }
def FnExactSimplifyCardSaid : Prop := Claim7.holds Tryd.pinned (.plain (OpenSpec.ofChange fnExactSimplifySpec)) fnExactSimplifyCard

/-- THE TIED CARD OF 'laws.FnExactSimplerTop'. -/
def fnExactSimplerTopCard : Claim7 := { stood := { row := fnExactSimplerTopRow, standIns := [], harness := (true, "20aab3bfd65089e7e2aff04de31019b9161408d8fe01c8cbbd7159d87f9492a2"), looks := true }, kinds := [], alts := [], laidByText := true, laidKinds := [.data, .widerDeep, .sentinel, .widerDeep], laidTests := true, laidLooks := .later }
def FnExactSimplerTopCardSaid : Prop := Claim7.holds Tryd.pinned (.plain (OpenSpec.ofChange fnExactSimplerTopSpec)) fnExactSimplerTopCard

/-- THE TIED CARD OF 'laws.FnExactCountSimpler'. -/
def fnExactCountSimplerCard : Claim7 := { stood := { row := fnExactCountSimplerRow, standIns := [], harness := (true, "20aab3bfd65089e7e2aff04de31019b9161408d8fe01c8cbbd7159d87f9492a2"), looks := true }, kinds := [], alts := [], laidByText := true, laidKinds := [.data, .widerDeep, .sentinel, .widerDeep], laidTests := true, laidLooks := .later }
def FnExactCountSimplerCardSaid : Prop := Claim7.holds Tryd.pinned (.plain (OpenSpec.ofChange fnExactCountSimplerSpec)) fnExactCountSimplerCard

/-- THE TIED CARD OF 'laws.FnExactIsPlain'. -/
def fnExactIsPlainCard : Claim7 := { stood := { row := fnExactIsPlainRow, standIns := [], harness := (true, "20aab3bfd65089e7e2aff04de31019b9161408d8fe01c8cbbd7159d87f9492a2"), looks := true }, kinds := [], alts := [], laidByText := true, laidKinds := [.data, .widerDeep, .sentinel, .widerDeep], laidTests := true, laidLooks := .later }
def FnExactIsPlainCardSaid : Prop := Claim7.holds Tryd.pinned (.plain (OpenSpec.ofChange fnExactIsPlainSpec)) fnExactIsPlainCard

/-- THE TIED CARD OF 'laws.FnExactShortest'. -/
def fnExactShortestCard : Claim7 := { stood := { row := fnExactShortestRow, standIns := [], harness := (true, "20aab3bfd65089e7e2aff04de31019b9161408d8fe01c8cbbd7159d87f9492a2"), looks := true }, kinds := [], alts := [], laidByText := true, laidKinds := [.data, .widerDeep, .sentinel, .widerDeep], laidTests := true, laidLooks := .later }
def FnExactShortestCardSaid : Prop := Claim7.holds Tryd.pinned (.plain (OpenSpec.ofChange fnExactShortestSpec)) fnExactShortestCard

/-- THE SECOND FORM's CARD OF 'laws.FnNumbers'. -/
def fnNumbersUptoCard : Claim7 := { stood := { row := fnNumbersUptoRow, standIns := [], harness := (true, "20aab3bfd65089e7e2aff04de31019b9161408d8fe01c8cbbd7159d87f9492a2"), looks := true }, kinds := [], alts := [], laidByText := true, laidKinds := [.data, .data, .data, .sentinel], laidTests := true, laidLooks := .later }
def FnNumbersUptoCardSaid : Prop := Claim7.holds Tryd.pinned (.plain (OpenSpec.upto fnNumbersSpec)) fnNumbersUptoCard

/-- THE SECOND FORM's CARD OF 'laws.FnExactFormatNumbers'. -/
def fnExactFormatNumbersUptoCard : Claim7 := { stood := { row := fnExactFormatNumbersUptoRow, standIns := [], harness := (true, "20aab3bfd65089e7e2aff04de31019b9161408d8fe01c8cbbd7159d87f9492a2"), looks := true }, kinds := [], alts := [], laidByText := true, laidKinds := [.data, .data, .data], laidTests := true, laidLooks := .later }
def FnExactFormatNumbersUptoCardSaid : Prop := Claim7.holds Tryd.pinned (.plain (OpenSpec.upto fnExactFormatNumbersSpec)) fnExactFormatNumbersUptoCard

/-- THE SECOND FORM's CARD OF 'laws.FnExactParseExit'. -/
def fnExactParseExitUptoCard : Claim7 := { stood := { row := fnExactParseExitUptoRow, standIns := [], harness := (true, "20aab3bfd65089e7e2aff04de31019b9161408d8fe01c8cbbd7159d87f9492a2"), looks := true }, kinds := [], alts := [], laidByText := true, laidKinds := [.sentinel], laidTests := true, laidLooks := .later }
def FnExactParseExitUptoCardSaid : Prop := Claim7.holds Tryd.pinned (.plain (OpenSpec.upto fnExactParseExitSpec)) fnExactParseExitUptoCard

/-- THE SECOND FORM's CARD OF 'laws.FnExactIsBelow'. -/
def fnExactIsBelowUptoCard : Claim7 := { stood := { row := fnExactIsBelowUptoRow, standIns := [], harness := (true, "20aab3bfd65089e7e2aff04de31019b9161408d8fe01c8cbbd7159d87f9492a2"), looks := true }, kinds := [], alts := [], laidByText := true, laidKinds := [.data, .widerDeep, .sentinel, .widerDeep], laidTests := true, laidLooks := .later }
def FnExactIsBelowUptoCardSaid : Prop := Claim7.holds Tryd.pinned (.plain (OpenSpec.upto fnExactIsBelowSpec)) fnExactIsBelowUptoCard

/-- THE SECOND FORM's CARD OF 'laws.FnExactSimplify'. -/
def fnExactSimplifyUptoCard : Claim7 := { stood := { row := fnExactSimplifyUptoRow, standIns := [], harness := (true, "20aab3bfd65089e7e2aff04de31019b9161408d8fe01c8cbbd7159d87f9492a2"), looks := true }, kinds := [], alts := [], laidByText := true, laidKinds := [.data, .widerDeep, .sentinel, .widerDeep], laidTests := true, laidLooks := .later }
def FnExactSimplifyUptoCardSaid : Prop := Claim7.holds Tryd.pinned (.plain (OpenSpec.upto fnExactSimplifySpec)) fnExactSimplifyUptoCard

/-- THE SECOND FORM's CARD OF 'laws.FnExactSimplerTop'. -/
def fnExactSimplerTopUptoCard : Claim7 := { stood := { row := fnExactSimplerTopUptoRow, standIns := [], harness := (true, "20aab3bfd65089e7e2aff04de31019b9161408d8fe01c8cbbd7159d87f9492a2"), looks := true }, kinds := [], alts := [], laidByText := true, laidKinds := [.data, .widerDeep, .sentinel, .widerDeep], laidTests := true, laidLooks := .later }
def FnExactSimplerTopUptoCardSaid : Prop := Claim7.holds Tryd.pinned (.plain (OpenSpec.upto fnExactSimplerTopSpec)) fnExactSimplerTopUptoCard

/-- THE SECOND FORM's CARD OF 'laws.FnExactCountSimpler'. -/
def fnExactCountSimplerUptoCard : Claim7 := { stood := { row := fnExactCountSimplerUptoRow, standIns := [], harness := (true, "20aab3bfd65089e7e2aff04de31019b9161408d8fe01c8cbbd7159d87f9492a2"), looks := true }, kinds := [], alts := [], laidByText := true, laidKinds := [.data, .widerDeep, .sentinel, .widerDeep], laidTests := true, laidLooks := .later }
def FnExactCountSimplerUptoCardSaid : Prop := Claim7.holds Tryd.pinned (.plain (OpenSpec.upto fnExactCountSimplerSpec)) fnExactCountSimplerUptoCard

/-- THE SECOND FORM's CARD OF 'laws.FnExactIsPlain'. -/
def fnExactIsPlainUptoCard : Claim7 := { stood := { row := fnExactIsPlainUptoRow, standIns := [], harness := (true, "20aab3bfd65089e7e2aff04de31019b9161408d8fe01c8cbbd7159d87f9492a2"), looks := true }, kinds := [], alts := [], laidByText := true, laidKinds := [.data, .widerDeep, .sentinel, .widerDeep], laidTests := true, laidLooks := .later }
def FnExactIsPlainUptoCardSaid : Prop := Claim7.holds Tryd.pinned (.plain (OpenSpec.upto fnExactIsPlainSpec)) fnExactIsPlainUptoCard

/-- THE SECOND FORM's CARD OF 'laws.FnExactShortest'. -/
def fnExactShortestUptoCard : Claim7 := { stood := { row := fnExactShortestUptoRow, standIns := [], harness := (true, "20aab3bfd65089e7e2aff04de31019b9161408d8fe01c8cbbd7159d87f9492a2"), looks := true }, kinds := [], alts := [], laidByText := true, laidKinds := [.data, .widerDeep, .sentinel, .widerDeep], laidTests := true, laidLooks := .later }
def FnExactShortestUptoCardSaid : Prop := Claim7.holds Tryd.pinned (.plain (OpenSpec.upto fnExactShortestSpec)) fnExactShortestUptoCard
end Rows
end Go.Proofs.YtgkgkaapjljpcaaDoor
