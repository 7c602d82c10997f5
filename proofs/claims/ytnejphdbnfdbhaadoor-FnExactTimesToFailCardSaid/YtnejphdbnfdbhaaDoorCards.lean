/-
  DERIVED. GIVEN WITH THE SEED: THE CARDS: each row of YtnejphdbnfdbhaaDoorRows.lean that lists a variable, with what it lists TIED to the program's text (the seventh form; the later family's looks); each row that meets fmt, with fmt's text TOLD by the authors' own Lean function (tested against real Go, not proved from fmt's source: count such statements apart). THE CARD IS WHAT COUNTS. Prove the row's statement (the work); the ties are given (YtnejphdbnfdbhaaDoorTie.lean); close each card by the builder's one call (the guide's Derived/Test/ToyasCard.lean, 'card_holds'). Laid BY PROGRAM, IN A SANDBOX (cutbox-door.mjs). By AI agents, Wed Nov 11 2026. No macro, syntax, notation, axiom, sorry.
-/
import Derived.Test.YtnejphdbnfdbhaaDoorRows
import GoSem.ClaimSeven
namespace Go.Proofs.YtnejphdbnfdbhaaDoor
namespace Rows

/-- THE TIED CARD OF 'laws.FnExactReachedIn'. -/
def fnExactReachedInCard : Claim7 := { stood := { row := fnExactReachedInRow, standIns := [], harness := (true, "edaa055e680a9fc170aa4479b12a8ef8a1700ade65f3ed72f6130f02499d1bc1"), looks := true }, kinds := [], alts := [], laidByText := true, laidKinds := [.data, .widerDeep, .sentinel, .widerDeep], laidTests := true, laidLooks := .later }
def FnExactReachedInCardSaid : Prop := Claim7.holds Tryd.pinned (.plain (OpenSpec.ofChange fnExactReachedInSpec)) fnExactReachedInCard

/-- THE TIED CARD OF 'laws.FnExactUnroll'. -/
def fnExactUnrollCard : Claim7 := { stood := { row := fnExactUnrollRow, standIns := [], harness := (true, "edaa055e680a9fc170aa4479b12a8ef8a1700ade65f3ed72f6130f02499d1bc1"), looks := true }, kinds := [], alts := [], laidByText := true, laidKinds := [.data, .widerDeep, .sentinel, .widerDeep], laidTests := true, laidLooks := .later }
def FnExactUnrollCardSaid : Prop := Claim7.holds Tryd.pinned (.plain (OpenSpec.ofChange fnExactUnrollSpec)) fnExactUnrollCard

/-- THE TIED CARD OF 'laws.FnExactTimesFor'. -/
def fnExactTimesForCard : Claim7 := { stood := { row := fnExactTimesForRow, standIns := [], harness := (true, "edaa055e680a9fc170aa4479b12a8ef8a1700ade65f3ed72f6130f02499d1bc1"), looks := true }, kinds := [], alts := [], laidByText := true, laidKinds := [.data, .widerDeep, .sentinel, .widerDeep], laidTests := true, laidLooks := .later }
def FnExactTimesForCardSaid : Prop := Claim7.holds Tryd.pinned (.plain (OpenSpec.ofChange fnExactTimesForSpec)) fnExactTimesForCard

/-- THE TIED CARD OF 'laws.FnExactTimesToFail'. -/
def fnExactTimesToFailCard : Claim7 := { stood := { row := fnExactTimesToFailRow, standIns := [], harness := (true, "edaa055e680a9fc170aa4479b12a8ef8a1700ade65f3ed72f6130f02499d1bc1"), looks := true }, kinds := [], alts := [], laidByText := true, laidKinds := [.data, .widerDeep, .sentinel, .widerDeep], laidTests := true, laidLooks := .later }
def FnExactTimesToFailCardSaid : Prop := Claim7.holds Tryd.pinned (.plain (OpenSpec.ofChange fnExactTimesToFailSpec)) fnExactTimesToFailCard

/-- THE TIED CARD OF 'laws.FnExactCutLoops'. -/
def fnExactCutLoopsCard : Claim7 := { stood := { row := fnExactCutLoopsRow, standIns := [], harness := (true, "edaa055e680a9fc170aa4479b12a8ef8a1700ade65f3ed72f6130f02499d1bc1"), looks := true }, kinds := [], alts := [], laidByText := true, laidKinds := [.data, .widerDeep, .sentinel, .widerDeep], laidTests := true, laidLooks := .later }
def FnExactCutLoopsCardSaid : Prop := Claim7.holds Tryd.pinned (.plain (OpenSpec.ofChange fnExactCutLoopsSpec)) fnExactCutLoopsCard

/-- THE SECOND FORM's CARD OF 'laws.FnExactReachedIn'. -/
def fnExactReachedInUptoCard : Claim7 := { stood := { row := fnExactReachedInUptoRow, standIns := [], harness := (true, "edaa055e680a9fc170aa4479b12a8ef8a1700ade65f3ed72f6130f02499d1bc1"), looks := true }, kinds := [], alts := [], laidByText := true, laidKinds := [.data, .widerDeep, .sentinel, .widerDeep], laidTests := true, laidLooks := .later }
def FnExactReachedInUptoCardSaid : Prop := Claim7.holds Tryd.pinned (.plain (OpenSpec.upto fnExactReachedInSpec)) fnExactReachedInUptoCard

/-- THE SECOND FORM's CARD OF 'laws.FnExactUnroll'. -/
def fnExactUnrollUptoCard : Claim7 := { stood := { row := fnExactUnrollUptoRow, standIns := [], harness := (true, "edaa055e680a9fc170aa4479b12a8ef8a1700ade65f3ed72f6130f02499d1bc1"), looks := true }, kinds := [], alts := [], laidByText := true, laidKinds := [.data, .widerDeep, .sentinel, .widerDeep], laidTests := true, laidLooks := .later }
def FnExactUnrollUptoCardSaid : Prop := Claim7.holds Tryd.pinned (.plain (OpenSpec.upto fnExactUnrollSpec)) fnExactUnrollUptoCard

/-- THE SECOND FORM's CARD OF 'laws.FnExactTimesFor'. -/
def fnExactTimesForUptoCard : Claim7 := { stood := { row := fnExactTimesForUptoRow, standIns := [], harness := (true, "edaa055e680a9fc170aa4479b12a8ef8a1700ade65f3ed72f6130f02499d1bc1"), looks := true }, kinds := [], alts := [], laidByText := true, laidKinds := [.data, .widerDeep, .sentinel, .widerDeep], laidTests := true, laidLooks := .later }
def FnExactTimesForUptoCardSaid : Prop := Claim7.holds Tryd.pinned (.plain (OpenSpec.upto fnExactTimesForSpec)) fnExactTimesForUptoCard

/-- THE SECOND FORM's CARD OF 'laws.FnExactTimesToFail'. -/
def fnExactTimesToFailUptoCard : Claim7 := { stood := { row := fnExactTimesToFailUptoRow, standIns := [], harness := (true, "edaa055e680a9fc170aa4479b12a8ef8a1700ade65f3ed72f6130f02499d1bc1"), looks := true }, kinds := [], alts := [], laidByText := true, laidKinds := [.data, .widerDeep, .sentinel, .widerDeep], laidTests := true, laidLooks := .later }
def FnExactTimesToFailUptoCardSaid : Prop := Claim7.holds Tryd.pinned (.plain (OpenSpec.upto fnExactTimesToFailSpec)) fnExactTimesToFailUptoCard

/-- THE SECOND FORM's CARD OF 'laws.FnExactCutLoops'. -/
def fnExactCutLoopsUptoCard : Claim7 := { stood := { row := fnExactCutLoopsUptoRow, standIns := [], harness := (true, "edaa055e680a9fc170aa4479b12a8ef8a1700ade65f3ed72f6130f02499d1bc1"), looks := true }, kinds := [], alts := [], laidByText := true, laidKinds := [.data, .widerDeep, .sentinel, .widerDeep], laidTests := true, laidLooks := .later }
def FnExactCutLoopsUptoCardSaid : Prop := Claim7.holds Tryd.pinned (.plain (OpenSpec.upto fnExactCutLoopsSpec)) fnExactCutLoopsUptoCard
end Rows
end Go.Proofs.YtnejphdbnfdbhaaDoor
