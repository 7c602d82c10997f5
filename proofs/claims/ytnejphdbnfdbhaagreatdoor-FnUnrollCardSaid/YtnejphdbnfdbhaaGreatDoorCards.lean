/-
  DERIVED. GIVEN WITH THE SEED: THE CARDS: each row of YtnejphdbnfdbhaaGreatDoorRows.lean that lists a variable, with what it lists TIED to the program's text (the seventh form; the later family's looks); each row that meets fmt, with fmt's text TOLD by the authors' own Lean function (tested against real Go, not proved from fmt's source: count such statements apart). THE CARD IS WHAT COUNTS. Prove the row's statement (the work); the ties are given (YtnejphdbnfdbhaaGreatDoorTie.lean); close each card by the builder's one call (the guide's Derived/Test/ToyasCard.lean, 'card_holds'). Laid BY PROGRAM, IN A SANDBOX (cutbox-door.mjs). By AI agents, Wed Nov 11 2026. No macro, syntax, notation, axiom, sorry.
-/
import Derived.Test.YtnejphdbnfdbhaaGreatDoorRows
import GoSem.ClaimSeven
namespace Go.Proofs.YtnejphdbnfdbhaaGreatDoor
namespace Rows

/-- THE TIED CARD OF 'laws.FnReachedIn'. -/
def fnReachedInCard : Claim7 := { stood := { row := fnReachedInRow, standIns := [], harness := (true, "3b59d618f81917da5647bb8ac49256e04bb42719d9d9f6cfa35c889b60035755"), looks := true }, kinds := [], alts := [], goes := true, laidByText := true, laidKinds := [.data, .widerDeep, .sentinel, .widerDeep], laidTests := true, laidLooks := .later }
def FnReachedInCardSaid : Prop := Claim7.holds Tryz.pinned (.plain (OpenSpec.ofChange fnReachedInSpec)) fnReachedInCard

/-- THE TIED CARD OF 'laws.FnUnroll'. -/
def fnUnrollCard : Claim7 := { stood := { row := fnUnrollRow, standIns := [], harness := (true, "3b59d618f81917da5647bb8ac49256e04bb42719d9d9f6cfa35c889b60035755"), looks := true }, kinds := [], alts := [], goes := true, laidByText := true, laidKinds := [.data, .widerDeep, .sentinel, .widerDeep], laidTests := true, laidLooks := .later }
def FnUnrollCardSaid : Prop := Claim7.holds Tryz.pinned (.plain (OpenSpec.ofChange fnUnrollSpec)) fnUnrollCard

/-- THE TIED CARD OF 'laws.FnGrowth'. -/
def fnGrowthCard : Claim7 := { stood := { row := fnGrowthRow, standIns := [], harness := (true, "3b59d618f81917da5647bb8ac49256e04bb42719d9d9f6cfa35c889b60035755"), looks := true }, kinds := [], alts := [], goes := true, laidByText := true, laidKinds := [.data, .widerDeep, .sentinel, .widerDeep], laidTests := true, laidLooks := .later }
def FnGrowthCardSaid : Prop := Claim7.holds Tryz.pinned (.plain (OpenSpec.ofChange fnGrowthSpec)) fnGrowthCard

/-- THE TIED CARD OF 'laws.FnExactGrowthOf'. -/
def fnExactGrowthOfCard : Claim7 := { stood := { row := fnExactGrowthOfRow, standIns := [], harness := (true, "3b59d618f81917da5647bb8ac49256e04bb42719d9d9f6cfa35c889b60035755"), looks := true }, kinds := [], alts := [], goes := true, laidByText := true, laidKinds := [.data, .widerDeep, .sentinel, .widerDeep], laidTests := true, laidLooks := .later }
def FnExactGrowthOfCardSaid : Prop := Claim7.holds Tryz.pinned (.plain (OpenSpec.ofChange fnExactGrowthOfSpec)) fnExactGrowthOfCard

/-- THE SECOND FORM's CARD OF 'laws.FnReachedIn'. -/
def fnReachedInUptoCard : Claim7 := { stood := { row := fnReachedInUptoRow, standIns := [], harness := (true, "3b59d618f81917da5647bb8ac49256e04bb42719d9d9f6cfa35c889b60035755"), looks := true }, kinds := [], alts := [], goes := true, laidByText := true, laidKinds := [.data, .widerDeep, .sentinel, .widerDeep], laidTests := true, laidLooks := .later }
def FnReachedInUptoCardSaid : Prop := Claim7.holds Tryz.pinned (.plain (OpenSpec.upto fnReachedInSpec)) fnReachedInUptoCard

/-- THE SECOND FORM's CARD OF 'laws.FnUnroll'. -/
def fnUnrollUptoCard : Claim7 := { stood := { row := fnUnrollUptoRow, standIns := [], harness := (true, "3b59d618f81917da5647bb8ac49256e04bb42719d9d9f6cfa35c889b60035755"), looks := true }, kinds := [], alts := [], goes := true, laidByText := true, laidKinds := [.data, .widerDeep, .sentinel, .widerDeep], laidTests := true, laidLooks := .later }
def FnUnrollUptoCardSaid : Prop := Claim7.holds Tryz.pinned (.plain (OpenSpec.upto fnUnrollSpec)) fnUnrollUptoCard

/-- THE SECOND FORM's CARD OF 'laws.FnGrowth'. -/
def fnGrowthUptoCard : Claim7 := { stood := { row := fnGrowthUptoRow, standIns := [], harness := (true, "3b59d618f81917da5647bb8ac49256e04bb42719d9d9f6cfa35c889b60035755"), looks := true }, kinds := [], alts := [], goes := true, laidByText := true, laidKinds := [.data, .widerDeep, .sentinel, .widerDeep], laidTests := true, laidLooks := .later }
def FnGrowthUptoCardSaid : Prop := Claim7.holds Tryz.pinned (.plain (OpenSpec.upto fnGrowthSpec)) fnGrowthUptoCard

/-- THE SECOND FORM's CARD OF 'laws.FnExactGrowthOf'. -/
def fnExactGrowthOfUptoCard : Claim7 := { stood := { row := fnExactGrowthOfUptoRow, standIns := [], harness := (true, "3b59d618f81917da5647bb8ac49256e04bb42719d9d9f6cfa35c889b60035755"), looks := true }, kinds := [], alts := [], goes := true, laidByText := true, laidKinds := [.data, .widerDeep, .sentinel, .widerDeep], laidTests := true, laidLooks := .later }
def FnExactGrowthOfUptoCardSaid : Prop := Claim7.holds Tryz.pinned (.plain (OpenSpec.upto fnExactGrowthOfSpec)) fnExactGrowthOfUptoCard
end Rows
end Go.Proofs.YtnejphdbnfdbhaaGreatDoor
