/-
  DERIVED. GIVEN WITH THE SEED: THE CARDS: each row of YtkmfmnolibkmoaaGreatDoorRows.lean that lists a variable, with what it lists TIED to the program's text (the seventh form; the later family's looks); each row that meets fmt, with fmt's text TOLD by the authors' own Lean function (tested against real Go, not proved from fmt's source: count such statements apart). THE CARD IS WHAT COUNTS. Prove the row's statement (the work); the ties are given (YtkmfmnolibkmoaaGreatDoorTie.lean); close each card by the builder's one call (the guide's Derived/Test/ToyasCard.lean, 'card_holds'). Laid BY PROGRAM, IN A SANDBOX (cutbox-door.mjs). By AI agents, Wed Nov 11 2026. No macro, syntax, notation, axiom, sorry.
-/
import Derived.Test.YtkmfmnolibkmoaaGreatDoorRows
import GoSem.ClaimSeven
namespace Go.Proofs.YtkmfmnolibkmoaaGreatDoor
namespace Rows

/-- THE TIED CARD OF 'laws.FnReached'. -/
def fnReachedCard : Claim7 := { stood := { row := fnReachedRow, standIns := [], harness := (true, "83df98f283f0c2662127bb639f92585aa85d9647ab47879719e38f910cd1f639"), looks := true }, kinds := [], alts := [], laidByText := true, laidKinds := [.data, .widerDeep, .sentinel, .widerDeep], laidTests := true, laidLooks := .later }
def FnReachedCardSaid : Prop := Claim7.holds Tryz.pinned (.plain (OpenSpec.ofChange fnReachedSpec)) fnReachedCard

/-- THE TIED CARD OF 'laws.FnFromStates'. -/
def fnFromStatesCard : Claim7 := { stood := { row := fnFromStatesRow, standIns := [], harness := (true, "83df98f283f0c2662127bb639f92585aa85d9647ab47879719e38f910cd1f639"), looks := true }, kinds := [], alts := [], laidByText := true, laidKinds := [.data, .widerDeep, .sentinel, .widerDeep], laidTests := true, laidLooks := .later }
def FnFromStatesCardSaid : Prop := Claim7.holds Tryz.pinned (.plain (OpenSpec.ofChange fnFromStatesSpec)) fnFromStatesCard

/-- THE SECOND FORM's CARD OF 'laws.FnReached'. -/
def fnReachedUptoCard : Claim7 := { stood := { row := fnReachedUptoRow, standIns := [], harness := (true, "83df98f283f0c2662127bb639f92585aa85d9647ab47879719e38f910cd1f639"), looks := true }, kinds := [], alts := [], laidByText := true, laidKinds := [.data, .widerDeep, .sentinel, .widerDeep], laidTests := true, laidLooks := .later }
def FnReachedUptoCardSaid : Prop := Claim7.holds Tryz.pinned (.plain (OpenSpec.upto fnReachedSpec)) fnReachedUptoCard

/-- THE SECOND FORM's CARD OF 'laws.FnFromStates'. -/
def fnFromStatesUptoCard : Claim7 := { stood := { row := fnFromStatesUptoRow, standIns := [], harness := (true, "83df98f283f0c2662127bb639f92585aa85d9647ab47879719e38f910cd1f639"), looks := true }, kinds := [], alts := [], laidByText := true, laidKinds := [.data, .widerDeep, .sentinel, .widerDeep], laidTests := true, laidLooks := .later }
def FnFromStatesUptoCardSaid : Prop := Claim7.holds Tryz.pinned (.plain (OpenSpec.upto fnFromStatesSpec)) fnFromStatesUptoCard
end Rows
end Go.Proofs.YtkmfmnolibkmoaaGreatDoor
