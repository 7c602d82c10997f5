/-
  DERIVED. GIVEN WITH THE SEED: THE CARDS: each row of YtpepaobgngighabGreatDoorRows.lean that lists a variable, with what it lists TIED to the program's text (the seventh form; the later family's looks); each row that meets fmt, with fmt's text TOLD by the authors' own Lean function (tested against real Go, not proved from fmt's source: count such statements apart). THE CARD IS WHAT COUNTS. Prove the row's statement (the work); the ties are given (YtpepaobgngighabGreatDoorTie.lean); close each card by the builder's one call (the guide's Derived/Test/ToyasCard.lean, 'card_holds'). Laid BY PROGRAM, IN A SANDBOX (cutbox-door.mjs). By AI agents, Wed Nov 11 2026. No macro, syntax, notation, axiom, sorry.
-/
import Derived.Test.YtpepaobgngighabGreatDoorRows
import GoSem.ClaimSeven
namespace Go.Proofs.YtpepaobgngighabGreatDoor
namespace Rows

/-- THE TIED CARD OF 'laws.FnExactLeastBefore'. -/
def fnExactLeastBeforeCard : Claim7 := { stood := { row := fnExactLeastBeforeRow, standIns := [], harness := (true, "72232cd8fd94fa5a40f0f9bd0eb1b8a56c5e8bffdda64e560189cd1b2cb13187"), looks := true }, kinds := [], alts := [], laidByText := true, laidKinds := [.data, .widerDeep, .sentinel, .widerDeep, .sentinel], laidTests := true, laidLooks := .later }
def FnExactLeastBeforeCardSaid : Prop := Claim7.holds Tryz.pinned (.plain (OpenSpec.ofChange fnExactLeastBeforeSpec)) fnExactLeastBeforeCard

/-- THE TIED CARD OF 'laws.FnExactStepBack'. -/
def fnExactStepBackCard : Claim7 := { stood := { row := fnExactStepBackRow, standIns := [], harness := (true, "72232cd8fd94fa5a40f0f9bd0eb1b8a56c5e8bffdda64e560189cd1b2cb13187"), looks := true }, kinds := [], alts := [], laidByText := true, laidKinds := [.data, .widerDeep, .sentinel, .widerDeep, .sentinel], laidTests := true, laidLooks := .later }
def FnExactStepBackCardSaid : Prop := Claim7.holds Tryz.pinned (.plain (OpenSpec.ofChange fnExactStepBackSpec)) fnExactStepBackCard

/-- THE SECOND FORM's CARD OF 'laws.FnExactLeastBefore'. -/
def fnExactLeastBeforeUptoCard : Claim7 := { stood := { row := fnExactLeastBeforeUptoRow, standIns := [], harness := (true, "72232cd8fd94fa5a40f0f9bd0eb1b8a56c5e8bffdda64e560189cd1b2cb13187"), looks := true }, kinds := [], alts := [], laidByText := true, laidKinds := [.data, .widerDeep, .sentinel, .widerDeep, .sentinel], laidTests := true, laidLooks := .later }
def FnExactLeastBeforeUptoCardSaid : Prop := Claim7.holds Tryz.pinned (.plain (OpenSpec.upto fnExactLeastBeforeSpec)) fnExactLeastBeforeUptoCard

/-- THE SECOND FORM's CARD OF 'laws.FnExactStepBack'. -/
def fnExactStepBackUptoCard : Claim7 := { stood := { row := fnExactStepBackUptoRow, standIns := [], harness := (true, "72232cd8fd94fa5a40f0f9bd0eb1b8a56c5e8bffdda64e560189cd1b2cb13187"), looks := true }, kinds := [], alts := [], laidByText := true, laidKinds := [.data, .widerDeep, .sentinel, .widerDeep, .sentinel], laidTests := true, laidLooks := .later }
def FnExactStepBackUptoCardSaid : Prop := Claim7.holds Tryz.pinned (.plain (OpenSpec.upto fnExactStepBackSpec)) fnExactStepBackUptoCard
end Rows
end Go.Proofs.YtpepaobgngighabGreatDoor
