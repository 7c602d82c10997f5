/-
  DERIVED. GIVEN WITH THE SEED: THE CARDS: each row of YtngcdgnijfiocaaGreatDoorRows.lean that lists a variable, with what it lists TIED to the program's text (the seventh form; the later family's looks); each row that meets fmt, with fmt's text TOLD by the authors' own Lean function (tested against real Go, not proved from fmt's source: count such statements apart). THE CARD IS WHAT COUNTS. Prove the row's statement (the work); the ties are given (YtngcdgnijfiocaaGreatDoorTie.lean); close each card by the builder's one call (the guide's Derived/Test/ToyasCard.lean, 'card_holds'). Laid BY PROGRAM, IN A SANDBOX (cutbox-door.mjs). By AI agents, Wed Nov 11 2026. No macro, syntax, notation, axiom, sorry.
-/
import Derived.Test.YtngcdgnijfiocaaGreatDoorRows
import GoSem.ClaimSeven
namespace Go.Proofs.YtngcdgnijfiocaaGreatDoor
namespace Rows

/-- THE TIED CARD OF 'laws.FnLoopTimes'. -/
def fnLoopTimesCard : Claim7 := { stood := { row := fnLoopTimesRow, standIns := [], harness := (true, "47c25688b728f6aab78812f6925bc2501e89b16f6f0907bc75baf3ddae1136b8"), looks := true }, kinds := [], alts := [], laidByText := true, laidKinds := [.data, .widerDeep, .sentinel, .widerDeep], laidTests := true, laidLooks := .later }
def FnLoopTimesCardSaid : Prop := Claim7.holds Tryz.pinned (.plain (OpenSpec.ofChange fnLoopTimesSpec)) fnLoopTimesCard

/-- THE TIED CARD OF 'laws.FnLeastBefore'. -/
def fnLeastBeforeCard : Claim7 := { stood := { row := fnLeastBeforeRow, standIns := [], harness := (true, "47c25688b728f6aab78812f6925bc2501e89b16f6f0907bc75baf3ddae1136b8"), looks := true }, kinds := [], alts := [], laidByText := true, laidKinds := [.data, .widerDeep, .sentinel, .widerDeep, .sentinel, .sentinel], laidTests := true, laidLooks := .later }
def FnLeastBeforeCardSaid : Prop := Claim7.holds Tryz.pinned (.plain (OpenSpec.ofChange fnLeastBeforeSpec)) fnLeastBeforeCard

/-- THE TIED CARD OF 'laws.FnStepBack'. -/
def fnStepBackCard : Claim7 := { stood := { row := fnStepBackRow, standIns := [], harness := (true, "47c25688b728f6aab78812f6925bc2501e89b16f6f0907bc75baf3ddae1136b8"), looks := true }, kinds := [], alts := [], laidByText := true, laidKinds := [.data, .widerDeep, .sentinel, .widerDeep, .sentinel], laidTests := true, laidLooks := .later }
def FnStepBackCardSaid : Prop := Claim7.holds Tryz.pinned (.plain (OpenSpec.ofChange fnStepBackSpec)) fnStepBackCard

/-- THE SECOND FORM's CARD OF 'laws.FnLoopTimes'. -/
def fnLoopTimesUptoCard : Claim7 := { stood := { row := fnLoopTimesUptoRow, standIns := [], harness := (true, "47c25688b728f6aab78812f6925bc2501e89b16f6f0907bc75baf3ddae1136b8"), looks := true }, kinds := [], alts := [], laidByText := true, laidKinds := [.data, .widerDeep, .sentinel, .widerDeep], laidTests := true, laidLooks := .later }
def FnLoopTimesUptoCardSaid : Prop := Claim7.holds Tryz.pinned (.plain (OpenSpec.upto fnLoopTimesSpec)) fnLoopTimesUptoCard

/-- THE SECOND FORM's CARD OF 'laws.FnLeastBefore'. -/
def fnLeastBeforeUptoCard : Claim7 := { stood := { row := fnLeastBeforeUptoRow, standIns := [], harness := (true, "47c25688b728f6aab78812f6925bc2501e89b16f6f0907bc75baf3ddae1136b8"), looks := true }, kinds := [], alts := [], laidByText := true, laidKinds := [.data, .widerDeep, .sentinel, .widerDeep, .sentinel, .sentinel], laidTests := true, laidLooks := .later }
def FnLeastBeforeUptoCardSaid : Prop := Claim7.holds Tryz.pinned (.plain (OpenSpec.upto fnLeastBeforeSpec)) fnLeastBeforeUptoCard

/-- THE SECOND FORM's CARD OF 'laws.FnStepBack'. -/
def fnStepBackUptoCard : Claim7 := { stood := { row := fnStepBackUptoRow, standIns := [], harness := (true, "47c25688b728f6aab78812f6925bc2501e89b16f6f0907bc75baf3ddae1136b8"), looks := true }, kinds := [], alts := [], laidByText := true, laidKinds := [.data, .widerDeep, .sentinel, .widerDeep, .sentinel], laidTests := true, laidLooks := .later }
def FnStepBackUptoCardSaid : Prop := Claim7.holds Tryz.pinned (.plain (OpenSpec.upto fnStepBackSpec)) fnStepBackUptoCard
end Rows
end Go.Proofs.YtngcdgnijfiocaaGreatDoor
