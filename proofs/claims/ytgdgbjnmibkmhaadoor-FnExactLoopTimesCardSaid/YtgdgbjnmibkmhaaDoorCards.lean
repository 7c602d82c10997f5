/-
  DERIVED. GIVEN WITH THE SEED: THE CARDS: each row of YtgdgbjnmibkmhaaDoorRows.lean that lists a variable, with what it lists TIED to the program's text (the seventh form; the later family's looks); each row that meets fmt, with fmt's text TOLD by the authors' own Lean function (tested against real Go, not proved from fmt's source: count such statements apart). THE CARD IS WHAT COUNTS. Prove the row's statement (the work); the ties are given (YtgdgbjnmibkmhaaDoorTie.lean); close each card by the builder's one call (the guide's Derived/Test/ToyasCard.lean, 'card_holds'). Laid BY PROGRAM, IN A SANDBOX (cutbox-door.mjs). By AI agents, Wed Nov 11 2026. No macro, syntax, notation, axiom, sorry.
-/
import Derived.Test.YtgdgbjnmibkmhaaDoorRows
import GoSem.ClaimSeven
namespace Go.Proofs.YtgdgbjnmibkmhaaDoor
namespace Rows

/-- THE TIED CARD OF 'laws.FnExactAllRules'. -/
def fnExactAllRulesCard : Claim7 := { stood := { row := fnExactAllRulesRow, standIns := [], harness := (true, "1dbdb7f763720ef51c7aa2d3d984c9fc30f0bcec0c44636f37b7ff217eccd972"), looks := true }, kinds := [], alts := [], laidByText := true, laidKinds := [.data, .widerDeep, .sentinel, .widerDeep, .sentinel], laidTests := true, laidLooks := .later }
def FnExactAllRulesCardSaid : Prop := Claim7.holds Tryd.pinned (.plain (OpenSpec.ofChange fnExactAllRulesSpec)) fnExactAllRulesCard

/-- THE TIED CARD OF 'laws.FnExactLoopTimes'. -/
def fnExactLoopTimesCard : Claim7 := { stood := { row := fnExactLoopTimesRow, standIns := [], harness := (true, "1dbdb7f763720ef51c7aa2d3d984c9fc30f0bcec0c44636f37b7ff217eccd972"), looks := true }, kinds := [], alts := [], laidByText := true, laidKinds := [.data, .widerDeep, .sentinel, .widerDeep], laidTests := true, laidLooks := .later }
def FnExactLoopTimesCardSaid : Prop := Claim7.holds Tryd.pinned (.plain (OpenSpec.ofChange fnExactLoopTimesSpec)) fnExactLoopTimesCard

/-- THE SECOND FORM's CARD OF 'laws.FnExactAllRules'. -/
def fnExactAllRulesUptoCard : Claim7 := { stood := { row := fnExactAllRulesUptoRow, standIns := [], harness := (true, "1dbdb7f763720ef51c7aa2d3d984c9fc30f0bcec0c44636f37b7ff217eccd972"), looks := true }, kinds := [], alts := [], laidByText := true, laidKinds := [.data, .widerDeep, .sentinel, .widerDeep, .sentinel], laidTests := true, laidLooks := .later }
def FnExactAllRulesUptoCardSaid : Prop := Claim7.holds Tryd.pinned (.plain (OpenSpec.upto fnExactAllRulesSpec)) fnExactAllRulesUptoCard

/-- THE SECOND FORM's CARD OF 'laws.FnExactLoopTimes'. -/
def fnExactLoopTimesUptoCard : Claim7 := { stood := { row := fnExactLoopTimesUptoRow, standIns := [], harness := (true, "1dbdb7f763720ef51c7aa2d3d984c9fc30f0bcec0c44636f37b7ff217eccd972"), looks := true }, kinds := [], alts := [], laidByText := true, laidKinds := [.data, .widerDeep, .sentinel, .widerDeep], laidTests := true, laidLooks := .later }
def FnExactLoopTimesUptoCardSaid : Prop := Claim7.holds Tryd.pinned (.plain (OpenSpec.upto fnExactLoopTimesSpec)) fnExactLoopTimesUptoCard
end Rows
end Go.Proofs.YtgdgbjnmibkmhaaDoor
