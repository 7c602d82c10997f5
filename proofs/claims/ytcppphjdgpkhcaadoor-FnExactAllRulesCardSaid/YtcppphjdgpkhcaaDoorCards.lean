/-
  DERIVED. GIVEN WITH THE SEED: THE CARDS: each row of YtcppphjdgpkhcaaDoorRows.lean that lists a variable, with what it lists TIED to the program's text (the seventh form; the later family's looks); each row that meets fmt, with fmt's text TOLD by the authors' own Lean function (tested against real Go, not proved from fmt's source: count such statements apart). THE CARD IS WHAT COUNTS. Prove the row's statement (the work); the ties are given (YtcppphjdgpkhcaaDoorTie.lean); close each card by the builder's one call (the guide's Derived/Test/ToyasCard.lean, 'card_holds'). Laid BY PROGRAM, IN A SANDBOX (cutbox-door.mjs). By AI agents, Wed Nov 11 2026. No macro, syntax, notation, axiom, sorry.
-/
import Derived.Test.YtcppphjdgpkhcaaDoorRows
import GoSem.ClaimSeven
namespace Go.Proofs.YtcppphjdgpkhcaaDoor
namespace Rows

/-- THE TIED CARD OF 'laws.FnExactParseTriple'. -/
def fnExactParseTripleCard : Claim7 := { stood := { row := fnExactParseTripleRow, standIns := [], harness := (true, "964080e757c9af52a17dcc281e2e69ad959a7362eca8cd1389fde0a38a223ca3"), looks := true }, kinds := [], alts := [], laidByText := true, laidKinds := [.data, .sentinel, .sentinel, .data, .widerDeep, .sentinel, .widerDeep, .sentinel, .sentinel, .pinned], laidTests := true, laidLooks := .later }
def FnExactParseTripleCardSaid : Prop := Claim7.holds Tryd.pinned (.plain (OpenSpec.ofChange fnExactParseTripleSpec)) fnExactParseTripleCard

/-- THE TIED CARD OF 'laws.FnExactAllRules'. -/
def fnExactAllRulesCard : Claim7 := { stood := { row := fnExactAllRulesRow, standIns := [], harness := (true, "964080e757c9af52a17dcc281e2e69ad959a7362eca8cd1389fde0a38a223ca3"), looks := true }, kinds := [], alts := [], laidByText := true, laidKinds := [.data, .widerDeep, .sentinel, .widerDeep, .sentinel], laidTests := true, laidLooks := .later }
def FnExactAllRulesCardSaid : Prop := Claim7.holds Tryd.pinned (.plain (OpenSpec.ofChange fnExactAllRulesSpec)) fnExactAllRulesCard

/-- THE SECOND FORM's CARD OF 'laws.FnExactParseTriple'. -/
def fnExactParseTripleUptoCard : Claim7 := { stood := { row := fnExactParseTripleUptoRow, standIns := [], harness := (true, "964080e757c9af52a17dcc281e2e69ad959a7362eca8cd1389fde0a38a223ca3"), looks := true }, kinds := [], alts := [], laidByText := true, laidKinds := [.data, .sentinel, .sentinel, .data, .widerDeep, .sentinel, .widerDeep, .sentinel, .sentinel, .pinned], laidTests := true, laidLooks := .later }
def FnExactParseTripleUptoCardSaid : Prop := Claim7.holds Tryd.pinned (.plain (OpenSpec.upto fnExactParseTripleSpec)) fnExactParseTripleUptoCard

/-- THE SECOND FORM's CARD OF 'laws.FnExactAllRules'. -/
def fnExactAllRulesUptoCard : Claim7 := { stood := { row := fnExactAllRulesUptoRow, standIns := [], harness := (true, "964080e757c9af52a17dcc281e2e69ad959a7362eca8cd1389fde0a38a223ca3"), looks := true }, kinds := [], alts := [], laidByText := true, laidKinds := [.data, .widerDeep, .sentinel, .widerDeep, .sentinel], laidTests := true, laidLooks := .later }
def FnExactAllRulesUptoCardSaid : Prop := Claim7.holds Tryd.pinned (.plain (OpenSpec.upto fnExactAllRulesSpec)) fnExactAllRulesUptoCard
end Rows
end Go.Proofs.YtcppphjdgpkhcaaDoor
