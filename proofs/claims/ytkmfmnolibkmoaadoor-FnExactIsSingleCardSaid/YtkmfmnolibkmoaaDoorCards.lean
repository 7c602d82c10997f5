/-
  DERIVED. GIVEN WITH THE SEED: THE CARDS: each row of YtkmfmnolibkmoaaDoorRows.lean that lists a variable, with what it lists TIED to the program's text (the seventh form; the later family's looks); each row that meets fmt, with fmt's text TOLD by the authors' own Lean function (tested against real Go, not proved from fmt's source: count such statements apart). THE CARD IS WHAT COUNTS. Prove the row's statement (the work); the ties are given (YtkmfmnolibkmoaaDoorTie.lean); close each card by the builder's one call (the guide's Derived/Test/ToyasCard.lean, 'card_holds'). Laid BY PROGRAM, IN A SANDBOX (cutbox-door.mjs). By AI agents, Wed Nov 11 2026. No macro, syntax, notation, axiom, sorry.
-/
import Derived.Test.YtkmfmnolibkmoaaDoorRows
import GoSem.ClaimSeven
namespace Go.Proofs.YtkmfmnolibkmoaaDoor
namespace Rows

/-- THE TIED CARD OF 'laws.FnExactReached'. -/
def fnExactReachedCard : Claim7 := { stood := { row := fnExactReachedRow, standIns := [], harness := (true, "dd64c954d440d3b3c7f7db485b3591a0187b46475d4902eda4456e4f98dc0814"), looks := true }, kinds := [], alts := [], laidByText := true, laidKinds := [.data, .widerDeep, .sentinel, .widerDeep], laidTests := true, laidLooks := .later }
def FnExactReachedCardSaid : Prop := Claim7.holds Tryd.pinned (.plain (OpenSpec.ofChange fnExactReachedSpec)) fnExactReachedCard

/-- THE TIED CARD OF 'laws.FnExactNextOf'. -/
def fnExactNextOfCard : Claim7 := { stood := { row := fnExactNextOfRow, standIns := [], harness := (true, "dd64c954d440d3b3c7f7db485b3591a0187b46475d4902eda4456e4f98dc0814"), looks := true }, kinds := [], alts := [], laidByText := true, laidKinds := [.data, .widerDeep, .sentinel, .widerDeep], laidTests := true, laidLooks := .later }
def FnExactNextOfCardSaid : Prop := Claim7.holds Tryd.pinned (.plain (OpenSpec.ofChange fnExactNextOfSpec)) fnExactNextOfCard

/-- THE TIED CARD OF 'laws.FnExactErrorsOf'. -/
def fnExactErrorsOfCard : Claim7 := { stood := { row := fnExactErrorsOfRow, standIns := [], harness := (true, "dd64c954d440d3b3c7f7db485b3591a0187b46475d4902eda4456e4f98dc0814"), looks := true }, kinds := [], alts := [], laidByText := true, laidKinds := [.data, .widerDeep, .sentinel, .widerDeep], laidTests := true, laidLooks := .later }
def FnExactErrorsOfCardSaid : Prop := Claim7.holds Tryd.pinned (.plain (OpenSpec.ofChange fnExactErrorsOfSpec)) fnExactErrorsOfCard

/-- THE TIED CARD OF 'laws.FnExactCanFail'. -/
def fnExactCanFailCard : Claim7 := { stood := { row := fnExactCanFailRow, standIns := [], harness := (true, "dd64c954d440d3b3c7f7db485b3591a0187b46475d4902eda4456e4f98dc0814"), looks := true }, kinds := [], alts := [], laidByText := true, laidKinds := [.data, .widerDeep, .sentinel, .widerDeep], laidTests := true, laidLooks := .later }
def FnExactCanFailCardSaid : Prop := Claim7.holds Tryd.pinned (.plain (OpenSpec.ofChange fnExactCanFailSpec)) fnExactCanFailCard

/-- THE TIED CARD OF 'laws.FnExactCanStick'. -/
def fnExactCanStickCard : Claim7 := { stood := { row := fnExactCanStickRow, standIns := [], harness := (true, "dd64c954d440d3b3c7f7db485b3591a0187b46475d4902eda4456e4f98dc0814"), looks := true }, kinds := [], alts := [], laidByText := true, laidKinds := [.data, .widerDeep, .sentinel, .widerDeep], laidTests := true, laidLooks := .later }
def FnExactCanStickCardSaid : Prop := Claim7.holds Tryd.pinned (.plain (OpenSpec.ofChange fnExactCanStickSpec)) fnExactCanStickCard

/-- THE TIED CARD OF 'laws.FnExactIsSingle'. -/
def fnExactIsSingleCard : Claim7 := { stood := { row := fnExactIsSingleRow, standIns := [], harness := (true, "dd64c954d440d3b3c7f7db485b3591a0187b46475d4902eda4456e4f98dc0814"), looks := true }, kinds := [], alts := [], laidByText := true, laidKinds := [.data, .widerDeep, .sentinel, .widerDeep], laidTests := true, laidLooks := .later }
def FnExactIsSingleCardSaid : Prop := Claim7.holds Tryd.pinned (.plain (OpenSpec.ofChange fnExactIsSingleSpec)) fnExactIsSingleCard

/-- THE SECOND FORM's CARD OF 'laws.FnExactReached'. -/
def fnExactReachedUptoCard : Claim7 := { stood := { row := fnExactReachedUptoRow, standIns := [], harness := (true, "dd64c954d440d3b3c7f7db485b3591a0187b46475d4902eda4456e4f98dc0814"), looks := true }, kinds := [], alts := [], laidByText := true, laidKinds := [.data, .widerDeep, .sentinel, .widerDeep], laidTests := true, laidLooks := .later }
def FnExactReachedUptoCardSaid : Prop := Claim7.holds Tryd.pinned (.plain (OpenSpec.upto fnExactReachedSpec)) fnExactReachedUptoCard

/-- THE SECOND FORM's CARD OF 'laws.FnExactNextOf'. -/
def fnExactNextOfUptoCard : Claim7 := { stood := { row := fnExactNextOfUptoRow, standIns := [], harness := (true, "dd64c954d440d3b3c7f7db485b3591a0187b46475d4902eda4456e4f98dc0814"), looks := true }, kinds := [], alts := [], laidByText := true, laidKinds := [.data, .widerDeep, .sentinel, .widerDeep], laidTests := true, laidLooks := .later }
def FnExactNextOfUptoCardSaid : Prop := Claim7.holds Tryd.pinned (.plain (OpenSpec.upto fnExactNextOfSpec)) fnExactNextOfUptoCard

/-- THE SECOND FORM's CARD OF 'laws.FnExactErrorsOf'. -/
def fnExactErrorsOfUptoCard : Claim7 := { stood := { row := fnExactErrorsOfUptoRow, standIns := [], harness := (true, "dd64c954d440d3b3c7f7db485b3591a0187b46475d4902eda4456e4f98dc0814"), looks := true }, kinds := [], alts := [], laidByText := true, laidKinds := [.data, .widerDeep, .sentinel, .widerDeep], laidTests := true, laidLooks := .later }
def FnExactErrorsOfUptoCardSaid : Prop := Claim7.holds Tryd.pinned (.plain (OpenSpec.upto fnExactErrorsOfSpec)) fnExactErrorsOfUptoCard

/-- THE SECOND FORM's CARD OF 'laws.FnExactCanFail'. -/
def fnExactCanFailUptoCard : Claim7 := { stood := { row := fnExactCanFailUptoRow, standIns := [], harness := (true, "dd64c954d440d3b3c7f7db485b3591a0187b46475d4902eda4456e4f98dc0814"), looks := true }, kinds := [], alts := [], laidByText := true, laidKinds := [.data, .widerDeep, .sentinel, .widerDeep], laidTests := true, laidLooks := .later }
def FnExactCanFailUptoCardSaid : Prop := Claim7.holds Tryd.pinned (.plain (OpenSpec.upto fnExactCanFailSpec)) fnExactCanFailUptoCard

/-- THE SECOND FORM's CARD OF 'laws.FnExactCanStick'. -/
def fnExactCanStickUptoCard : Claim7 := { stood := { row := fnExactCanStickUptoRow, standIns := [], harness := (true, "dd64c954d440d3b3c7f7db485b3591a0187b46475d4902eda4456e4f98dc0814"), looks := true }, kinds := [], alts := [], laidByText := true, laidKinds := [.data, .widerDeep, .sentinel, .widerDeep], laidTests := true, laidLooks := .later }
def FnExactCanStickUptoCardSaid : Prop := Claim7.holds Tryd.pinned (.plain (OpenSpec.upto fnExactCanStickSpec)) fnExactCanStickUptoCard

/-- THE SECOND FORM's CARD OF 'laws.FnExactIsSingle'. -/
def fnExactIsSingleUptoCard : Claim7 := { stood := { row := fnExactIsSingleUptoRow, standIns := [], harness := (true, "dd64c954d440d3b3c7f7db485b3591a0187b46475d4902eda4456e4f98dc0814"), looks := true }, kinds := [], alts := [], laidByText := true, laidKinds := [.data, .widerDeep, .sentinel, .widerDeep], laidTests := true, laidLooks := .later }
def FnExactIsSingleUptoCardSaid : Prop := Claim7.holds Tryd.pinned (.plain (OpenSpec.upto fnExactIsSingleSpec)) fnExactIsSingleUptoCard
end Rows
end Go.Proofs.YtkmfmnolibkmoaaDoor
