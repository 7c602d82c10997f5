/-
  DERIVED. GIVEN WITH THE SEED: THE CARDS: each row of YtfoifcbpognjaaaDoorRows.lean that lists a variable, with what it lists TIED to the program's text (the seventh form; the later family's looks); each row that meets fmt, with fmt's text TOLD by the authors' own Lean function (tested against real Go, not proved from fmt's source: count such statements apart). THE CARD IS WHAT COUNTS. Prove the row's statement (the work); the ties are given (YtfoifcbpognjaaaDoorTie.lean); close each card by the builder's one call (the guide's Derived/Test/ToyasCard.lean, 'card_holds'). Laid BY PROGRAM, IN A SANDBOX (cutbox-door.mjs). By AI agents, Wed Nov 11 2026. No macro, syntax, notation, axiom, sorry.
-/
import Derived.Test.YtfoifcbpognjaaaDoorRows
import GoSem.ClaimSeven
namespace Go.Proofs.YtfoifcbpognjaaaDoor
namespace Rows

/-- THE TIED CARD OF 'laws.FnExactRunWith'. -/
def fnExactRunWithCard : Claim7 := { stood := { row := fnExactRunWithRow, standIns := [], harness := (true, "70ab7387fd054490df3f2a3306f095f1697f236f8dd13641ae667e0b4aa429a6"), looks := true }, kinds := [], alts := [], laidByText := true, laidKinds := [.sentinel, .data, .widerDeep, .sentinel, .widerDeep], laidTests := true, laidLooks := .later }
def FnExactRunWithCardSaid : Prop := Claim7.holds Tryd.pinned (.plain (OpenSpec.ofChange fnExactRunWithSpec)) fnExactRunWithCard

/-- THE TIED CARD OF 'laws.FnExactChoicesRight'. -/
def fnExactChoicesRightCard : Claim7 := { stood := { row := fnExactChoicesRightRow, standIns := [], harness := (true, "70ab7387fd054490df3f2a3306f095f1697f236f8dd13641ae667e0b4aa429a6"), looks := true }, kinds := [], alts := [], laidByText := true, laidKinds := [.sentinel, .data, .widerDeep, .sentinel, .widerDeep], laidTests := true, laidLooks := .later }
def FnExactChoicesRightCardSaid : Prop := Claim7.holds Tryd.pinned (.plain (OpenSpec.ofChange fnExactChoicesRightSpec)) fnExactChoicesRightCard

/-- THE TIED CARD OF 'laws.FnExactTraceOf'. -/
def fnExactTraceOfCard : Claim7 := { stood := { row := fnExactTraceOfRow, standIns := [], harness := (true, "70ab7387fd054490df3f2a3306f095f1697f236f8dd13641ae667e0b4aa429a6"), looks := true }, kinds := [], alts := [], laidByText := true, laidKinds := [.sentinel, .data, .widerDeep, .sentinel, .widerDeep], laidTests := true, laidLooks := .later }
def FnExactTraceOfCardSaid : Prop := Claim7.holds Tryd.pinned (.plain (OpenSpec.ofChange fnExactTraceOfSpec)) fnExactTraceOfCard

/-- THE SECOND FORM's CARD OF 'laws.FnExactRunWith'. -/
def fnExactRunWithUptoCard : Claim7 := { stood := { row := fnExactRunWithUptoRow, standIns := [], harness := (true, "70ab7387fd054490df3f2a3306f095f1697f236f8dd13641ae667e0b4aa429a6"), looks := true }, kinds := [], alts := [], laidByText := true, laidKinds := [.sentinel, .data, .widerDeep, .sentinel, .widerDeep], laidTests := true, laidLooks := .later }
def FnExactRunWithUptoCardSaid : Prop := Claim7.holds Tryd.pinned (.plain (OpenSpec.upto fnExactRunWithSpec)) fnExactRunWithUptoCard

/-- THE SECOND FORM's CARD OF 'laws.FnExactChoicesRight'. -/
def fnExactChoicesRightUptoCard : Claim7 := { stood := { row := fnExactChoicesRightUptoRow, standIns := [], harness := (true, "70ab7387fd054490df3f2a3306f095f1697f236f8dd13641ae667e0b4aa429a6"), looks := true }, kinds := [], alts := [], laidByText := true, laidKinds := [.sentinel, .data, .widerDeep, .sentinel, .widerDeep], laidTests := true, laidLooks := .later }
def FnExactChoicesRightUptoCardSaid : Prop := Claim7.holds Tryd.pinned (.plain (OpenSpec.upto fnExactChoicesRightSpec)) fnExactChoicesRightUptoCard

/-- THE SECOND FORM's CARD OF 'laws.FnExactTraceOf'. -/
def fnExactTraceOfUptoCard : Claim7 := { stood := { row := fnExactTraceOfUptoRow, standIns := [], harness := (true, "70ab7387fd054490df3f2a3306f095f1697f236f8dd13641ae667e0b4aa429a6"), looks := true }, kinds := [], alts := [], laidByText := true, laidKinds := [.sentinel, .data, .widerDeep, .sentinel, .widerDeep], laidTests := true, laidLooks := .later }
def FnExactTraceOfUptoCardSaid : Prop := Claim7.holds Tryd.pinned (.plain (OpenSpec.upto fnExactTraceOfSpec)) fnExactTraceOfUptoCard
end Rows
end Go.Proofs.YtfoifcbpognjaaaDoor
