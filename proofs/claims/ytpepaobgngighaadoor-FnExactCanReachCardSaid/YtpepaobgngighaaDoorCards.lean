/-
  DERIVED. GIVEN WITH THE SEED: THE CARDS: each row of YtpepaobgngighaaDoorRows.lean that lists a variable, with what it lists TIED to the program's text (the seventh form; the later family's looks); each row that meets fmt, with fmt's text TOLD by the authors' own Lean function (tested against real Go, not proved from fmt's source: count such statements apart). THE CARD IS WHAT COUNTS. Prove the row's statement (the work); the ties are given (YtpepaobgngighaaDoorTie.lean); close each card by the builder's one call (the guide's Derived/Test/ToyasCard.lean, 'card_holds'). Laid BY PROGRAM, IN A SANDBOX (cutbox-door.mjs). By AI agents, Wed Nov 11 2026. No macro, syntax, notation, axiom, sorry.
-/
import Derived.Test.YtpepaobgngighaaDoorRows
import GoSem.ClaimSeven
namespace Go.Proofs.YtpepaobgngighaaDoor
namespace Rows

/-- THE TIED CARD OF 'laws.FnExactCanReach'. -/
def fnExactCanReachCard : Claim7 := { stood := { row := fnExactCanReachRow, standIns := [], harness := (true, "e3c8ff2d3138ff3c15321a4a3275abb2211e9443788a607e973d4cbd1639e20a"), looks := true }, kinds := [], alts := [], laidByText := true, laidKinds := [.data, .widerDeep, .sentinel, .widerDeep, .sentinel], laidTests := true, laidLooks := .later }
def FnExactCanReachCardSaid : Prop := Claim7.holds Tryd.pinned (.plain (OpenSpec.ofChange fnExactCanReachSpec)) fnExactCanReachCard

/-- THE TIED CARD OF 'laws.FnExactOnlyReach'. -/
def fnExactOnlyReachCard : Claim7 := { stood := { row := fnExactOnlyReachRow, standIns := [], harness := (true, "e3c8ff2d3138ff3c15321a4a3275abb2211e9443788a607e973d4cbd1639e20a"), looks := true }, kinds := [], alts := [], laidByText := true, laidKinds := [.data, .widerDeep, .sentinel, .widerDeep, .sentinel], laidTests := true, laidLooks := .later }
def FnExactOnlyReachCardSaid : Prop := Claim7.holds Tryd.pinned (.plain (OpenSpec.ofChange fnExactOnlyReachSpec)) fnExactOnlyReachCard

/-- THE TIED CARD OF 'laws.FnExactFailsFrom'. -/
def fnExactFailsFromCard : Claim7 := { stood := { row := fnExactFailsFromRow, standIns := [], harness := (true, "e3c8ff2d3138ff3c15321a4a3275abb2211e9443788a607e973d4cbd1639e20a"), looks := true }, kinds := [], alts := [], laidByText := true, laidKinds := [.data, .widerDeep, .sentinel, .widerDeep, .sentinel], laidTests := true, laidLooks := .later }
def FnExactFailsFromCardSaid : Prop := Claim7.holds Tryd.pinned (.plain (OpenSpec.ofChange fnExactFailsFromSpec)) fnExactFailsFromCard

/-- THE TIED CARD OF 'laws.FnExactSafeFrom'. -/
def fnExactSafeFromCard : Claim7 := { stood := { row := fnExactSafeFromRow, standIns := [], harness := (true, "e3c8ff2d3138ff3c15321a4a3275abb2211e9443788a607e973d4cbd1639e20a"), looks := true }, kinds := [], alts := [], laidByText := true, laidKinds := [.data, .widerDeep, .sentinel, .widerDeep, .sentinel], laidTests := true, laidLooks := .later }
def FnExactSafeFromCardSaid : Prop := Claim7.holds Tryd.pinned (.plain (OpenSpec.ofChange fnExactSafeFromSpec)) fnExactSafeFromCard

/-- THE SECOND FORM's CARD OF 'laws.FnExactCanReach'. -/
def fnExactCanReachUptoCard : Claim7 := { stood := { row := fnExactCanReachUptoRow, standIns := [], harness := (true, "e3c8ff2d3138ff3c15321a4a3275abb2211e9443788a607e973d4cbd1639e20a"), looks := true }, kinds := [], alts := [], laidByText := true, laidKinds := [.data, .widerDeep, .sentinel, .widerDeep, .sentinel], laidTests := true, laidLooks := .later }
def FnExactCanReachUptoCardSaid : Prop := Claim7.holds Tryd.pinned (.plain (OpenSpec.upto fnExactCanReachSpec)) fnExactCanReachUptoCard

/-- THE SECOND FORM's CARD OF 'laws.FnExactOnlyReach'. -/
def fnExactOnlyReachUptoCard : Claim7 := { stood := { row := fnExactOnlyReachUptoRow, standIns := [], harness := (true, "e3c8ff2d3138ff3c15321a4a3275abb2211e9443788a607e973d4cbd1639e20a"), looks := true }, kinds := [], alts := [], laidByText := true, laidKinds := [.data, .widerDeep, .sentinel, .widerDeep, .sentinel], laidTests := true, laidLooks := .later }
def FnExactOnlyReachUptoCardSaid : Prop := Claim7.holds Tryd.pinned (.plain (OpenSpec.upto fnExactOnlyReachSpec)) fnExactOnlyReachUptoCard

/-- THE SECOND FORM's CARD OF 'laws.FnExactFailsFrom'. -/
def fnExactFailsFromUptoCard : Claim7 := { stood := { row := fnExactFailsFromUptoRow, standIns := [], harness := (true, "e3c8ff2d3138ff3c15321a4a3275abb2211e9443788a607e973d4cbd1639e20a"), looks := true }, kinds := [], alts := [], laidByText := true, laidKinds := [.data, .widerDeep, .sentinel, .widerDeep, .sentinel], laidTests := true, laidLooks := .later }
def FnExactFailsFromUptoCardSaid : Prop := Claim7.holds Tryd.pinned (.plain (OpenSpec.upto fnExactFailsFromSpec)) fnExactFailsFromUptoCard

/-- THE SECOND FORM's CARD OF 'laws.FnExactSafeFrom'. -/
def fnExactSafeFromUptoCard : Claim7 := { stood := { row := fnExactSafeFromUptoRow, standIns := [], harness := (true, "e3c8ff2d3138ff3c15321a4a3275abb2211e9443788a607e973d4cbd1639e20a"), looks := true }, kinds := [], alts := [], laidByText := true, laidKinds := [.data, .widerDeep, .sentinel, .widerDeep, .sentinel], laidTests := true, laidLooks := .later }
def FnExactSafeFromUptoCardSaid : Prop := Claim7.holds Tryd.pinned (.plain (OpenSpec.upto fnExactSafeFromSpec)) fnExactSafeFromUptoCard
end Rows
end Go.Proofs.YtpepaobgngighaaDoor
