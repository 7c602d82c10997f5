/-
  DERIVED. GIVEN WITH THE SEED: THE CARDS: each row of YtpepaobgngighaaGreatDoorRows.lean that lists a variable, with what it lists TIED to the program's text (the seventh form; the later family's looks); each row that meets fmt, with fmt's text TOLD by the authors' own Lean function (tested against real Go, not proved from fmt's source: count such statements apart). THE CARD IS WHAT COUNTS. Prove the row's statement (the work); the ties are given (YtpepaobgngighaaGreatDoorTie.lean); close each card by the builder's one call (the guide's Derived/Test/ToyasCard.lean, 'card_holds'). Laid BY PROGRAM, IN A SANDBOX (cutbox-door.mjs). By AI agents, Wed Nov 11 2026. No macro, syntax, notation, axiom, sorry.
-/
import Derived.Test.YtpepaobgngighaaGreatDoorRows
import GoSem.ClaimSeven
namespace Go.Proofs.YtpepaobgngighaaGreatDoor
namespace Rows

/-- THE TIED CARD OF 'laws.FnCanReach'. -/
def fnCanReachCard : Claim7 := { stood := { row := fnCanReachRow, standIns := [], harness := (true, "a1e044452fb65dcf3372ce7fc8acbf48772f81978c2637d65111ca4b89e32cea"), looks := true }, kinds := [], alts := [], laidByText := true, laidKinds := [.data, .widerDeep, .sentinel, .widerDeep, .sentinel], laidTests := true, laidLooks := .later }
def FnCanReachCardSaid : Prop := Claim7.holds Tryz.pinned (.plain (OpenSpec.ofChange fnCanReachSpec)) fnCanReachCard

/-- THE TIED CARD OF 'laws.FnFails'. -/
def fnFailsCard : Claim7 := { stood := { row := fnFailsRow, standIns := [], harness := (true, "a1e044452fb65dcf3372ce7fc8acbf48772f81978c2637d65111ca4b89e32cea"), looks := true }, kinds := [], alts := [], laidByText := true, laidKinds := [.data, .widerDeep, .sentinel, .widerDeep, .sentinel], laidTests := true, laidLooks := .later }
def FnFailsCardSaid : Prop := Claim7.holds Tryz.pinned (.plain (OpenSpec.ofChange fnFailsSpec)) fnFailsCard

/-- THE SECOND FORM's CARD OF 'laws.FnCanReach'. -/
def fnCanReachUptoCard : Claim7 := { stood := { row := fnCanReachUptoRow, standIns := [], harness := (true, "a1e044452fb65dcf3372ce7fc8acbf48772f81978c2637d65111ca4b89e32cea"), looks := true }, kinds := [], alts := [], laidByText := true, laidKinds := [.data, .widerDeep, .sentinel, .widerDeep, .sentinel], laidTests := true, laidLooks := .later }
def FnCanReachUptoCardSaid : Prop := Claim7.holds Tryz.pinned (.plain (OpenSpec.upto fnCanReachSpec)) fnCanReachUptoCard

/-- THE SECOND FORM's CARD OF 'laws.FnFails'. -/
def fnFailsUptoCard : Claim7 := { stood := { row := fnFailsUptoRow, standIns := [], harness := (true, "a1e044452fb65dcf3372ce7fc8acbf48772f81978c2637d65111ca4b89e32cea"), looks := true }, kinds := [], alts := [], laidByText := true, laidKinds := [.data, .widerDeep, .sentinel, .widerDeep, .sentinel], laidTests := true, laidLooks := .later }
def FnFailsUptoCardSaid : Prop := Claim7.holds Tryz.pinned (.plain (OpenSpec.upto fnFailsSpec)) fnFailsUptoCard
end Rows
end Go.Proofs.YtpepaobgngighaaGreatDoor
