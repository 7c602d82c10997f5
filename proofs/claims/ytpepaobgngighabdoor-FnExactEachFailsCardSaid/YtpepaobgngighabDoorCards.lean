/-
  DERIVED. GIVEN WITH THE SEED: THE CARDS: each row of YtpepaobgngighabDoorRows.lean that lists a variable, with what it lists TIED to the program's text (the seventh form; the later family's looks); each row that meets fmt, with fmt's text TOLD by the authors' own Lean function (tested against real Go, not proved from fmt's source: count such statements apart). THE CARD IS WHAT COUNTS. Prove the row's statement (the work); the ties are given (YtpepaobgngighabDoorTie.lean); close each card by the builder's one call (the guide's Derived/Test/ToyasCard.lean, 'card_holds'). Laid BY PROGRAM, IN A SANDBOX (cutbox-door.mjs). By AI agents, Wed Nov 11 2026. No macro, syntax, notation, axiom, sorry.
-/
import Derived.Test.YtpepaobgngighabDoorRows
import GoSem.ClaimSeven
namespace Go.Proofs.YtpepaobgngighabDoor
namespace Rows

/-- THE TIED CARD OF 'laws.FnExactIsManifest'. -/
def fnExactIsManifestCard : Claim7 := { stood := { row := fnExactIsManifestRow, standIns := [], harness := (true, "9714b1e01b394b14e787aa4fb0bb6299378a401a777b01242039efd4f203e3f2"), looks := true }, kinds := [], alts := [], laidByText := true, laidKinds := [.data, .widerDeep, .sentinel, .widerDeep, .sentinel], laidTests := true, laidLooks := .later }
def FnExactIsManifestCardSaid : Prop := Claim7.holds Tryd.pinned (.plain (OpenSpec.ofChange fnExactIsManifestSpec)) fnExactIsManifestCard

/-- THE TIED CARD OF 'laws.FnExactEachFails'. -/
def fnExactEachFailsCard : Claim7 := { stood := { row := fnExactEachFailsRow, standIns := [], harness := (true, "9714b1e01b394b14e787aa4fb0bb6299378a401a777b01242039efd4f203e3f2"), looks := true }, kinds := [], alts := [], laidByText := true, laidKinds := [.data, .widerDeep, .sentinel, .widerDeep, .sentinel], laidTests := true, laidLooks := .later }
def FnExactEachFailsCardSaid : Prop := Claim7.holds Tryd.pinned (.plain (OpenSpec.ofChange fnExactEachFailsSpec)) fnExactEachFailsCard

/-- THE SECOND FORM's CARD OF 'laws.FnExactIsManifest'. -/
def fnExactIsManifestUptoCard : Claim7 := { stood := { row := fnExactIsManifestUptoRow, standIns := [], harness := (true, "9714b1e01b394b14e787aa4fb0bb6299378a401a777b01242039efd4f203e3f2"), looks := true }, kinds := [], alts := [], laidByText := true, laidKinds := [.data, .widerDeep, .sentinel, .widerDeep, .sentinel], laidTests := true, laidLooks := .later }
def FnExactIsManifestUptoCardSaid : Prop := Claim7.holds Tryd.pinned (.plain (OpenSpec.upto fnExactIsManifestSpec)) fnExactIsManifestUptoCard

/-- THE SECOND FORM's CARD OF 'laws.FnExactEachFails'. -/
def fnExactEachFailsUptoCard : Claim7 := { stood := { row := fnExactEachFailsUptoRow, standIns := [], harness := (true, "9714b1e01b394b14e787aa4fb0bb6299378a401a777b01242039efd4f203e3f2"), looks := true }, kinds := [], alts := [], laidByText := true, laidKinds := [.data, .widerDeep, .sentinel, .widerDeep, .sentinel], laidTests := true, laidLooks := .later }
def FnExactEachFailsUptoCardSaid : Prop := Claim7.holds Tryd.pinned (.plain (OpenSpec.upto fnExactEachFailsSpec)) fnExactEachFailsUptoCard
end Rows
end Go.Proofs.YtpepaobgngighabDoor
