/-
  DERIVED. GIVEN WITH THE SEED: THE CARDS: each row of YtlimgdnaanoloaaGreatDoorRows.lean that lists a variable, with what it lists TIED to the program's text (the seventh form; the later family's looks); each row that meets fmt, with fmt's text TOLD by the authors' own Lean function (tested against real Go, not proved from fmt's source: count such statements apart). THE CARD IS WHAT COUNTS. Prove the row's statement (the work); the ties are given (YtlimgdnaanoloaaGreatDoorTie.lean); close each card by the builder's one call (the guide's Derived/Test/ToyasCard.lean, 'card_holds'). Laid BY PROGRAM, IN A SANDBOX (cutbox-door.mjs). By AI agents, Wed Nov 11 2026. No macro, syntax, notation, axiom, sorry.
-/
import Derived.Test.YtlimgdnaanoloaaGreatDoorRows
import GoSem.ClaimSeven
namespace Go.Proofs.YtlimgdnaanoloaaGreatDoor
namespace Rows

/-- THE TIED CARD OF 'laws.FnTripleText'. -/
def fnTripleTextCard : Claim7 := { stood := { row := fnTripleTextRow, standIns := [], harness := (true, "1d793314ddcfb23cff9ebb82187d7e67a45065c233eaa4304f6c5a96e808929f"), looks := true }, kinds := [], alts := [], laidByText := true, laidKinds := [.data, .sentinel, .sentinel, .data, .widerDeep, .sentinel, .widerDeep, .sentinel, .sentinel, .pinned], laidTests := true, laidLooks := .later }
def FnTripleTextCardSaid : Prop := Claim7.holds Tryz.pinned (.plain (OpenSpec.ofChange fnTripleTextSpec)) fnTripleTextCard

/-- THE TIED CARD OF 'laws.FnSure'. -/
def fnSureCard : Claim7 := { stood := { row := fnSureRow, standIns := [], harness := (true, "1d793314ddcfb23cff9ebb82187d7e67a45065c233eaa4304f6c5a96e808929f"), looks := true }, kinds := [], alts := [], laidByText := true, laidKinds := [.data, .widerDeep, .sentinel, .widerDeep, .sentinel], laidTests := true, laidLooks := .later }
def FnSureCardSaid : Prop := Claim7.holds Tryz.pinned (.plain (OpenSpec.ofChange fnSureSpec)) fnSureCard

/-- THE TIED CARD OF 'laws.FnRefutes'. -/
def fnRefutesCard : Claim7 := { stood := { row := fnRefutesRow, standIns := [], harness := (true, "1d793314ddcfb23cff9ebb82187d7e67a45065c233eaa4304f6c5a96e808929f"), looks := true }, kinds := [], alts := [], laidByText := true, laidKinds := [.data, .widerDeep, .sentinel, .widerDeep, .sentinel], laidTests := true, laidLooks := .later }
def FnRefutesCardSaid : Prop := Claim7.holds Tryz.pinned (.plain (OpenSpec.ofChange fnRefutesSpec)) fnRefutesCard

/-- THE SECOND FORM's CARD OF 'laws.FnTripleText'. -/
def fnTripleTextUptoCard : Claim7 := { stood := { row := fnTripleTextUptoRow, standIns := [], harness := (true, "1d793314ddcfb23cff9ebb82187d7e67a45065c233eaa4304f6c5a96e808929f"), looks := true }, kinds := [], alts := [], laidByText := true, laidKinds := [.data, .sentinel, .sentinel, .data, .widerDeep, .sentinel, .widerDeep, .sentinel, .sentinel, .pinned], laidTests := true, laidLooks := .later }
def FnTripleTextUptoCardSaid : Prop := Claim7.holds Tryz.pinned (.plain (OpenSpec.upto fnTripleTextSpec)) fnTripleTextUptoCard

/-- THE SECOND FORM's CARD OF 'laws.FnSure'. -/
def fnSureUptoCard : Claim7 := { stood := { row := fnSureUptoRow, standIns := [], harness := (true, "1d793314ddcfb23cff9ebb82187d7e67a45065c233eaa4304f6c5a96e808929f"), looks := true }, kinds := [], alts := [], laidByText := true, laidKinds := [.data, .widerDeep, .sentinel, .widerDeep, .sentinel], laidTests := true, laidLooks := .later }
def FnSureUptoCardSaid : Prop := Claim7.holds Tryz.pinned (.plain (OpenSpec.upto fnSureSpec)) fnSureUptoCard

/-- THE SECOND FORM's CARD OF 'laws.FnRefutes'. -/
def fnRefutesUptoCard : Claim7 := { stood := { row := fnRefutesUptoRow, standIns := [], harness := (true, "1d793314ddcfb23cff9ebb82187d7e67a45065c233eaa4304f6c5a96e808929f"), looks := true }, kinds := [], alts := [], laidByText := true, laidKinds := [.data, .widerDeep, .sentinel, .widerDeep, .sentinel], laidTests := true, laidLooks := .later }
def FnRefutesUptoCardSaid : Prop := Claim7.holds Tryz.pinned (.plain (OpenSpec.upto fnRefutesSpec)) fnRefutesUptoCard
end Rows
end Go.Proofs.YtlimgdnaanoloaaGreatDoor
