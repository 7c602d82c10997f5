/-
  DERIVED. GIVEN WITH THE SEED: THE CARDS: each row of YtemilnkglkpnjaaDoorRows.lean that lists a variable, with what it lists TIED to the program's text (the seventh form; the later family's looks); each row that meets fmt, with fmt's text TOLD by the authors' own Lean function (tested against real Go, not proved from fmt's source: count such statements apart). THE CARD IS WHAT COUNTS. Prove the row's statement (the work); the ties are given (YtemilnkglkpnjaaDoorTie.lean); close each card by the builder's one call (the guide's Derived/Test/ToyasCard.lean, 'card_holds'). Laid BY PROGRAM, IN A SANDBOX (cutbox-door.mjs). By AI agents, Wed Nov 11 2026. No macro, syntax, notation, axiom, sorry.
-/
import Derived.Test.YtemilnkglkpnjaaDoorRows
import GoSem.ClaimSeven
namespace Go.Proofs.YtemilnkglkpnjaaDoor
namespace Rows

/-- THE TIED CARD OF 'laws.FnParts'. -/
def fnPartsCard : Claim7 := { stood := { row := fnPartsRow, standIns := [], harness := (true, "39241b43106cd34284f9a5b2392b790b0d10c42028d3031111d68e0547ee23dd"), looks := true }, kinds := [], alts := [], laidByText := true, laidKinds := [.data, .widerDeep, .sentinel, .widerDeep], laidTests := true, laidLooks := .later }
def FnPartsCardSaid : Prop := Claim7.holds Tryd.pinned (.plain (OpenSpec.ofChange fnPartsSpec)) fnPartsCard

/-- THE TIED CARD OF 'laws.FnMade'. -/
def fnMadeCard : Claim7 := { stood := { row := fnMadeRow, standIns := [], harness := (true, "39241b43106cd34284f9a5b2392b790b0d10c42028d3031111d68e0547ee23dd"), looks := true }, kinds := [], alts := [], laidByText := true, laidKinds := [.data, .widerDeep, .sentinel, .widerDeep], laidTests := true, laidLooks := .later }
def FnMadeCardSaid : Prop := Claim7.holds Tryd.pinned (.plain (OpenSpec.ofChange fnMadeSpec)) fnMadeCard

/-- THE TIED CARD OF 'laws.FnExactProgramValid'. -/
def fnExactProgramValidCard : Claim7 := { stood := { row := fnExactProgramValidRow, standIns := [], harness := (true, "39241b43106cd34284f9a5b2392b790b0d10c42028d3031111d68e0547ee23dd"), looks := true }, kinds := [], alts := [], laidByText := true, laidKinds := [.data, .widerDeep, .sentinel, .widerDeep], laidTests := true, laidLooks := .later }
def FnExactProgramValidCardSaid : Prop := Claim7.holds Tryd.pinned (.plain (OpenSpec.ofChange fnExactProgramValidSpec)) fnExactProgramValidCard

/-- THE TIED CARD OF 'laws.FnExactKindOf'. -/
def fnExactKindOfCard : Claim7 := { stood := { row := fnExactKindOfRow, standIns := [], harness := (true, "39241b43106cd34284f9a5b2392b790b0d10c42028d3031111d68e0547ee23dd"), looks := true }, kinds := [], alts := [], laidByText := true, laidKinds := [.data, .widerDeep, .sentinel, .widerDeep], laidTests := true, laidLooks := .later }
def FnExactKindOfCardSaid : Prop := Claim7.holds Tryd.pinned (.plain (OpenSpec.ofChange fnExactKindOfSpec)) fnExactKindOfCard

/-- THE TIED CARD OF 'laws.FnExactPartsOf'. -/
def fnExactPartsOfCard : Claim7 := { stood := { row := fnExactPartsOfRow, standIns := [], harness := (true, "39241b43106cd34284f9a5b2392b790b0d10c42028d3031111d68e0547ee23dd"), looks := true }, kinds := [], alts := [], laidByText := true, laidKinds := [.data, .widerDeep, .sentinel, .widerDeep], laidTests := true, laidLooks := .later }
def FnExactPartsOfCardSaid : Prop := Claim7.holds Tryd.pinned (.plain (OpenSpec.ofChange fnExactPartsOfSpec)) fnExactPartsOfCard

/-- THE TIED CARD OF 'laws.FnExactSequenceOf'. -/
def fnExactSequenceOfCard : Claim7 := { stood := { row := fnExactSequenceOfRow, standIns := [], harness := (true, "39241b43106cd34284f9a5b2392b790b0d10c42028d3031111d68e0547ee23dd"), looks := true }, kinds := [], alts := [], laidByText := true, laidKinds := [.data, .widerDeep, .sentinel, .widerDeep], laidTests := true, laidLooks := .later }
def FnExactSequenceOfCardSaid : Prop := Claim7.holds Tryd.pinned (.plain (OpenSpec.ofChange fnExactSequenceOfSpec)) fnExactSequenceOfCard

/-- THE TIED CARD OF 'laws.FnExactChoiceOf'. -/
def fnExactChoiceOfCard : Claim7 := { stood := { row := fnExactChoiceOfRow, standIns := [], harness := (true, "39241b43106cd34284f9a5b2392b790b0d10c42028d3031111d68e0547ee23dd"), looks := true }, kinds := [], alts := [], laidByText := true, laidKinds := [.data, .widerDeep, .sentinel, .widerDeep], laidTests := true, laidLooks := .later }
def FnExactChoiceOfCardSaid : Prop := Claim7.holds Tryd.pinned (.plain (OpenSpec.ofChange fnExactChoiceOfSpec)) fnExactChoiceOfCard

/-- THE TIED CARD OF 'laws.FnExactLoopOf'. -/
def fnExactLoopOfCard : Claim7 := { stood := { row := fnExactLoopOfRow, standIns := [], harness := (true, "39241b43106cd34284f9a5b2392b790b0d10c42028d3031111d68e0547ee23dd"), looks := true }, kinds := [], alts := [], laidByText := true, laidKinds := [.data, .widerDeep, .sentinel, .widerDeep], laidTests := true, laidLooks := .later }
def FnExactLoopOfCardSaid : Prop := Claim7.holds Tryd.pinned (.plain (OpenSpec.ofChange fnExactLoopOfSpec)) fnExactLoopOfCard

/-- THE TIED CARD OF 'laws.FnExactIfOf'. -/
def fnExactIfOfCard : Claim7 := { stood := { row := fnExactIfOfRow, standIns := [], harness := (true, "39241b43106cd34284f9a5b2392b790b0d10c42028d3031111d68e0547ee23dd"), looks := true }, kinds := [], alts := [], laidByText := true, laidKinds := [.data, .widerDeep, .sentinel, .widerDeep], laidTests := true, laidLooks := .later }
def FnExactIfOfCardSaid : Prop := Claim7.holds Tryd.pinned (.plain (OpenSpec.ofChange fnExactIfOfSpec)) fnExactIfOfCard

/-- THE TIED CARD OF 'laws.FnExactSizeOf'. -/
def fnExactSizeOfCard : Claim7 := { stood := { row := fnExactSizeOfRow, standIns := [], harness := (true, "39241b43106cd34284f9a5b2392b790b0d10c42028d3031111d68e0547ee23dd"), looks := true }, kinds := [], alts := [], laidByText := true, laidKinds := [.data, .widerDeep, .sentinel, .widerDeep], laidTests := true, laidLooks := .later }
def FnExactSizeOfCardSaid : Prop := Claim7.holds Tryd.pinned (.plain (OpenSpec.ofChange fnExactSizeOfSpec)) fnExactSizeOfCard

/-- THE TIED CARD OF 'laws.FnExactLoopsIn'. -/
def fnExactLoopsInCard : Claim7 := { stood := { row := fnExactLoopsInRow, standIns := [], harness := (true, "39241b43106cd34284f9a5b2392b790b0d10c42028d3031111d68e0547ee23dd"), looks := true }, kinds := [], alts := [], laidByText := true, laidKinds := [.data, .widerDeep, .sentinel, .widerDeep], laidTests := true, laidLooks := .later }
def FnExactLoopsInCardSaid : Prop := Claim7.holds Tryd.pinned (.plain (OpenSpec.ofChange fnExactLoopsInSpec)) fnExactLoopsInCard

/-- THE SECOND FORM's CARD OF 'laws.FnParts'. -/
def fnPartsUptoCard : Claim7 := { stood := { row := fnPartsUptoRow, standIns := [], harness := (true, "39241b43106cd34284f9a5b2392b790b0d10c42028d3031111d68e0547ee23dd"), looks := true }, kinds := [], alts := [], laidByText := true, laidKinds := [.data, .widerDeep, .sentinel, .widerDeep], laidTests := true, laidLooks := .later }
def FnPartsUptoCardSaid : Prop := Claim7.holds Tryd.pinned (.plain (OpenSpec.upto fnPartsSpec)) fnPartsUptoCard

/-- THE SECOND FORM's CARD OF 'laws.FnMade'. -/
def fnMadeUptoCard : Claim7 := { stood := { row := fnMadeUptoRow, standIns := [], harness := (true, "39241b43106cd34284f9a5b2392b790b0d10c42028d3031111d68e0547ee23dd"), looks := true }, kinds := [], alts := [], laidByText := true, laidKinds := [.data, .widerDeep, .sentinel, .widerDeep], laidTests := true, laidLooks := .later }
def FnMadeUptoCardSaid : Prop := Claim7.holds Tryd.pinned (.plain (OpenSpec.upto fnMadeSpec)) fnMadeUptoCard

/-- THE SECOND FORM's CARD OF 'laws.FnExactProgramValid'. -/
def fnExactProgramValidUptoCard : Claim7 := { stood := { row := fnExactProgramValidUptoRow, standIns := [], harness := (true, "39241b43106cd34284f9a5b2392b790b0d10c42028d3031111d68e0547ee23dd"), looks := true }, kinds := [], alts := [], laidByText := true, laidKinds := [.data, .widerDeep, .sentinel, .widerDeep], laidTests := true, laidLooks := .later }
def FnExactProgramValidUptoCardSaid : Prop := Claim7.holds Tryd.pinned (.plain (OpenSpec.upto fnExactProgramValidSpec)) fnExactProgramValidUptoCard

/-- THE SECOND FORM's CARD OF 'laws.FnExactKindOf'. -/
def fnExactKindOfUptoCard : Claim7 := { stood := { row := fnExactKindOfUptoRow, standIns := [], harness := (true, "39241b43106cd34284f9a5b2392b790b0d10c42028d3031111d68e0547ee23dd"), looks := true }, kinds := [], alts := [], laidByText := true, laidKinds := [.data, .widerDeep, .sentinel, .widerDeep], laidTests := true, laidLooks := .later }
def FnExactKindOfUptoCardSaid : Prop := Claim7.holds Tryd.pinned (.plain (OpenSpec.upto fnExactKindOfSpec)) fnExactKindOfUptoCard

/-- THE SECOND FORM's CARD OF 'laws.FnExactPartsOf'. -/
def fnExactPartsOfUptoCard : Claim7 := { stood := { row := fnExactPartsOfUptoRow, standIns := [], harness := (true, "39241b43106cd34284f9a5b2392b790b0d10c42028d3031111d68e0547ee23dd"), looks := true }, kinds := [], alts := [], laidByText := true, laidKinds := [.data, .widerDeep, .sentinel, .widerDeep], laidTests := true, laidLooks := .later }
def FnExactPartsOfUptoCardSaid : Prop := Claim7.holds Tryd.pinned (.plain (OpenSpec.upto fnExactPartsOfSpec)) fnExactPartsOfUptoCard

/-- THE SECOND FORM's CARD OF 'laws.FnExactSequenceOf'. -/
def fnExactSequenceOfUptoCard : Claim7 := { stood := { row := fnExactSequenceOfUptoRow, standIns := [], harness := (true, "39241b43106cd34284f9a5b2392b790b0d10c42028d3031111d68e0547ee23dd"), looks := true }, kinds := [], alts := [], laidByText := true, laidKinds := [.data, .widerDeep, .sentinel, .widerDeep], laidTests := true, laidLooks := .later }
def FnExactSequenceOfUptoCardSaid : Prop := Claim7.holds Tryd.pinned (.plain (OpenSpec.upto fnExactSequenceOfSpec)) fnExactSequenceOfUptoCard

/-- THE SECOND FORM's CARD OF 'laws.FnExactChoiceOf'. -/
def fnExactChoiceOfUptoCard : Claim7 := { stood := { row := fnExactChoiceOfUptoRow, standIns := [], harness := (true, "39241b43106cd34284f9a5b2392b790b0d10c42028d3031111d68e0547ee23dd"), looks := true }, kinds := [], alts := [], laidByText := true, laidKinds := [.data, .widerDeep, .sentinel, .widerDeep], laidTests := true, laidLooks := .later }
def FnExactChoiceOfUptoCardSaid : Prop := Claim7.holds Tryd.pinned (.plain (OpenSpec.upto fnExactChoiceOfSpec)) fnExactChoiceOfUptoCard

/-- THE SECOND FORM's CARD OF 'laws.FnExactLoopOf'. -/
def fnExactLoopOfUptoCard : Claim7 := { stood := { row := fnExactLoopOfUptoRow, standIns := [], harness := (true, "39241b43106cd34284f9a5b2392b790b0d10c42028d3031111d68e0547ee23dd"), looks := true }, kinds := [], alts := [], laidByText := true, laidKinds := [.data, .widerDeep, .sentinel, .widerDeep], laidTests := true, laidLooks := .later }
def FnExactLoopOfUptoCardSaid : Prop := Claim7.holds Tryd.pinned (.plain (OpenSpec.upto fnExactLoopOfSpec)) fnExactLoopOfUptoCard

/-- THE SECOND FORM's CARD OF 'laws.FnExactIfOf'. -/
def fnExactIfOfUptoCard : Claim7 := { stood := { row := fnExactIfOfUptoRow, standIns := [], harness := (true, "39241b43106cd34284f9a5b2392b790b0d10c42028d3031111d68e0547ee23dd"), looks := true }, kinds := [], alts := [], laidByText := true, laidKinds := [.data, .widerDeep, .sentinel, .widerDeep], laidTests := true, laidLooks := .later }
def FnExactIfOfUptoCardSaid : Prop := Claim7.holds Tryd.pinned (.plain (OpenSpec.upto fnExactIfOfSpec)) fnExactIfOfUptoCard

/-- THE SECOND FORM's CARD OF 'laws.FnExactSizeOf'. -/
def fnExactSizeOfUptoCard : Claim7 := { stood := { row := fnExactSizeOfUptoRow, standIns := [], harness := (true, "39241b43106cd34284f9a5b2392b790b0d10c42028d3031111d68e0547ee23dd"), looks := true }, kinds := [], alts := [], laidByText := true, laidKinds := [.data, .widerDeep, .sentinel, .widerDeep], laidTests := true, laidLooks := .later }
def FnExactSizeOfUptoCardSaid : Prop := Claim7.holds Tryd.pinned (.plain (OpenSpec.upto fnExactSizeOfSpec)) fnExactSizeOfUptoCard

/-- THE SECOND FORM's CARD OF 'laws.FnExactLoopsIn'. -/
def fnExactLoopsInUptoCard : Claim7 := { stood := { row := fnExactLoopsInUptoRow, standIns := [], harness := (true, "39241b43106cd34284f9a5b2392b790b0d10c42028d3031111d68e0547ee23dd"), looks := true }, kinds := [], alts := [], laidByText := true, laidKinds := [.data, .widerDeep, .sentinel, .widerDeep], laidTests := true, laidLooks := .later }
def FnExactLoopsInUptoCardSaid : Prop := Claim7.holds Tryd.pinned (.plain (OpenSpec.upto fnExactLoopsInSpec)) fnExactLoopsInUptoCard
end Rows
end Go.Proofs.YtemilnkglkpnjaaDoor
