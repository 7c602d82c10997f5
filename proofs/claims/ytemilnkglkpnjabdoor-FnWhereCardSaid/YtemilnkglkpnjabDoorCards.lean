/-
  DERIVED. GIVEN WITH THE SEED: THE CARDS: each row of YtemilnkglkpnjabDoorRows.lean that lists a variable, with what it lists TIED to the program's text (the seventh form; the later family's looks); each row that meets fmt, with fmt's text TOLD by the authors' own Lean function (tested against real Go, not proved from fmt's source: count such statements apart). THE CARD IS WHAT COUNTS. Prove the row's statement (the work); the ties are given (YtemilnkglkpnjabDoorTie.lean); close each card by the builder's one call (the guide's Derived/Test/ToyasCard.lean, 'card_holds'). Laid BY PROGRAM, IN A SANDBOX (cutbox-door.mjs). By AI agents, Wed Nov 11 2026. No macro, syntax, notation, axiom, sorry.
-/
import Derived.Test.YtemilnkglkpnjabDoorRows
import GoSem.ClaimSeven
namespace Go.Proofs.YtemilnkglkpnjabDoor
namespace Rows

/-- THE TIED CARD OF 'laws.FnWhere'. -/
def fnWhereCard : Claim7 := { stood := { row := fnWhereRow, standIns := [], harness := (true, "37fb3daf59b1d97752caadf06eed5e3d5db459f01febd532a44ec99c8f4f9949"), looks := false }, kinds := [], alts := [], laidByText := true, laidKinds := [.data, .widerDeep], laidTests := true, laidLooks := .later }
def FnWhereCardSaid : Prop := Claim7.holds Tryd.pinned (.plain (OpenSpec.ofChange fnWhereSpec)) fnWhereCard

/-- THE TIED CARD OF 'laws.FnOpposite'. -/
def fnOppositeCard : Claim7 := { stood := { row := fnOppositeRow, standIns := [], harness := (true, "37fb3daf59b1d97752caadf06eed5e3d5db459f01febd532a44ec99c8f4f9949"), looks := false }, kinds := [], alts := [], laidByText := true, laidKinds := [.data, .widerDeep], laidTests := true, laidLooks := .later }
def FnOppositeCardSaid : Prop := Claim7.holds Tryd.pinned (.plain (OpenSpec.ofChange fnOppositeSpec)) fnOppositeCard

/-- THE TIED CARD OF 'laws.FnExactTestValid'. -/
def fnExactTestValidCard : Claim7 := { stood := { row := fnExactTestValidRow, standIns := [], harness := (true, "37fb3daf59b1d97752caadf06eed5e3d5db459f01febd532a44ec99c8f4f9949"), looks := false }, kinds := [], alts := [], laidByText := true, laidKinds := [.data, .widerDeep], laidTests := true, laidLooks := .later }
def FnExactTestValidCardSaid : Prop := Claim7.holds Tryd.pinned (.plain (OpenSpec.ofChange fnExactTestValidSpec)) fnExactTestValidCard

/-- THE TIED CARD OF 'laws.FnExactTestHolds'. -/
def fnExactTestHoldsCard : Claim7 := { stood := { row := fnExactTestHoldsRow, standIns := [], harness := (true, "37fb3daf59b1d97752caadf06eed5e3d5db459f01febd532a44ec99c8f4f9949"), looks := false }, kinds := [], alts := [], laidByText := true, laidKinds := [.data, .widerDeep], laidTests := true, laidLooks := .later }
def FnExactTestHoldsCardSaid : Prop := Claim7.holds Tryd.pinned (.plain (OpenSpec.ofChange fnExactTestHoldsSpec)) fnExactTestHoldsCard

/-- THE TIED CARD OF 'laws.FnExactWhereHolds'. -/
def fnExactWhereHoldsCard : Claim7 := { stood := { row := fnExactWhereHoldsRow, standIns := [], harness := (true, "37fb3daf59b1d97752caadf06eed5e3d5db459f01febd532a44ec99c8f4f9949"), looks := false }, kinds := [], alts := [], laidByText := true, laidKinds := [.data, .widerDeep], laidTests := true, laidLooks := .later }
def FnExactWhereHoldsCardSaid : Prop := Claim7.holds Tryd.pinned (.plain (OpenSpec.ofChange fnExactWhereHoldsSpec)) fnExactWhereHoldsCard

/-- THE TIED CARD OF 'laws.FnExactOppositeOf'. -/
def fnExactOppositeOfCard : Claim7 := { stood := { row := fnExactOppositeOfRow, standIns := [], harness := (true, "37fb3daf59b1d97752caadf06eed5e3d5db459f01febd532a44ec99c8f4f9949"), looks := false }, kinds := [], alts := [], laidByText := true, laidKinds := [.data, .widerDeep], laidTests := true, laidLooks := .later }
def FnExactOppositeOfCardSaid : Prop := Claim7.holds Tryd.pinned (.plain (OpenSpec.ofChange fnExactOppositeOfSpec)) fnExactOppositeOfCard

/-- THE TIED CARD OF 'laws.FnExactAllTests'. -/
def fnExactAllTestsCard : Claim7 := { stood := { row := fnExactAllTestsRow, standIns := [], harness := (true, "37fb3daf59b1d97752caadf06eed5e3d5db459f01febd532a44ec99c8f4f9949"), looks := false }, kinds := [], alts := [], laidByText := true, laidKinds := [.data, .widerDeep], laidTests := true, laidLooks := .later }
def FnExactAllTestsCardSaid : Prop := Claim7.holds Tryd.pinned (.plain (OpenSpec.ofChange fnExactAllTestsSpec)) fnExactAllTestsCard

/-- THE TIED CARD OF 'laws.FnExactTestFor'. -/
def fnExactTestForCard : Claim7 := { stood := { row := fnExactTestForRow, standIns := [], harness := (true, "37fb3daf59b1d97752caadf06eed5e3d5db459f01febd532a44ec99c8f4f9949"), looks := false }, kinds := [], alts := [], laidByText := true, laidKinds := [.data, .widerDeep], laidTests := true, laidLooks := .later }
def FnExactTestForCardSaid : Prop := Claim7.holds Tryd.pinned (.plain (OpenSpec.ofChange fnExactTestForSpec)) fnExactTestForCard

/-- THE SECOND FORM's CARD OF 'laws.FnWhere'. -/
def fnWhereUptoCard : Claim7 := { stood := { row := fnWhereUptoRow, standIns := [], harness := (true, "37fb3daf59b1d97752caadf06eed5e3d5db459f01febd532a44ec99c8f4f9949"), looks := false }, kinds := [], alts := [], laidByText := true, laidKinds := [.data, .widerDeep], laidTests := true, laidLooks := .later }
def FnWhereUptoCardSaid : Prop := Claim7.holds Tryd.pinned (.plain (OpenSpec.upto fnWhereSpec)) fnWhereUptoCard

/-- THE SECOND FORM's CARD OF 'laws.FnOpposite'. -/
def fnOppositeUptoCard : Claim7 := { stood := { row := fnOppositeUptoRow, standIns := [], harness := (true, "37fb3daf59b1d97752caadf06eed5e3d5db459f01febd532a44ec99c8f4f9949"), looks := false }, kinds := [], alts := [], laidByText := true, laidKinds := [.data, .widerDeep], laidTests := true, laidLooks := .later }
def FnOppositeUptoCardSaid : Prop := Claim7.holds Tryd.pinned (.plain (OpenSpec.upto fnOppositeSpec)) fnOppositeUptoCard

/-- THE SECOND FORM's CARD OF 'laws.FnExactTestValid'. -/
def fnExactTestValidUptoCard : Claim7 := { stood := { row := fnExactTestValidUptoRow, standIns := [], harness := (true, "37fb3daf59b1d97752caadf06eed5e3d5db459f01febd532a44ec99c8f4f9949"), looks := false }, kinds := [], alts := [], laidByText := true, laidKinds := [.data, .widerDeep], laidTests := true, laidLooks := .later }
def FnExactTestValidUptoCardSaid : Prop := Claim7.holds Tryd.pinned (.plain (OpenSpec.upto fnExactTestValidSpec)) fnExactTestValidUptoCard

/-- THE SECOND FORM's CARD OF 'laws.FnExactTestHolds'. -/
def fnExactTestHoldsUptoCard : Claim7 := { stood := { row := fnExactTestHoldsUptoRow, standIns := [], harness := (true, "37fb3daf59b1d97752caadf06eed5e3d5db459f01febd532a44ec99c8f4f9949"), looks := false }, kinds := [], alts := [], laidByText := true, laidKinds := [.data, .widerDeep], laidTests := true, laidLooks := .later }
def FnExactTestHoldsUptoCardSaid : Prop := Claim7.holds Tryd.pinned (.plain (OpenSpec.upto fnExactTestHoldsSpec)) fnExactTestHoldsUptoCard

/-- THE SECOND FORM's CARD OF 'laws.FnExactWhereHolds'. -/
def fnExactWhereHoldsUptoCard : Claim7 := { stood := { row := fnExactWhereHoldsUptoRow, standIns := [], harness := (true, "37fb3daf59b1d97752caadf06eed5e3d5db459f01febd532a44ec99c8f4f9949"), looks := false }, kinds := [], alts := [], laidByText := true, laidKinds := [.data, .widerDeep], laidTests := true, laidLooks := .later }
def FnExactWhereHoldsUptoCardSaid : Prop := Claim7.holds Tryd.pinned (.plain (OpenSpec.upto fnExactWhereHoldsSpec)) fnExactWhereHoldsUptoCard

/-- THE SECOND FORM's CARD OF 'laws.FnExactOppositeOf'. -/
def fnExactOppositeOfUptoCard : Claim7 := { stood := { row := fnExactOppositeOfUptoRow, standIns := [], harness := (true, "37fb3daf59b1d97752caadf06eed5e3d5db459f01febd532a44ec99c8f4f9949"), looks := false }, kinds := [], alts := [], laidByText := true, laidKinds := [.data, .widerDeep], laidTests := true, laidLooks := .later }
def FnExactOppositeOfUptoCardSaid : Prop := Claim7.holds Tryd.pinned (.plain (OpenSpec.upto fnExactOppositeOfSpec)) fnExactOppositeOfUptoCard

/-- THE SECOND FORM's CARD OF 'laws.FnExactAllTests'. -/
def fnExactAllTestsUptoCard : Claim7 := { stood := { row := fnExactAllTestsUptoRow, standIns := [], harness := (true, "37fb3daf59b1d97752caadf06eed5e3d5db459f01febd532a44ec99c8f4f9949"), looks := false }, kinds := [], alts := [], laidByText := true, laidKinds := [.data, .widerDeep], laidTests := true, laidLooks := .later }
def FnExactAllTestsUptoCardSaid : Prop := Claim7.holds Tryd.pinned (.plain (OpenSpec.upto fnExactAllTestsSpec)) fnExactAllTestsUptoCard

/-- THE SECOND FORM's CARD OF 'laws.FnExactTestFor'. -/
def fnExactTestForUptoCard : Claim7 := { stood := { row := fnExactTestForUptoRow, standIns := [], harness := (true, "37fb3daf59b1d97752caadf06eed5e3d5db459f01febd532a44ec99c8f4f9949"), looks := false }, kinds := [], alts := [], laidByText := true, laidKinds := [.data, .widerDeep], laidTests := true, laidLooks := .later }
def FnExactTestForUptoCardSaid : Prop := Claim7.holds Tryd.pinned (.plain (OpenSpec.upto fnExactTestForSpec)) fnExactTestForUptoCard
end Rows
end Go.Proofs.YtemilnkglkpnjabDoor
