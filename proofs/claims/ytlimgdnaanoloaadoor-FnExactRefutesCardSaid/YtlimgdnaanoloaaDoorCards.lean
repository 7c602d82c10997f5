/-
  DERIVED. GIVEN WITH THE SEED: THE CARDS: each row of YtlimgdnaanoloaaDoorRows.lean that lists a variable, with what it lists TIED to the program's text (the seventh form; the later family's looks); each row that meets fmt, with fmt's text TOLD by the authors' own Lean function (tested against real Go, not proved from fmt's source: count such statements apart). THE CARD IS WHAT COUNTS. Prove the row's statement (the work); the ties are given (YtlimgdnaanoloaaDoorTie.lean); close each card by the builder's one call (the guide's Derived/Test/ToyasCard.lean, 'card_holds'). Laid BY PROGRAM, IN A SANDBOX (cutbox-door.mjs). By AI agents, Wed Nov 11 2026. No macro, syntax, notation, axiom, sorry.
-/
import Derived.Test.YtlimgdnaanoloaaDoorRows
import GoSem.ClaimSeven
namespace Go.Proofs.YtlimgdnaanoloaaDoor
namespace Rows

/-- THE TIED CARD OF 'laws.FnExactTripleValid'. -/
def fnExactTripleValidCard : Claim7 := { stood := { row := fnExactTripleValidRow, standIns := [], harness := (true, "36b0ae61cbc5abfdbfc684c94f6d8f1212ea302232d1973c63b5a05640e84f63"), looks := true }, kinds := [], alts := [], laidByText := true, laidKinds := [.data, .widerDeep, .sentinel, .widerDeep], laidTests := true, laidLooks := .later }
def FnExactTripleValidCardSaid : Prop := Claim7.holds Tryd.pinned (.plain (OpenSpec.ofChange fnExactTripleValidSpec)) fnExactTripleValidCard

/-- THE TIED CARD OF 'laws.FnExactFormatTriple'. -/
def fnExactFormatTripleCard : Claim7 := { stood := { row := fnExactFormatTripleRow, standIns := [], harness := (true, "36b0ae61cbc5abfdbfc684c94f6d8f1212ea302232d1973c63b5a05640e84f63"), looks := true }, kinds := [], alts := [], laidByText := true, laidKinds := [.data, .widerDeep, .sentinel, .widerDeep], laidTests := true, laidLooks := .later }
def FnExactFormatTripleCardSaid : Prop := Claim7.holds Tryd.pinned (.plain (OpenSpec.ofChange fnExactFormatTripleSpec)) fnExactFormatTripleCard

/-- THE TIED CARD OF 'laws.FnExactParseTriple'. -/
def fnExactParseTripleCard : Claim7 := { stood := { row := fnExactParseTripleRow, standIns := [], harness := (true, "36b0ae61cbc5abfdbfc684c94f6d8f1212ea302232d1973c63b5a05640e84f63"), looks := true }, kinds := [], alts := [], laidByText := true, laidKinds := [.data, .sentinel, .sentinel, .data, .widerDeep, .sentinel, .widerDeep, .sentinel, .sentinel, .pinned], laidTests := true, laidLooks := .later }
def FnExactParseTripleCardSaid : Prop := Claim7.holds Tryd.pinned (.plain (OpenSpec.ofChange fnExactParseTripleSpec)) fnExactParseTripleCard

/-- THE TIED CARD OF 'laws.FnExactIsSure'. -/
def fnExactIsSureCard : Claim7 := { stood := { row := fnExactIsSureRow, standIns := [], harness := (true, "36b0ae61cbc5abfdbfc684c94f6d8f1212ea302232d1973c63b5a05640e84f63"), looks := true }, kinds := [], alts := [], laidByText := true, laidKinds := [.data, .widerDeep, .sentinel, .widerDeep, .sentinel], laidTests := true, laidLooks := .later }
def FnExactIsSureCardSaid : Prop := Claim7.holds Tryd.pinned (.plain (OpenSpec.ofChange fnExactIsSureSpec)) fnExactIsSureCard

/-- THE TIED CARD OF 'laws.FnExactIsAlways'. -/
def fnExactIsAlwaysCard : Claim7 := { stood := { row := fnExactIsAlwaysRow, standIns := [], harness := (true, "36b0ae61cbc5abfdbfc684c94f6d8f1212ea302232d1973c63b5a05640e84f63"), looks := true }, kinds := [], alts := [], laidByText := true, laidKinds := [.data, .widerDeep, .sentinel, .widerDeep, .sentinel], laidTests := true, laidLooks := .later }
def FnExactIsAlwaysCardSaid : Prop := Claim7.holds Tryd.pinned (.plain (OpenSpec.ofChange fnExactIsAlwaysSpec)) fnExactIsAlwaysCard

/-- THE TIED CARD OF 'laws.FnExactMostSure'. -/
def fnExactMostSureCard : Claim7 := { stood := { row := fnExactMostSureRow, standIns := [], harness := (true, "36b0ae61cbc5abfdbfc684c94f6d8f1212ea302232d1973c63b5a05640e84f63"), looks := true }, kinds := [], alts := [], laidByText := true, laidKinds := [.data, .widerDeep, .sentinel, .widerDeep], laidTests := true, laidLooks := .later }
def FnExactMostSureCardSaid : Prop := Claim7.holds Tryd.pinned (.plain (OpenSpec.ofChange fnExactMostSureSpec)) fnExactMostSureCard

/-- THE TIED CARD OF 'laws.FnExactRefutes'. -/
def fnExactRefutesCard : Claim7 := { stood := { row := fnExactRefutesRow, standIns := [], harness := (true, "36b0ae61cbc5abfdbfc684c94f6d8f1212ea302232d1973c63b5a05640e84f63"), looks := true }, kinds := [], alts := [], laidByText := true, laidKinds := [.data, .widerDeep, .sentinel, .widerDeep, .sentinel], laidTests := true, laidLooks := .later }
def FnExactRefutesCardSaid : Prop := Claim7.holds Tryd.pinned (.plain (OpenSpec.ofChange fnExactRefutesSpec)) fnExactRefutesCard

/-- THE TIED CARD OF 'laws.FnExactMissingOf'. -/
def fnExactMissingOfCard : Claim7 := { stood := { row := fnExactMissingOfRow, standIns := [], harness := (true, "36b0ae61cbc5abfdbfc684c94f6d8f1212ea302232d1973c63b5a05640e84f63"), looks := true }, kinds := [], alts := [], laidByText := true, laidKinds := [.data, .widerDeep, .sentinel, .widerDeep, .sentinel], laidTests := true, laidLooks := .later }
def FnExactMissingOfCardSaid : Prop := Claim7.holds Tryd.pinned (.plain (OpenSpec.ofChange fnExactMissingOfSpec)) fnExactMissingOfCard

/-- THE TIED CARD OF 'laws.FnExactSurplusOf'. -/
def fnExactSurplusOfCard : Claim7 := { stood := { row := fnExactSurplusOfRow, standIns := [], harness := (true, "36b0ae61cbc5abfdbfc684c94f6d8f1212ea302232d1973c63b5a05640e84f63"), looks := true }, kinds := [], alts := [], laidByText := true, laidKinds := [.data, .widerDeep, .sentinel, .widerDeep, .sentinel], laidTests := true, laidLooks := .later }
def FnExactSurplusOfCardSaid : Prop := Claim7.holds Tryd.pinned (.plain (OpenSpec.ofChange fnExactSurplusOfSpec)) fnExactSurplusOfCard

/-- THE SECOND FORM's CARD OF 'laws.FnExactTripleValid'. -/
def fnExactTripleValidUptoCard : Claim7 := { stood := { row := fnExactTripleValidUptoRow, standIns := [], harness := (true, "36b0ae61cbc5abfdbfc684c94f6d8f1212ea302232d1973c63b5a05640e84f63"), looks := true }, kinds := [], alts := [], laidByText := true, laidKinds := [.data, .widerDeep, .sentinel, .widerDeep], laidTests := true, laidLooks := .later }
def FnExactTripleValidUptoCardSaid : Prop := Claim7.holds Tryd.pinned (.plain (OpenSpec.upto fnExactTripleValidSpec)) fnExactTripleValidUptoCard

/-- THE SECOND FORM's CARD OF 'laws.FnExactFormatTriple'. -/
def fnExactFormatTripleUptoCard : Claim7 := { stood := { row := fnExactFormatTripleUptoRow, standIns := [], harness := (true, "36b0ae61cbc5abfdbfc684c94f6d8f1212ea302232d1973c63b5a05640e84f63"), looks := true }, kinds := [], alts := [], laidByText := true, laidKinds := [.data, .widerDeep, .sentinel, .widerDeep], laidTests := true, laidLooks := .later }
def FnExactFormatTripleUptoCardSaid : Prop := Claim7.holds Tryd.pinned (.plain (OpenSpec.upto fnExactFormatTripleSpec)) fnExactFormatTripleUptoCard

/-- THE SECOND FORM's CARD OF 'laws.FnExactParseTriple'. -/
def fnExactParseTripleUptoCard : Claim7 := { stood := { row := fnExactParseTripleUptoRow, standIns := [], harness := (true, "36b0ae61cbc5abfdbfc684c94f6d8f1212ea302232d1973c63b5a05640e84f63"), looks := true }, kinds := [], alts := [], laidByText := true, laidKinds := [.data, .sentinel, .sentinel, .data, .widerDeep, .sentinel, .widerDeep, .sentinel, .sentinel, .pinned], laidTests := true, laidLooks := .later }
def FnExactParseTripleUptoCardSaid : Prop := Claim7.holds Tryd.pinned (.plain (OpenSpec.upto fnExactParseTripleSpec)) fnExactParseTripleUptoCard

/-- THE SECOND FORM's CARD OF 'laws.FnExactIsSure'. -/
def fnExactIsSureUptoCard : Claim7 := { stood := { row := fnExactIsSureUptoRow, standIns := [], harness := (true, "36b0ae61cbc5abfdbfc684c94f6d8f1212ea302232d1973c63b5a05640e84f63"), looks := true }, kinds := [], alts := [], laidByText := true, laidKinds := [.data, .widerDeep, .sentinel, .widerDeep, .sentinel], laidTests := true, laidLooks := .later }
def FnExactIsSureUptoCardSaid : Prop := Claim7.holds Tryd.pinned (.plain (OpenSpec.upto fnExactIsSureSpec)) fnExactIsSureUptoCard

/-- THE SECOND FORM's CARD OF 'laws.FnExactIsAlways'. -/
def fnExactIsAlwaysUptoCard : Claim7 := { stood := { row := fnExactIsAlwaysUptoRow, standIns := [], harness := (true, "36b0ae61cbc5abfdbfc684c94f6d8f1212ea302232d1973c63b5a05640e84f63"), looks := true }, kinds := [], alts := [], laidByText := true, laidKinds := [.data, .widerDeep, .sentinel, .widerDeep, .sentinel], laidTests := true, laidLooks := .later }
def FnExactIsAlwaysUptoCardSaid : Prop := Claim7.holds Tryd.pinned (.plain (OpenSpec.upto fnExactIsAlwaysSpec)) fnExactIsAlwaysUptoCard

/-- THE SECOND FORM's CARD OF 'laws.FnExactMostSure'. -/
def fnExactMostSureUptoCard : Claim7 := { stood := { row := fnExactMostSureUptoRow, standIns := [], harness := (true, "36b0ae61cbc5abfdbfc684c94f6d8f1212ea302232d1973c63b5a05640e84f63"), looks := true }, kinds := [], alts := [], laidByText := true, laidKinds := [.data, .widerDeep, .sentinel, .widerDeep], laidTests := true, laidLooks := .later }
def FnExactMostSureUptoCardSaid : Prop := Claim7.holds Tryd.pinned (.plain (OpenSpec.upto fnExactMostSureSpec)) fnExactMostSureUptoCard

/-- THE SECOND FORM's CARD OF 'laws.FnExactRefutes'. -/
def fnExactRefutesUptoCard : Claim7 := { stood := { row := fnExactRefutesUptoRow, standIns := [], harness := (true, "36b0ae61cbc5abfdbfc684c94f6d8f1212ea302232d1973c63b5a05640e84f63"), looks := true }, kinds := [], alts := [], laidByText := true, laidKinds := [.data, .widerDeep, .sentinel, .widerDeep, .sentinel], laidTests := true, laidLooks := .later }
def FnExactRefutesUptoCardSaid : Prop := Claim7.holds Tryd.pinned (.plain (OpenSpec.upto fnExactRefutesSpec)) fnExactRefutesUptoCard

/-- THE SECOND FORM's CARD OF 'laws.FnExactMissingOf'. -/
def fnExactMissingOfUptoCard : Claim7 := { stood := { row := fnExactMissingOfUptoRow, standIns := [], harness := (true, "36b0ae61cbc5abfdbfc684c94f6d8f1212ea302232d1973c63b5a05640e84f63"), looks := true }, kinds := [], alts := [], laidByText := true, laidKinds := [.data, .widerDeep, .sentinel, .widerDeep, .sentinel], laidTests := true, laidLooks := .later }
def FnExactMissingOfUptoCardSaid : Prop := Claim7.holds Tryd.pinned (.plain (OpenSpec.upto fnExactMissingOfSpec)) fnExactMissingOfUptoCard

/-- THE SECOND FORM's CARD OF 'laws.FnExactSurplusOf'. -/
def fnExactSurplusOfUptoCard : Claim7 := { stood := { row := fnExactSurplusOfUptoRow, standIns := [], harness := (true, "36b0ae61cbc5abfdbfc684c94f6d8f1212ea302232d1973c63b5a05640e84f63"), looks := true }, kinds := [], alts := [], laidByText := true, laidKinds := [.data, .widerDeep, .sentinel, .widerDeep, .sentinel], laidTests := true, laidLooks := .later }
def FnExactSurplusOfUptoCardSaid : Prop := Claim7.holds Tryd.pinned (.plain (OpenSpec.upto fnExactSurplusOfSpec)) fnExactSurplusOfUptoCard
end Rows
end Go.Proofs.YtlimgdnaanoloaaDoor
