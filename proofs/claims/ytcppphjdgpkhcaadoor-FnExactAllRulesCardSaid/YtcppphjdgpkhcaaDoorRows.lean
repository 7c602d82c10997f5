/-
  NARROWER THAN 'FOR EVERY INPUT', by the rows' own cells (each row's printed sentence says how): FnExactParseTriple: ifaces, laid · FnExactAllRules: ifaces, laid.
  DERIVED. THE GIVEN ROWS OF THIS SEAT. 2 by the template 'for every input the law returns true; each argument reads behind the call as it read before'; 0 by the template 'total and deterministic' (their statements: YtcppphjdgpkhcaaDoorTotals.lean).
  GIVEN WITH THE SEED: the statements are not yours to turn. If you find one false, say at which input.
  Laid BY PROGRAM, IN A SANDBOX (cutbox-rows.mjs): the forced cells as the released guide's own fill.sh prints them over the translation 16dcd9c4cc7a80b6… (all of the seat's roots in one cut). By AI agents, Wed Nov 11 2026. No macro, syntax, notation, axiom, sorry.
-/
import Derived.Test.YtcppphjdgpkhcaaDoorChecked
import GoSem.PinnedTables
import GoSem.Claim
import GoSem.ClaimJoined
import GoSem.ClaimMapViews
import Derived.JoinedTies
import Derived.KernelRfl
namespace Go.Proofs.YtcppphjdgpkhcaaDoor
/- THE CELL 'sum', in the pinned program and in every row, IS THE sha256 OF THE DUMP (.gsa) THAT YtcppphjdgpkhcaaDoorProg.lean LOADS. Nothing in Lean hashes anything: it is a label: what it is worth is what the hold of that sum in a sandbox is worth. -/
noncomputable def Tryd.pinned : Pinned := { name := "ytcppphjdgpkhcaadoor", sum := "16dcd9c4cc7a80b64687f21b1b4997baa39f9d8469aeec437b94372244af2d3c", checked := Tryd.checked }
namespace Rows
def none {H : Type} : Left H := { results := [], args := [] }

/- WHAT THE LISTED PACKAGE-LEVEL VARIABLES READ AS WHEN THE CALL BEGINS. Each datum BY PROGRAM (the guide's laid-datum.mjs) off the statement by which the dump's own 'gosem.cut.vars' lays the variable. In a bare row this is a premise. The card (YtcppphjdgpkhcaaDoorCards.lean) ties it to the program's text. -/
def laid_unicode_utf8_acceptRanges {H : Type} : DataW H := .agg [.agg [.lit (.int .u8 128), .lit (.int .u8 191)], .agg [.lit (.int .u8 160), .lit (.int .u8 191)], .agg [.lit (.int .u8 128), .lit (.int .u8 159)], .agg [.lit (.int .u8 144), .lit (.int .u8 191)], .agg [.lit (.int .u8 128), .lit (.int .u8 143)], .agg [.lit (.int .u8 0), .lit (.int .u8 0)], .agg [.lit (.int .u8 0), .lit (.int .u8 0)], .agg [.lit (.int .u8 0), .lit (.int .u8 0)], .agg [.lit (.int .u8 0), .lit (.int .u8 0)], .agg [.lit (.int .u8 0), .lit (.int .u8 0)], .agg [.lit (.int .u8 0), .lit (.int .u8 0)], .agg [.lit (.int .u8 0), .lit (.int .u8 0)], .agg [.lit (.int .u8 0), .lit (.int .u8 0)], .agg [.lit (.int .u8 0), .lit (.int .u8 0)], .agg [.lit (.int .u8 0), .lit (.int .u8 0)], .agg [.lit (.int .u8 0), .lit (.int .u8 0)]]
def laid_loop_example_surelywrong_impl_errNoState {H : Type} : DataW H := .iface "*errors.errorString" (.ptr (.agg [.lit (.string [110, 111, 32, 115, 116, 97, 116, 101])]))
def laid_loop_example_surelywrong_impl_errStateOrder {H : Type} : DataW H := .iface "*errors.errorString" (.ptr (.agg [.lit (.string [115, 116, 97, 116, 101, 115, 32, 97, 114, 101, 32, 110, 111, 116, 32, 97, 115, 99, 101, 110, 100, 105, 110, 103])]))
def laid_loop_example_surelywrong_impl_comparedWithNumbers {H : Type} : DataW H := .slice [.lit (.string [61, 48]), .lit (.string [61, 49]), .lit (.string [61, 50]), .lit (.string [35, 48]), .lit (.string [35, 49]), .lit (.string [35, 50]), .lit (.string [60, 49]), .lit (.string [60, 50])] []
def laid_loop_example_surelywrong_impl_comparedVariables {H : Type} : DataW H := .slice [.lit (.string [120, 61, 121]), .lit (.string [120, 35, 121]), .lit (.string [120, 60, 121]), .lit (.string [121, 60, 120])] []
def laid_loop_example_surelywrong_impl_errNoProgram {H : Type} : DataW H := .iface "*errors.errorString" (.ptr (.agg [.lit (.string [110, 111, 32, 112, 114, 111, 103, 114, 97, 109])]))
def laid_loop_example_surelywrong_impl_assignments {H : Type} : DataW H := .slice [.lit (.string [120, 48]), .lit (.string [120, 49]), .lit (.string [120, 50]), .lit (.string [120, 121]), .lit (.string [120, 43]), .lit (.string [120, 63]), .lit (.string [121, 48]), .lit (.string [121, 49]), .lit (.string [121, 50]), .lit (.string [121, 120]), .lit (.string [121, 43]), .lit (.string [121, 63])] []
def laid_loop_example_surelywrong_impl_errNoExit {H : Type} : DataW H := .iface "*errors.errorString" (.ptr (.agg [.lit (.string [110, 111, 32, 101, 120, 105, 116])]))
def laid_loop_example_surelywrong_impl_errMoreText {H : Type} : DataW H := .iface "*errors.errorString" (.ptr (.agg [.lit (.string [109, 111, 114, 101, 32, 119, 111, 114, 100, 115, 32, 116, 104, 97, 110, 32, 97, 32, 116, 114, 105, 112, 108, 101, 32, 104, 97, 115])]))
/-- One of Go's own tables, pinned by name: the form's constant. -/
def laid_unicode_utf8_first : DataW Unit := Go.Pinned.utf8First
def laid_loop_example_surelywrong_impl_errNoTriple {H : Type} : DataW H := .iface "*errors.errorString" (.ptr (.agg [.lit (.string [110, 111, 32, 116, 114, 105, 112, 108, 101])]))

/-- 'laws.FnExactParseTriple': WHATEVER THE INPUT: true; the input reads as it did. -/
def fnExactParseTripleSpec : ChangeSpec := { name := "fnExactParseTriple", vars := ["loop.example/surelywrong/impl.errMoreText", "loop.example/surelywrong/impl.errStateOrder", "loop.example/surelywrong/impl.errNoState", "loop.example/surelywrong/impl.errNoProgram", "loop.example/surelywrong/impl.assignments", "loop.example/surelywrong/impl.comparedVariables", "loop.example/surelywrong/impl.comparedWithNumbers", "loop.example/surelywrong/impl.errNoExit"], fn := fun _ => fun
  | [d, g1, g2, g3, g4, g5, g6, g7, g8] => { results := [.lit (.bool true)], args := [d], vars := [g1, g2, g3, g4, g5, g6, g7, g8] }
  | _ => none }
def fnExactParseTripleRow : OpenClaim := { program := "ytcppphjdgpkhcaadoor", sum := "16dcd9c4cc7a80b64687f21b1b4997baa39f9d8469aeec437b94372244af2d3c", func := "loop.example/surelywrong/laws.FnExactParseTriple", spec := "fnExactParseTriple", inPlace := ["internal/bytealg.IndexByteString", "internal/bytealg.IndexString"], unfollowed := true, recurses := true, named := ["loop.example/surelywrong/impl.errMoreText", "internal/bytealg.MaxLen", "loop.example/surelywrong/impl.errStateOrder", "unicode/utf8.first", "unicode/utf8.acceptRanges", "loop.example/surelywrong/impl.errNoState", "loop.example/surelywrong/impl.errNoProgram", "loop.example/surelywrong/impl.assignments", "loop.example/surelywrong/impl.comparedVariables", "loop.example/surelywrong/impl.comparedWithNumbers", "loop.example/surelywrong/impl.errNoExit"], ifaces := true, plainKeys := false, apart := false, laid := [("unicode/utf8.acceptRanges", laid_unicode_utf8_acceptRanges), ("loop.example/surelywrong/impl.errNoState", laid_loop_example_surelywrong_impl_errNoState), ("loop.example/surelywrong/impl.errStateOrder", laid_loop_example_surelywrong_impl_errStateOrder), ("loop.example/surelywrong/impl.comparedWithNumbers", laid_loop_example_surelywrong_impl_comparedWithNumbers), ("loop.example/surelywrong/impl.comparedVariables", laid_loop_example_surelywrong_impl_comparedVariables), ("loop.example/surelywrong/impl.errNoProgram", laid_loop_example_surelywrong_impl_errNoProgram), ("loop.example/surelywrong/impl.assignments", laid_loop_example_surelywrong_impl_assignments), ("loop.example/surelywrong/impl.errNoExit", laid_loop_example_surelywrong_impl_errNoExit), ("loop.example/surelywrong/impl.errMoreText", laid_loop_example_surelywrong_impl_errMoreText), ("unicode/utf8.first", laid_unicode_utf8_first)] }
def FnExactParseTripleSaid : Prop := fnExactParseTripleRow.holds Tryd.pinned (OpenSpec.ofChange fnExactParseTripleSpec)

/-- ITS FALSE NEIGHBOUR: 'it returns false'. Refute it at one input. -/
def fnExactParseTripleWrong : ChangeSpec := { name := "fnExactParseTriple", vars := ["loop.example/surelywrong/impl.errMoreText", "loop.example/surelywrong/impl.errStateOrder", "loop.example/surelywrong/impl.errNoState", "loop.example/surelywrong/impl.errNoProgram", "loop.example/surelywrong/impl.assignments", "loop.example/surelywrong/impl.comparedVariables", "loop.example/surelywrong/impl.comparedWithNumbers", "loop.example/surelywrong/impl.errNoExit"], fn := fun _ => fun
  | [d, g1, g2, g3, g4, g5, g6, g7, g8] => { results := [.lit (.bool false)], args := [d], vars := [g1, g2, g3, g4, g5, g6, g7, g8] }
  | _ => none }
def FnExactParseTripleWrongFalsely : Prop := fnExactParseTripleRow.holds Tryd.pinned (OpenSpec.ofChange fnExactParseTripleWrong)

/-- 'laws.FnExactAllRules': WHATEVER THE INPUT: true; the input reads as it did. -/
def fnExactAllRulesSpec : ChangeSpec := { name := "fnExactAllRules", vars := ["loop.example/surelywrong/impl.errNoTriple", "loop.example/surelywrong/impl.errNoProgram", "loop.example/surelywrong/impl.assignments", "loop.example/surelywrong/impl.comparedVariables", "loop.example/surelywrong/impl.comparedWithNumbers"], fn := fun _ => fun
  | [g1, g2, g3, g4, g5] => { results := [.lit (.bool true)], args := [], vars := [g1, g2, g3, g4, g5] }
  | _ => none }
def fnExactAllRulesRow : OpenClaim := { program := "ytcppphjdgpkhcaadoor", sum := "16dcd9c4cc7a80b64687f21b1b4997baa39f9d8469aeec437b94372244af2d3c", func := "loop.example/surelywrong/laws.FnExactAllRules", spec := "fnExactAllRules", unfollowed := true, recurses := true, named := ["loop.example/surelywrong/impl.errNoTriple", "loop.example/surelywrong/impl.errNoProgram", "loop.example/surelywrong/impl.assignments", "loop.example/surelywrong/impl.comparedVariables", "loop.example/surelywrong/impl.comparedWithNumbers"], ifaces := true, plainKeys := false, apart := false, laid := [("loop.example/surelywrong/impl.comparedWithNumbers", laid_loop_example_surelywrong_impl_comparedWithNumbers), ("loop.example/surelywrong/impl.comparedVariables", laid_loop_example_surelywrong_impl_comparedVariables), ("loop.example/surelywrong/impl.errNoProgram", laid_loop_example_surelywrong_impl_errNoProgram), ("loop.example/surelywrong/impl.assignments", laid_loop_example_surelywrong_impl_assignments), ("loop.example/surelywrong/impl.errNoTriple", laid_loop_example_surelywrong_impl_errNoTriple)] }
def FnExactAllRulesSaid : Prop := fnExactAllRulesRow.holds Tryd.pinned (OpenSpec.ofChange fnExactAllRulesSpec)

/-- ITS FALSE NEIGHBOUR: 'it returns false'. Refute it at one input. -/
def fnExactAllRulesWrong : ChangeSpec := { name := "fnExactAllRules", vars := ["loop.example/surelywrong/impl.errNoTriple", "loop.example/surelywrong/impl.errNoProgram", "loop.example/surelywrong/impl.assignments", "loop.example/surelywrong/impl.comparedVariables", "loop.example/surelywrong/impl.comparedWithNumbers"], fn := fun _ => fun
  | [g1, g2, g3, g4, g5] => { results := [.lit (.bool false)], args := [], vars := [g1, g2, g3, g4, g5] }
  | _ => none }
def FnExactAllRulesWrongFalsely : Prop := fnExactAllRulesRow.holds Tryd.pinned (OpenSpec.ofChange fnExactAllRulesWrong)

/- THE SECOND FORM. 'bulk': how many values and letters a reading holds, each counted each time it is reached (what is shared counts as often as it is met; a slice's spare places count too). A statement '..UptoSaid' is the law's where the arguments, and the package variables that the reading takes, are together of bulk at most 1048576: NARROWER than '..Said'. Prove '..Said' where nothing that the law and all that it calls make is longer than what came in: it says more and counts as full. Else prove '..UptoSaid'. A law counts once. -/
mutual
def uptoBulk {H : Type} : DataW H → Nat
  | .lit (.string bytes) => bytes.length + 1
  | .lit _ => 1
  | .nil => 1
  | .ptr d => uptoBulk d + 1
  | .slice elems spare => uptoBulkAll elems + uptoBulkAll spare + 1
  | .agg parts => uptoBulkAll parts + 1
  | .iface _ d => uptoBulk d + 1
  | .map entries => uptoBulkEntries entries + 1
  | .held _ => 1
def uptoBulkAll {H : Type} : List (DataW H) → Nat
  | [] => 0
  | d :: r => uptoBulk d + uptoBulkAll r
def uptoBulkEntries {H : Type} : List (Lit × DataW H) → Nat
  | [] => 0
  | x :: r => uptoBulkEntry x + uptoBulkEntries r
def uptoBulkEntry {H : Type} : Lit × DataW H → Nat
  | (.string bytes, d) => bytes.length + uptoBulk d + 1
  | (_, d) => uptoBulk d + 1
 end
def uptoSmall : (H : Type) → List (DataW H) → Bool := fun _ ds => decide (uptoBulkAll ds ≤ 1048576)
def OpenSpec.upto (s : _root_.Go.ChangeSpec) : _root_.Go.OpenSpec := { _root_.Go.OpenSpec.ofChange s with cond := some uptoSmall }

/-- 'laws.FnExactParseTriple', WHERE WHAT IT READS IS OF BULK AT MOST 1048576: true; the input reads as it did. -/
def fnExactParseTripleUptoRow : OpenClaim := { program := "ytcppphjdgpkhcaadoor", sum := "16dcd9c4cc7a80b64687f21b1b4997baa39f9d8469aeec437b94372244af2d3c", func := "loop.example/surelywrong/laws.FnExactParseTriple", spec := "fnExactParseTriple", inPlace := ["internal/bytealg.IndexByteString", "internal/bytealg.IndexString"], unfollowed := true, recurses := true, named := ["loop.example/surelywrong/impl.errMoreText", "internal/bytealg.MaxLen", "loop.example/surelywrong/impl.errStateOrder", "unicode/utf8.first", "unicode/utf8.acceptRanges", "loop.example/surelywrong/impl.errNoState", "loop.example/surelywrong/impl.errNoProgram", "loop.example/surelywrong/impl.assignments", "loop.example/surelywrong/impl.comparedVariables", "loop.example/surelywrong/impl.comparedWithNumbers", "loop.example/surelywrong/impl.errNoExit"], ifaces := true, plainKeys := false, apart := false, laid := [("unicode/utf8.acceptRanges", laid_unicode_utf8_acceptRanges), ("loop.example/surelywrong/impl.errNoState", laid_loop_example_surelywrong_impl_errNoState), ("loop.example/surelywrong/impl.errStateOrder", laid_loop_example_surelywrong_impl_errStateOrder), ("loop.example/surelywrong/impl.comparedWithNumbers", laid_loop_example_surelywrong_impl_comparedWithNumbers), ("loop.example/surelywrong/impl.comparedVariables", laid_loop_example_surelywrong_impl_comparedVariables), ("loop.example/surelywrong/impl.errNoProgram", laid_loop_example_surelywrong_impl_errNoProgram), ("loop.example/surelywrong/impl.assignments", laid_loop_example_surelywrong_impl_assignments), ("loop.example/surelywrong/impl.errNoExit", laid_loop_example_surelywrong_impl_errNoExit), ("loop.example/surelywrong/impl.errMoreText", laid_loop_example_surelywrong_impl_errMoreText), ("unicode/utf8.first", laid_unicode_utf8_first)], narrowed := true }
def FnExactParseTripleUptoSaid : Prop := fnExactParseTripleUptoRow.holds Tryd.pinned (OpenSpec.upto fnExactParseTripleSpec)

/-- 'laws.FnExactAllRules', WHERE WHAT IT READS IS OF BULK AT MOST 1048576: true; the input reads as it did. -/
def fnExactAllRulesUptoRow : OpenClaim := { program := "ytcppphjdgpkhcaadoor", sum := "16dcd9c4cc7a80b64687f21b1b4997baa39f9d8469aeec437b94372244af2d3c", func := "loop.example/surelywrong/laws.FnExactAllRules", spec := "fnExactAllRules", unfollowed := true, recurses := true, named := ["loop.example/surelywrong/impl.errNoTriple", "loop.example/surelywrong/impl.errNoProgram", "loop.example/surelywrong/impl.assignments", "loop.example/surelywrong/impl.comparedVariables", "loop.example/surelywrong/impl.comparedWithNumbers"], ifaces := true, plainKeys := false, apart := false, laid := [("loop.example/surelywrong/impl.comparedWithNumbers", laid_loop_example_surelywrong_impl_comparedWithNumbers), ("loop.example/surelywrong/impl.comparedVariables", laid_loop_example_surelywrong_impl_comparedVariables), ("loop.example/surelywrong/impl.errNoProgram", laid_loop_example_surelywrong_impl_errNoProgram), ("loop.example/surelywrong/impl.assignments", laid_loop_example_surelywrong_impl_assignments), ("loop.example/surelywrong/impl.errNoTriple", laid_loop_example_surelywrong_impl_errNoTriple)], narrowed := true }
def FnExactAllRulesUptoSaid : Prop := fnExactAllRulesUptoRow.holds Tryd.pinned (OpenSpec.upto fnExactAllRulesSpec)

end Rows
end Go.Proofs.YtcppphjdgpkhcaaDoor
