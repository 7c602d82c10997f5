/-
  NARROWER THAN 'FOR EVERY INPUT', by the rows' own cells (each row's printed sentence says how): FnExactRunWith: ifaces, laid · FnExactChoicesRight: ifaces, laid · FnExactTraceOf: ifaces, laid.
  DERIVED. THE GIVEN ROWS OF THIS SEAT. 3 by the template 'for every input the law returns true; each argument reads behind the call as it read before'; 0 by the template 'total and deterministic' (their statements: YtfoifcbpognjaaaDoorTotals.lean).
  GIVEN WITH THE SEED: the statements are not yours to turn. If you find one false, say at which input.
  Laid BY PROGRAM, IN A SANDBOX (cutbox-rows.mjs): the forced cells as the released guide's own fill.sh prints them over the translation 815a58524728eddf… (all of the seat's roots in one cut). By AI agents, Wed Nov 11 2026. No macro, syntax, notation, axiom, sorry.
-/
import Derived.Test.YtfoifcbpognjaaaDoorChecked
import GoSem.Claim
import GoSem.ClaimJoined
import GoSem.ClaimMapViews
import Derived.JoinedTies
import Derived.KernelRfl
namespace Go.Proofs.YtfoifcbpognjaaaDoor
/- THE CELL 'sum', in the pinned program and in every row, IS THE sha256 OF THE DUMP (.gsa) THAT YtfoifcbpognjaaaDoorProg.lean LOADS. Nothing in Lean hashes anything: it is a label: what it is worth is what the hold of that sum in a sandbox is worth. -/
noncomputable def Tryd.pinned : Pinned := { name := "ytfoifcbpognjaaadoor", sum := "815a58524728eddf9c580ee11a2b115b93ced4205ccc167c2106027883257bd0", checked := Tryd.checked }
namespace Rows
def none {H : Type} : Left H := { results := [], args := [] }

/- WHAT THE LISTED PACKAGE-LEVEL VARIABLES READ AS WHEN THE CALL BEGINS. Each datum BY PROGRAM (the guide's laid-datum.mjs) off the statement by which the dump's own 'gosem.cut.vars' lays the variable. In a bare row this is a premise. The card (YtfoifcbpognjaaaDoorCards.lean) ties it to the program's text. -/
def laid_loop_example_surelywrong_impl_errNotRight {H : Type} : DataW H := .iface "*errors.errorString" (.ptr (.agg [.lit (.string [99, 104, 111, 105, 99, 101, 115, 32, 97, 114, 101, 32, 110, 111, 116, 32, 114, 105, 103, 104, 116])]))
def laid_loop_example_surelywrong_impl_comparedWithNumbers {H : Type} : DataW H := .slice [.lit (.string [61, 48]), .lit (.string [61, 49]), .lit (.string [61, 50]), .lit (.string [35, 48]), .lit (.string [35, 49]), .lit (.string [35, 50]), .lit (.string [60, 49]), .lit (.string [60, 50])] []
def laid_loop_example_surelywrong_impl_comparedVariables {H : Type} : DataW H := .slice [.lit (.string [120, 61, 121]), .lit (.string [120, 35, 121]), .lit (.string [120, 60, 121]), .lit (.string [121, 60, 120])] []
def laid_loop_example_surelywrong_impl_errNoProgram {H : Type} : DataW H := .iface "*errors.errorString" (.ptr (.agg [.lit (.string [110, 111, 32, 112, 114, 111, 103, 114, 97, 109])]))
def laid_loop_example_surelywrong_impl_assignments {H : Type} : DataW H := .slice [.lit (.string [120, 48]), .lit (.string [120, 49]), .lit (.string [120, 50]), .lit (.string [120, 121]), .lit (.string [120, 43]), .lit (.string [120, 63]), .lit (.string [121, 48]), .lit (.string [121, 49]), .lit (.string [121, 50]), .lit (.string [121, 120]), .lit (.string [121, 43]), .lit (.string [121, 63])] []

/-- 'laws.FnExactRunWith': WHATEVER THE INPUT: true; the input reads as it did. -/
def fnExactRunWithSpec : ChangeSpec := { name := "fnExactRunWith", vars := ["loop.example/surelywrong/impl.errNoProgram", "loop.example/surelywrong/impl.assignments", "loop.example/surelywrong/impl.comparedVariables", "loop.example/surelywrong/impl.comparedWithNumbers", "loop.example/surelywrong/impl.errNotRight"], fn := fun _ => fun
  | [d1, d2, d3, g1, g2, g3, g4, g5] => { results := [.lit (.bool true)], args := [d1, d2, d3], vars := [g1, g2, g3, g4, g5] }
  | _ => none }
def fnExactRunWithRow : OpenClaim := { program := "ytfoifcbpognjaaadoor", sum := "815a58524728eddf9c580ee11a2b115b93ced4205ccc167c2106027883257bd0", func := "loop.example/surelywrong/laws.FnExactRunWith", spec := "fnExactRunWith", unfollowed := true, recurses := true, named := ["loop.example/surelywrong/impl.errNoProgram", "loop.example/surelywrong/impl.assignments", "loop.example/surelywrong/impl.comparedVariables", "loop.example/surelywrong/impl.comparedWithNumbers", "loop.example/surelywrong/impl.errNotRight"], ifaces := true, apart := false, laid := [("loop.example/surelywrong/impl.errNotRight", laid_loop_example_surelywrong_impl_errNotRight), ("loop.example/surelywrong/impl.comparedWithNumbers", laid_loop_example_surelywrong_impl_comparedWithNumbers), ("loop.example/surelywrong/impl.comparedVariables", laid_loop_example_surelywrong_impl_comparedVariables), ("loop.example/surelywrong/impl.errNoProgram", laid_loop_example_surelywrong_impl_errNoProgram), ("loop.example/surelywrong/impl.assignments", laid_loop_example_surelywrong_impl_assignments)] }
def FnExactRunWithSaid : Prop := fnExactRunWithRow.holds Tryd.pinned (OpenSpec.ofChange fnExactRunWithSpec)

/-- ITS FALSE NEIGHBOUR: 'it returns false'. Refute it at one input. -/
def fnExactRunWithWrong : ChangeSpec := { name := "fnExactRunWith", vars := ["loop.example/surelywrong/impl.errNoProgram", "loop.example/surelywrong/impl.assignments", "loop.example/surelywrong/impl.comparedVariables", "loop.example/surelywrong/impl.comparedWithNumbers", "loop.example/surelywrong/impl.errNotRight"], fn := fun _ => fun
  | [d1, d2, d3, g1, g2, g3, g4, g5] => { results := [.lit (.bool false)], args := [d1, d2, d3], vars := [g1, g2, g3, g4, g5] }
  | _ => none }
def FnExactRunWithWrongFalsely : Prop := fnExactRunWithRow.holds Tryd.pinned (OpenSpec.ofChange fnExactRunWithWrong)

/-- 'laws.FnExactChoicesRight': WHATEVER THE INPUT: true; the input reads as it did. -/
def fnExactChoicesRightSpec : ChangeSpec := { name := "fnExactChoicesRight", vars := ["loop.example/surelywrong/impl.errNoProgram", "loop.example/surelywrong/impl.assignments", "loop.example/surelywrong/impl.comparedVariables", "loop.example/surelywrong/impl.comparedWithNumbers", "loop.example/surelywrong/impl.errNotRight"], fn := fun _ => fun
  | [d1, d2, d3, g1, g2, g3, g4, g5] => { results := [.lit (.bool true)], args := [d1, d2, d3], vars := [g1, g2, g3, g4, g5] }
  | _ => none }
def fnExactChoicesRightRow : OpenClaim := { program := "ytfoifcbpognjaaadoor", sum := "815a58524728eddf9c580ee11a2b115b93ced4205ccc167c2106027883257bd0", func := "loop.example/surelywrong/laws.FnExactChoicesRight", spec := "fnExactChoicesRight", unfollowed := true, recurses := true, named := ["loop.example/surelywrong/impl.errNoProgram", "loop.example/surelywrong/impl.assignments", "loop.example/surelywrong/impl.comparedVariables", "loop.example/surelywrong/impl.comparedWithNumbers", "loop.example/surelywrong/impl.errNotRight"], ifaces := true, apart := false, laid := [("loop.example/surelywrong/impl.errNotRight", laid_loop_example_surelywrong_impl_errNotRight), ("loop.example/surelywrong/impl.comparedWithNumbers", laid_loop_example_surelywrong_impl_comparedWithNumbers), ("loop.example/surelywrong/impl.comparedVariables", laid_loop_example_surelywrong_impl_comparedVariables), ("loop.example/surelywrong/impl.errNoProgram", laid_loop_example_surelywrong_impl_errNoProgram), ("loop.example/surelywrong/impl.assignments", laid_loop_example_surelywrong_impl_assignments)] }
def FnExactChoicesRightSaid : Prop := fnExactChoicesRightRow.holds Tryd.pinned (OpenSpec.ofChange fnExactChoicesRightSpec)

/-- ITS FALSE NEIGHBOUR: 'it returns false'. Refute it at one input. -/
def fnExactChoicesRightWrong : ChangeSpec := { name := "fnExactChoicesRight", vars := ["loop.example/surelywrong/impl.errNoProgram", "loop.example/surelywrong/impl.assignments", "loop.example/surelywrong/impl.comparedVariables", "loop.example/surelywrong/impl.comparedWithNumbers", "loop.example/surelywrong/impl.errNotRight"], fn := fun _ => fun
  | [d1, d2, d3, g1, g2, g3, g4, g5] => { results := [.lit (.bool false)], args := [d1, d2, d3], vars := [g1, g2, g3, g4, g5] }
  | _ => none }
def FnExactChoicesRightWrongFalsely : Prop := fnExactChoicesRightRow.holds Tryd.pinned (OpenSpec.ofChange fnExactChoicesRightWrong)

/-- 'laws.FnExactTraceOf': WHATEVER THE INPUT: true; the input reads as it did. -/
def fnExactTraceOfSpec : ChangeSpec := { name := "fnExactTraceOf", vars := ["loop.example/surelywrong/impl.errNoProgram", "loop.example/surelywrong/impl.assignments", "loop.example/surelywrong/impl.comparedVariables", "loop.example/surelywrong/impl.comparedWithNumbers", "loop.example/surelywrong/impl.errNotRight"], fn := fun _ => fun
  | [d1, d2, d3, g1, g2, g3, g4, g5] => { results := [.lit (.bool true)], args := [d1, d2, d3], vars := [g1, g2, g3, g4, g5] }
  | _ => none }
def fnExactTraceOfRow : OpenClaim := { program := "ytfoifcbpognjaaadoor", sum := "815a58524728eddf9c580ee11a2b115b93ced4205ccc167c2106027883257bd0", func := "loop.example/surelywrong/laws.FnExactTraceOf", spec := "fnExactTraceOf", unfollowed := true, recurses := true, named := ["loop.example/surelywrong/impl.errNoProgram", "loop.example/surelywrong/impl.assignments", "loop.example/surelywrong/impl.comparedVariables", "loop.example/surelywrong/impl.comparedWithNumbers", "loop.example/surelywrong/impl.errNotRight"], ifaces := true, apart := false, laid := [("loop.example/surelywrong/impl.errNotRight", laid_loop_example_surelywrong_impl_errNotRight), ("loop.example/surelywrong/impl.comparedWithNumbers", laid_loop_example_surelywrong_impl_comparedWithNumbers), ("loop.example/surelywrong/impl.comparedVariables", laid_loop_example_surelywrong_impl_comparedVariables), ("loop.example/surelywrong/impl.errNoProgram", laid_loop_example_surelywrong_impl_errNoProgram), ("loop.example/surelywrong/impl.assignments", laid_loop_example_surelywrong_impl_assignments)] }
def FnExactTraceOfSaid : Prop := fnExactTraceOfRow.holds Tryd.pinned (OpenSpec.ofChange fnExactTraceOfSpec)

/-- ITS FALSE NEIGHBOUR: 'it returns false'. Refute it at one input. -/
def fnExactTraceOfWrong : ChangeSpec := { name := "fnExactTraceOf", vars := ["loop.example/surelywrong/impl.errNoProgram", "loop.example/surelywrong/impl.assignments", "loop.example/surelywrong/impl.comparedVariables", "loop.example/surelywrong/impl.comparedWithNumbers", "loop.example/surelywrong/impl.errNotRight"], fn := fun _ => fun
  | [d1, d2, d3, g1, g2, g3, g4, g5] => { results := [.lit (.bool false)], args := [d1, d2, d3], vars := [g1, g2, g3, g4, g5] }
  | _ => none }
def FnExactTraceOfWrongFalsely : Prop := fnExactTraceOfRow.holds Tryd.pinned (OpenSpec.ofChange fnExactTraceOfWrong)

/- THE SECOND FORM. 'bulk': how many values and letters a reading holds, each counted each time it is reached (what is shared counts as often as it is met; a slice's spare places count too). A statement '..UptoSaid' is the law's where the arguments, and the package variables that the reading takes, are together of bulk at most 1048576: NARROWER than '..Said'. Prove '..Said' where nothing that the law and all that it calls make is longer than what came in: it says more and counts as full. Else prove '..UptoSaid'. A law counts once. -/
mutual
def uptoBulk {H : Type} : DataW H → Nat
  | .lit (.string bytes) => bytes.length + 1
  | .lit _ => 1
  | .nil => 1
  | .ptr d => uptoBulk d + 1
  | .slice elems spare => uptoBulkAll elems + uptoBulkAll spare + 1
  | .agg parts => uptoBulkAll parts + 1
  | .iface _ d => uptoBulk d + 1
  | .map entries => uptoBulkEntries entries + 1
  | .held _ => 1
def uptoBulkAll {H : Type} : List (DataW H) → Nat
  | [] => 0
  | d :: r => uptoBulk d + uptoBulkAll r
def uptoBulkEntries {H : Type} : List (Lit × DataW H) → Nat
  | [] => 0
  | x :: r => uptoBulkEntry x + uptoBulkEntries r
def uptoBulkEntry {H : Type} : Lit × DataW H → Nat
  | (.string bytes, d) => bytes.length + uptoBulk d + 1
  | (_, d) => uptoBulk d + 1
 end
def uptoSmall : (H : Type) → List (DataW H) → Bool := fun _ ds => decide (uptoBulkAll ds ≤ 1048576)
def OpenSpec.upto (s : _root_.Go.ChangeSpec) : _root_.Go.OpenSpec := { _root_.Go.OpenSpec.ofChange s with cond := some uptoSmall }

/-- 'laws.FnExactRunWith', WHERE WHAT IT READS IS OF BULK AT MOST 1048576: true; the input reads as it did. -/
def fnExactRunWithUptoRow : OpenClaim := { program := "ytfoifcbpognjaaadoor", sum := "815a58524728eddf9c580ee11a2b115b93ced4205ccc167c2106027883257bd0", func := "loop.example/surelywrong/laws.FnExactRunWith", spec := "fnExactRunWith", unfollowed := true, recurses := true, named := ["loop.example/surelywrong/impl.errNoProgram", "loop.example/surelywrong/impl.assignments", "loop.example/surelywrong/impl.comparedVariables", "loop.example/surelywrong/impl.comparedWithNumbers", "loop.example/surelywrong/impl.errNotRight"], ifaces := true, apart := false, laid := [("loop.example/surelywrong/impl.errNotRight", laid_loop_example_surelywrong_impl_errNotRight), ("loop.example/surelywrong/impl.comparedWithNumbers", laid_loop_example_surelywrong_impl_comparedWithNumbers), ("loop.example/surelywrong/impl.comparedVariables", laid_loop_example_surelywrong_impl_comparedVariables), ("loop.example/surelywrong/impl.errNoProgram", laid_loop_example_surelywrong_impl_errNoProgram), ("loop.example/surelywrong/impl.assignments", laid_loop_example_surelywrong_impl_assignments)], narrowed := true }
def FnExactRunWithUptoSaid : Prop := fnExactRunWithUptoRow.holds Tryd.pinned (OpenSpec.upto fnExactRunWithSpec)

/-- 'laws.FnExactChoicesRight', WHERE WHAT IT READS IS OF BULK AT MOST 1048576: true; the input reads as it did. -/
def fnExactChoicesRightUptoRow : OpenClaim := { program := "ytfoifcbpognjaaadoor", sum := "815a58524728eddf9c580ee11a2b115b93ced4205ccc167c2106027883257bd0", func := "loop.example/surelywrong/laws.FnExactChoicesRight", spec := "fnExactChoicesRight", unfollowed := true, recurses := true, named := ["loop.example/surelywrong/impl.errNoProgram", "loop.example/surelywrong/impl.assignments", "loop.example/surelywrong/impl.comparedVariables", "loop.example/surelywrong/impl.comparedWithNumbers", "loop.example/surelywrong/impl.errNotRight"], ifaces := true, apart := false, laid := [("loop.example/surelywrong/impl.errNotRight", laid_loop_example_surelywrong_impl_errNotRight), ("loop.example/surelywrong/impl.comparedWithNumbers", laid_loop_example_surelywrong_impl_comparedWithNumbers), ("loop.example/surelywrong/impl.comparedVariables", laid_loop_example_surelywrong_impl_comparedVariables), ("loop.example/surelywrong/impl.errNoProgram", laid_loop_example_surelywrong_impl_errNoProgram), ("loop.example/surelywrong/impl.assignments", laid_loop_example_surelywrong_impl_assignments)], narrowed := true }
def FnExactChoicesRightUptoSaid : Prop := fnExactChoicesRightUptoRow.holds Tryd.pinned (OpenSpec.upto fnExactChoicesRightSpec)

/-- 'laws.FnExactTraceOf', WHERE WHAT IT READS IS OF BULK AT MOST 1048576: true; the input reads as it did. -/
def fnExactTraceOfUptoRow : OpenClaim := { program := "ytfoifcbpognjaaadoor", sum := "815a58524728eddf9c580ee11a2b115b93ced4205ccc167c2106027883257bd0", func := "loop.example/surelywrong/laws.FnExactTraceOf", spec := "fnExactTraceOf", unfollowed := true, recurses := true, named := ["loop.example/surelywrong/impl.errNoProgram", "loop.example/surelywrong/impl.assignments", "loop.example/surelywrong/impl.comparedVariables", "loop.example/surelywrong/impl.comparedWithNumbers", "loop.example/surelywrong/impl.errNotRight"], ifaces := true, apart := false, laid := [("loop.example/surelywrong/impl.errNotRight", laid_loop_example_surelywrong_impl_errNotRight), ("loop.example/surelywrong/impl.comparedWithNumbers", laid_loop_example_surelywrong_impl_comparedWithNumbers), ("loop.example/surelywrong/impl.comparedVariables", laid_loop_example_surelywrong_impl_comparedVariables), ("loop.example/surelywrong/impl.errNoProgram", laid_loop_example_surelywrong_impl_errNoProgram), ("loop.example/surelywrong/impl.assignments", laid_loop_example_surelywrong_impl_assignments)], narrowed := true }
def FnExactTraceOfUptoSaid : Prop := fnExactTraceOfUptoRow.holds Tryd.pinned (OpenSpec.upto fnExactTraceOfSpec)

end Rows
end Go.Proofs.YtfoifcbpognjaaaDoor
