/-
  NARROWER THAN 'FOR EVERY INPUT', by the rows' own cells (each row's printed sentence says how): FnLoopTimes: ifaces, laid · FnLeastBefore: ifaces, laid · FnStepBack: ifaces, laid.
  DERIVED. THE GIVEN ROWS OF THIS SEAT. 3 by the template 'for every input the law returns true; each argument reads behind the call as it read before'; 0 by the template 'total and deterministic' (their statements: YtngcdgnijfiocaaGreatDoorTotals.lean).
  GIVEN WITH THE SEED: the statements are not yours to turn. If you find one false, say at which input.
  Laid BY PROGRAM, IN A SANDBOX (cutbox-rows.mjs): the forced cells as the released guide's own fill.sh prints them over the translation a7a083b81d0aa63c… (all of the seat's roots in one cut). By AI agents, Wed Nov 11 2026. No macro, syntax, notation, axiom, sorry.
-/
import Derived.Test.YtngcdgnijfiocaaGreatDoorChecked
import GoSem.Claim
import GoSem.ClaimJoined
import GoSem.ClaimMapViews
import Derived.JoinedTies
import Derived.KernelRfl
namespace Go.Proofs.YtngcdgnijfiocaaGreatDoor
/- THE CELL 'sum', in the pinned program and in every row, IS THE sha256 OF THE DUMP (.gsa) THAT YtngcdgnijfiocaaGreatDoorProg.lean LOADS. Nothing in Lean hashes anything: it is a label: what it is worth is what the hold of that sum in a sandbox is worth. -/
noncomputable def Tryz.pinned : Pinned := { name := "ytngcdgnijfiocaagreatdoor", sum := "a7a083b81d0aa63cd89ca03c576f1deda9ddd2857af70057a4d87bf003d2f770", checked := Tryz.checked }
namespace Rows
def none {H : Type} : Left H := { results := [], args := [] }

/- WHAT THE LISTED PACKAGE-LEVEL VARIABLES READ AS WHEN THE CALL BEGINS. Each datum BY PROGRAM (the guide's laid-datum.mjs) off the statement by which the dump's own 'gosem.cut.vars' lays the variable. In a bare row this is a premise. The card (YtngcdgnijfiocaaGreatDoorCards.lean) ties it to the program's text. -/
def laid_loop_example_surelywrong_impl_comparedWithNumbers {H : Type} : DataW H := .slice [.lit (.string [61, 48]), .lit (.string [61, 49]), .lit (.string [61, 50]), .lit (.string [35, 48]), .lit (.string [35, 49]), .lit (.string [35, 50]), .lit (.string [60, 49]), .lit (.string [60, 50])] []
def laid_loop_example_surelywrong_impl_comparedVariables {H : Type} : DataW H := .slice [.lit (.string [120, 61, 121]), .lit (.string [120, 35, 121]), .lit (.string [120, 60, 121]), .lit (.string [121, 60, 120])] []
def laid_loop_example_surelywrong_impl_errNoProgram {H : Type} : DataW H := .iface "*errors.errorString" (.ptr (.agg [.lit (.string [110, 111, 32, 112, 114, 111, 103, 114, 97, 109])]))
def laid_loop_example_surelywrong_impl_assignments {H : Type} : DataW H := .slice [.lit (.string [120, 48]), .lit (.string [120, 49]), .lit (.string [120, 50]), .lit (.string [120, 121]), .lit (.string [120, 43]), .lit (.string [120, 63]), .lit (.string [121, 48]), .lit (.string [121, 49]), .lit (.string [121, 50]), .lit (.string [121, 120]), .lit (.string [121, 43]), .lit (.string [121, 63])] []
def laid_loop_example_surelywrong_impl_errNoExit {H : Type} : DataW H := .iface "*errors.errorString" (.ptr (.agg [.lit (.string [110, 111, 32, 101, 120, 105, 116])]))
def laid_loop_example_surelywrong_impl_errNoTriple {H : Type} : DataW H := .iface "*errors.errorString" (.ptr (.agg [.lit (.string [110, 111, 32, 116, 114, 105, 112, 108, 101])]))

/-- 'laws.FnLoopTimes': WHATEVER THE INPUT: true; the input reads as it did. -/
def fnLoopTimesSpec : ChangeSpec := { name := "fnLoopTimes", vars := ["loop.example/surelywrong/impl.errNoProgram", "loop.example/surelywrong/impl.assignments", "loop.example/surelywrong/impl.comparedVariables", "loop.example/surelywrong/impl.comparedWithNumbers"], fn := fun _ => fun
  | [d, g1, g2, g3, g4] => { results := [.lit (.bool true)], args := [d], vars := [g1, g2, g3, g4] }
  | _ => none }
def fnLoopTimesRow : OpenClaim := { program := "ytngcdgnijfiocaagreatdoor", sum := "a7a083b81d0aa63cd89ca03c576f1deda9ddd2857af70057a4d87bf003d2f770", func := "loop.example/surelywrong/laws.FnLoopTimes", spec := "fnLoopTimes", unfollowed := true, recurses := true, named := ["loop.example/surelywrong/impl.errNoProgram", "loop.example/surelywrong/impl.assignments", "loop.example/surelywrong/impl.comparedVariables", "loop.example/surelywrong/impl.comparedWithNumbers"], ifaces := true, plainKeys := false, apart := false, laid := [("loop.example/surelywrong/impl.comparedWithNumbers", laid_loop_example_surelywrong_impl_comparedWithNumbers), ("loop.example/surelywrong/impl.comparedVariables", laid_loop_example_surelywrong_impl_comparedVariables), ("loop.example/surelywrong/impl.errNoProgram", laid_loop_example_surelywrong_impl_errNoProgram), ("loop.example/surelywrong/impl.assignments", laid_loop_example_surelywrong_impl_assignments)] }
def FnLoopTimesSaid : Prop := fnLoopTimesRow.holds Tryz.pinned (OpenSpec.ofChange fnLoopTimesSpec)

/-- ITS FALSE NEIGHBOUR: 'it returns false'. Refute it at one input. -/
def fnLoopTimesWrong : ChangeSpec := { name := "fnLoopTimes", vars := ["loop.example/surelywrong/impl.errNoProgram", "loop.example/surelywrong/impl.assignments", "loop.example/surelywrong/impl.comparedVariables", "loop.example/surelywrong/impl.comparedWithNumbers"], fn := fun _ => fun
  | [d, g1, g2, g3, g4] => { results := [.lit (.bool false)], args := [d], vars := [g1, g2, g3, g4] }
  | _ => none }
def FnLoopTimesWrongFalsely : Prop := fnLoopTimesRow.holds Tryz.pinned (OpenSpec.ofChange fnLoopTimesWrong)

/-- 'laws.FnLeastBefore': WHATEVER THE INPUT: true; the input reads as it did. -/
def fnLeastBeforeSpec : ChangeSpec := { name := "fnLeastBefore", vars := ["loop.example/surelywrong/impl.errNoTriple", "loop.example/surelywrong/impl.errNoProgram", "loop.example/surelywrong/impl.assignments", "loop.example/surelywrong/impl.comparedVariables", "loop.example/surelywrong/impl.comparedWithNumbers", "loop.example/surelywrong/impl.errNoExit"], fn := fun _ => fun
  | [d1, d2, g1, g2, g3, g4, g5, g6] => { results := [.lit (.bool true)], args := [d1, d2], vars := [g1, g2, g3, g4, g5, g6] }
  | _ => none }
def fnLeastBeforeRow : OpenClaim := { program := "ytngcdgnijfiocaagreatdoor", sum := "a7a083b81d0aa63cd89ca03c576f1deda9ddd2857af70057a4d87bf003d2f770", func := "loop.example/surelywrong/laws.FnLeastBefore", spec := "fnLeastBefore", unfollowed := true, recurses := true, named := ["loop.example/surelywrong/impl.errNoTriple", "loop.example/surelywrong/impl.errNoProgram", "loop.example/surelywrong/impl.assignments", "loop.example/surelywrong/impl.comparedVariables", "loop.example/surelywrong/impl.comparedWithNumbers", "loop.example/surelywrong/impl.errNoExit"], ifaces := true, plainKeys := false, apart := false, laid := [("loop.example/surelywrong/impl.comparedWithNumbers", laid_loop_example_surelywrong_impl_comparedWithNumbers), ("loop.example/surelywrong/impl.comparedVariables", laid_loop_example_surelywrong_impl_comparedVariables), ("loop.example/surelywrong/impl.errNoProgram", laid_loop_example_surelywrong_impl_errNoProgram), ("loop.example/surelywrong/impl.assignments", laid_loop_example_surelywrong_impl_assignments), ("loop.example/surelywrong/impl.errNoExit", laid_loop_example_surelywrong_impl_errNoExit), ("loop.example/surelywrong/impl.errNoTriple", laid_loop_example_surelywrong_impl_errNoTriple)] }
def FnLeastBeforeSaid : Prop := fnLeastBeforeRow.holds Tryz.pinned (OpenSpec.ofChange fnLeastBeforeSpec)

/-- ITS FALSE NEIGHBOUR: 'it returns false'. Refute it at one input. -/
def fnLeastBeforeWrong : ChangeSpec := { name := "fnLeastBefore", vars := ["loop.example/surelywrong/impl.errNoTriple", "loop.example/surelywrong/impl.errNoProgram", "loop.example/surelywrong/impl.assignments", "loop.example/surelywrong/impl.comparedVariables", "loop.example/surelywrong/impl.comparedWithNumbers", "loop.example/surelywrong/impl.errNoExit"], fn := fun _ => fun
  | [d1, d2, g1, g2, g3, g4, g5, g6] => { results := [.lit (.bool false)], args := [d1, d2], vars := [g1, g2, g3, g4, g5, g6] }
  | _ => none }
def FnLeastBeforeWrongFalsely : Prop := fnLeastBeforeRow.holds Tryz.pinned (OpenSpec.ofChange fnLeastBeforeWrong)

/-- 'laws.FnStepBack': WHATEVER THE INPUT: true; the input reads as it did. -/
def fnStepBackSpec : ChangeSpec := { name := "fnStepBack", vars := ["loop.example/surelywrong/impl.errNoExit", "loop.example/surelywrong/impl.errNoProgram", "loop.example/surelywrong/impl.assignments", "loop.example/surelywrong/impl.comparedVariables", "loop.example/surelywrong/impl.comparedWithNumbers"], fn := fun _ => fun
  | [d, g1, g2, g3, g4, g5] => { results := [.lit (.bool true)], args := [d], vars := [g1, g2, g3, g4, g5] }
  | _ => none }
def fnStepBackRow : OpenClaim := { program := "ytngcdgnijfiocaagreatdoor", sum := "a7a083b81d0aa63cd89ca03c576f1deda9ddd2857af70057a4d87bf003d2f770", func := "loop.example/surelywrong/laws.FnStepBack", spec := "fnStepBack", inPlace := ["internal/abi.NoEscape", "internal/bytealg.MakeNoZero"], unfollowed := true, recurses := true, named := ["loop.example/surelywrong/impl.errNoExit", "loop.example/surelywrong/impl.errNoProgram", "loop.example/surelywrong/impl.assignments", "loop.example/surelywrong/impl.comparedVariables", "loop.example/surelywrong/impl.comparedWithNumbers"], ifaces := true, plainKeys := false, apart := false, laid := [("loop.example/surelywrong/impl.comparedWithNumbers", laid_loop_example_surelywrong_impl_comparedWithNumbers), ("loop.example/surelywrong/impl.comparedVariables", laid_loop_example_surelywrong_impl_comparedVariables), ("loop.example/surelywrong/impl.errNoProgram", laid_loop_example_surelywrong_impl_errNoProgram), ("loop.example/surelywrong/impl.assignments", laid_loop_example_surelywrong_impl_assignments), ("loop.example/surelywrong/impl.errNoExit", laid_loop_example_surelywrong_impl_errNoExit)] }
def FnStepBackSaid : Prop := fnStepBackRow.holds Tryz.pinned (OpenSpec.ofChange fnStepBackSpec)

/-- ITS FALSE NEIGHBOUR: 'it returns false'. Refute it at one input. -/
def fnStepBackWrong : ChangeSpec := { name := "fnStepBack", vars := ["loop.example/surelywrong/impl.errNoExit", "loop.example/surelywrong/impl.errNoProgram", "loop.example/surelywrong/impl.assignments", "loop.example/surelywrong/impl.comparedVariables", "loop.example/surelywrong/impl.comparedWithNumbers"], fn := fun _ => fun
  | [d, g1, g2, g3, g4, g5] => { results := [.lit (.bool false)], args := [d], vars := [g1, g2, g3, g4, g5] }
  | _ => none }
def FnStepBackWrongFalsely : Prop := fnStepBackRow.holds Tryz.pinned (OpenSpec.ofChange fnStepBackWrong)

/- THE SECOND FORM. 'bulk': how many values and letters a reading holds, each counted each time it is reached (what is shared counts as often as it is met; a slice's spare places count too). A statement '..UptoSaid' is the law's where the arguments, and the package variables that the reading takes, are together of bulk at most 1048576: NARROWER than '..Said'. Prove '..Said' where nothing that the law and all that it calls make is longer than what came in: it says more and counts as full. Else prove '..UptoSaid'. A law counts once. -/
mutual
def uptoBulk {H : Type} : DataW H → Nat
  | .lit (.string bytes) => bytes.length + 1
  | .lit _ => 1
  | .nil => 1
  | .ptr d => uptoBulk d + 1
  | .slice elems spare => uptoBulkAll elems + uptoBulkAll spare + 1
  | .agg parts => uptoBulkAll parts + 1
  | .iface _ d => uptoBulk d + 1
  | .map entries => uptoBulkEntries entries + 1
  | .held _ => 1
def uptoBulkAll {H : Type} : List (DataW H) → Nat
  | [] => 0
  | d :: r => uptoBulk d + uptoBulkAll r
def uptoBulkEntries {H : Type} : List (Lit × DataW H) → Nat
  | [] => 0
  | x :: r => uptoBulkEntry x + uptoBulkEntries r
def uptoBulkEntry {H : Type} : Lit × DataW H → Nat
  | (.string bytes, d) => bytes.length + uptoBulk d + 1
  | (_, d) => uptoBulk d + 1
 end
def uptoSmall : (H : Type) → List (DataW H) → Bool := fun _ ds => decide (uptoBulkAll ds ≤ 1048576)
def OpenSpec.upto (s : _root_.Go.ChangeSpec) : _root_.Go.OpenSpec := { _root_.Go.OpenSpec.ofChange s with cond := some uptoSmall }

/-- 'laws.FnLoopTimes', WHERE WHAT IT READS IS OF BULK AT MOST 1048576: true; the input reads as it did. -/
def fnLoopTimesUptoRow : OpenClaim := { program := "ytngcdgnijfiocaagreatdoor", sum := "a7a083b81d0aa63cd89ca03c576f1deda9ddd2857af70057a4d87bf003d2f770", func := "loop.example/surelywrong/laws.FnLoopTimes", spec := "fnLoopTimes", unfollowed := true, recurses := true, named := ["loop.example/surelywrong/impl.errNoProgram", "loop.example/surelywrong/impl.assignments", "loop.example/surelywrong/impl.comparedVariables", "loop.example/surelywrong/impl.comparedWithNumbers"], ifaces := true, plainKeys := false, apart := false, laid := [("loop.example/surelywrong/impl.comparedWithNumbers", laid_loop_example_surelywrong_impl_comparedWithNumbers), ("loop.example/surelywrong/impl.comparedVariables", laid_loop_example_surelywrong_impl_comparedVariables), ("loop.example/surelywrong/impl.errNoProgram", laid_loop_example_surelywrong_impl_errNoProgram), ("loop.example/surelywrong/impl.assignments", laid_loop_example_surelywrong_impl_assignments)], narrowed := true }
def FnLoopTimesUptoSaid : Prop := fnLoopTimesUptoRow.holds Tryz.pinned (OpenSpec.upto fnLoopTimesSpec)

/-- 'laws.FnLeastBefore', WHERE WHAT IT READS IS OF BULK AT MOST 1048576: true; the input reads as it did. -/
def fnLeastBeforeUptoRow : OpenClaim := { program := "ytngcdgnijfiocaagreatdoor", sum := "a7a083b81d0aa63cd89ca03c576f1deda9ddd2857af70057a4d87bf003d2f770", func := "loop.example/surelywrong/laws.FnLeastBefore", spec := "fnLeastBefore", unfollowed := true, recurses := true, named := ["loop.example/surelywrong/impl.errNoTriple", "loop.example/surelywrong/impl.errNoProgram", "loop.example/surelywrong/impl.assignments", "loop.example/surelywrong/impl.comparedVariables", "loop.example/surelywrong/impl.comparedWithNumbers", "loop.example/surelywrong/impl.errNoExit"], ifaces := true, plainKeys := false, apart := false, laid := [("loop.example/surelywrong/impl.comparedWithNumbers", laid_loop_example_surelywrong_impl_comparedWithNumbers), ("loop.example/surelywrong/impl.comparedVariables", laid_loop_example_surelywrong_impl_comparedVariables), ("loop.example/surelywrong/impl.errNoProgram", laid_loop_example_surelywrong_impl_errNoProgram), ("loop.example/surelywrong/impl.assignments", laid_loop_example_surelywrong_impl_assignments), ("loop.example/surelywrong/impl.errNoExit", laid_loop_example_surelywrong_impl_errNoExit), ("loop.example/surelywrong/impl.errNoTriple", laid_loop_example_surelywrong_impl_errNoTriple)], narrowed := true }
def FnLeastBeforeUptoSaid : Prop := fnLeastBeforeUptoRow.holds Tryz.pinned (OpenSpec.upto fnLeastBeforeSpec)

/-- 'laws.FnStepBack', WHERE WHAT IT READS IS OF BULK AT MOST 1048576: true; the input reads as it did. -/
def fnStepBackUptoRow : OpenClaim := { program := "ytngcdgnijfiocaagreatdoor", sum := "a7a083b81d0aa63cd89ca03c576f1deda9ddd2857af70057a4d87bf003d2f770", func := "loop.example/surelywrong/laws.FnStepBack", spec := "fnStepBack", inPlace := ["internal/abi.NoEscape", "internal/bytealg.MakeNoZero"], unfollowed := true, recurses := true, named := ["loop.example/surelywrong/impl.errNoExit", "loop.example/surelywrong/impl.errNoProgram", "loop.example/surelywrong/impl.assignments", "loop.example/surelywrong/impl.comparedVariables", "loop.example/surelywrong/impl.comparedWithNumbers"], ifaces := true, plainKeys := false, apart := false, laid := [("loop.example/surelywrong/impl.comparedWithNumbers", laid_loop_example_surelywrong_impl_comparedWithNumbers), ("loop.example/surelywrong/impl.comparedVariables", laid_loop_example_surelywrong_impl_comparedVariables), ("loop.example/surelywrong/impl.errNoProgram", laid_loop_example_surelywrong_impl_errNoProgram), ("loop.example/surelywrong/impl.assignments", laid_loop_example_surelywrong_impl_assignments), ("loop.example/surelywrong/impl.errNoExit", laid_loop_example_surelywrong_impl_errNoExit)], narrowed := true }
def FnStepBackUptoSaid : Prop := fnStepBackUptoRow.holds Tryz.pinned (OpenSpec.upto fnStepBackSpec)

end Rows
end Go.Proofs.YtngcdgnijfiocaaGreatDoor
