/-
  NARROWER THAN 'FOR EVERY INPUT', by the rows' own cells (each row's printed sentence says how): FnWhere: laid · FnOpposite: laid · FnExactTestValid: laid · FnExactTestHolds: laid · FnExactWhereHolds: laid · FnExactOppositeOf: laid · FnExactAllTests: laid · FnExactTestFor: laid.
  DERIVED. THE GIVEN ROWS OF THIS SEAT. 8 by the template 'for every input the law returns true; each argument reads behind the call as it read before'; 0 by the template 'total and deterministic' (their statements: YtemilnkglkpnjabDoorTotals.lean).
  GIVEN WITH THE SEED: the statements are not yours to turn. If you find one false, say at which input.
  Laid BY PROGRAM, IN A SANDBOX (cutbox-rows.mjs): the forced cells as the released guide's own fill.sh prints them over the translation 84dc74e060c6a129… (all of the seat's roots in one cut). By AI agents, Wed Nov 11 2026. No macro, syntax, notation, axiom, sorry.
-/
import Derived.Test.YtemilnkglkpnjabDoorChecked
import GoSem.Claim
import GoSem.ClaimJoined
import GoSem.ClaimMapViews
import Derived.JoinedTies
import Derived.KernelRfl
namespace Go.Proofs.YtemilnkglkpnjabDoor
/- THE CELL 'sum', in the pinned program and in every row, IS THE sha256 OF THE DUMP (.gsa) THAT YtemilnkglkpnjabDoorProg.lean LOADS. Nothing in Lean hashes anything: it is a label: what it is worth is what the hold of that sum in a sandbox is worth. -/
noncomputable def Tryd.pinned : Pinned := { name := "ytemilnkglkpnjabdoor", sum := "84dc74e060c6a12987bad7b0ac731ce7045eda3e5e9026cae7b4901b8995ae7c", checked := Tryd.checked }
namespace Rows
def none {H : Type} : Left H := { results := [], args := [] }

/- WHAT THE LISTED PACKAGE-LEVEL VARIABLES READ AS WHEN THE CALL BEGINS. Each datum BY PROGRAM (the guide's laid-datum.mjs) off the statement by which the dump's own 'gosem.cut.vars' lays the variable. In a bare row this is a premise. The card (YtemilnkglkpnjabDoorCards.lean) ties it to the program's text. -/
def laid_loop_example_surelywrong_impl_comparedWithNumbers {H : Type} : DataW H := .slice [.lit (.string [61, 48]), .lit (.string [61, 49]), .lit (.string [61, 50]), .lit (.string [35, 48]), .lit (.string [35, 49]), .lit (.string [35, 50]), .lit (.string [60, 49]), .lit (.string [60, 50])] []
def laid_loop_example_surelywrong_impl_comparedVariables {H : Type} : DataW H := .slice [.lit (.string [120, 61, 121]), .lit (.string [120, 35, 121]), .lit (.string [120, 60, 121]), .lit (.string [121, 60, 120])] []

/-- 'laws.FnWhere': WHATEVER THE INPUT: true; the input reads as it did. -/
def fnWhereSpec : ChangeSpec := { name := "fnWhere", vars := ["loop.example/surelywrong/impl.comparedVariables", "loop.example/surelywrong/impl.comparedWithNumbers"], fn := fun _ => fun
  | [d1, d2, g1, g2] => { results := [.lit (.bool true)], args := [d1, d2], vars := [g1, g2] }
  | _ => none }
def fnWhereRow : OpenClaim := { program := "ytemilnkglkpnjabdoor", sum := "84dc74e060c6a12987bad7b0ac731ce7045eda3e5e9026cae7b4901b8995ae7c", func := "loop.example/surelywrong/laws.FnWhere", spec := "fnWhere", unfollowed := true, recurses := true, named := ["loop.example/surelywrong/impl.comparedVariables", "loop.example/surelywrong/impl.comparedWithNumbers"], apart := false, laid := [("loop.example/surelywrong/impl.comparedWithNumbers", laid_loop_example_surelywrong_impl_comparedWithNumbers), ("loop.example/surelywrong/impl.comparedVariables", laid_loop_example_surelywrong_impl_comparedVariables)] }
def FnWhereSaid : Prop := fnWhereRow.holds Tryd.pinned (OpenSpec.ofChange fnWhereSpec)

/-- ITS FALSE NEIGHBOUR: 'it returns false'. Refute it at one input. -/
def fnWhereWrong : ChangeSpec := { name := "fnWhere", vars := ["loop.example/surelywrong/impl.comparedVariables", "loop.example/surelywrong/impl.comparedWithNumbers"], fn := fun _ => fun
  | [d1, d2, g1, g2] => { results := [.lit (.bool false)], args := [d1, d2], vars := [g1, g2] }
  | _ => none }
def FnWhereWrongFalsely : Prop := fnWhereRow.holds Tryd.pinned (OpenSpec.ofChange fnWhereWrong)

/-- 'laws.FnOpposite': WHATEVER THE INPUT: true; the input reads as it did. -/
def fnOppositeSpec : ChangeSpec := { name := "fnOpposite", vars := ["loop.example/surelywrong/impl.comparedVariables", "loop.example/surelywrong/impl.comparedWithNumbers"], fn := fun _ => fun
  | [d1, d2, g1, g2] => { results := [.lit (.bool true)], args := [d1, d2], vars := [g1, g2] }
  | _ => none }
def fnOppositeRow : OpenClaim := { program := "ytemilnkglkpnjabdoor", sum := "84dc74e060c6a12987bad7b0ac731ce7045eda3e5e9026cae7b4901b8995ae7c", func := "loop.example/surelywrong/laws.FnOpposite", spec := "fnOpposite", unfollowed := true, recurses := true, named := ["loop.example/surelywrong/impl.comparedVariables", "loop.example/surelywrong/impl.comparedWithNumbers"], apart := false, laid := [("loop.example/surelywrong/impl.comparedWithNumbers", laid_loop_example_surelywrong_impl_comparedWithNumbers), ("loop.example/surelywrong/impl.comparedVariables", laid_loop_example_surelywrong_impl_comparedVariables)] }
def FnOppositeSaid : Prop := fnOppositeRow.holds Tryd.pinned (OpenSpec.ofChange fnOppositeSpec)

/-- ITS FALSE NEIGHBOUR: 'it returns false'. Refute it at one input. -/
def fnOppositeWrong : ChangeSpec := { name := "fnOpposite", vars := ["loop.example/surelywrong/impl.comparedVariables", "loop.example/surelywrong/impl.comparedWithNumbers"], fn := fun _ => fun
  | [d1, d2, g1, g2] => { results := [.lit (.bool false)], args := [d1, d2], vars := [g1, g2] }
  | _ => none }
def FnOppositeWrongFalsely : Prop := fnOppositeRow.holds Tryd.pinned (OpenSpec.ofChange fnOppositeWrong)

/-- 'laws.FnExactTestValid': WHATEVER THE INPUT: true; the input reads as it did. -/
def fnExactTestValidSpec : ChangeSpec := { name := "fnExactTestValid", vars := ["loop.example/surelywrong/impl.comparedVariables", "loop.example/surelywrong/impl.comparedWithNumbers"], fn := fun _ => fun
  | [d, g1, g2] => { results := [.lit (.bool true)], args := [d], vars := [g1, g2] }
  | _ => none }
def fnExactTestValidRow : OpenClaim := { program := "ytemilnkglkpnjabdoor", sum := "84dc74e060c6a12987bad7b0ac731ce7045eda3e5e9026cae7b4901b8995ae7c", func := "loop.example/surelywrong/laws.FnExactTestValid", spec := "fnExactTestValid", named := ["loop.example/surelywrong/impl.comparedVariables", "loop.example/surelywrong/impl.comparedWithNumbers"], apart := false, laid := [("loop.example/surelywrong/impl.comparedWithNumbers", laid_loop_example_surelywrong_impl_comparedWithNumbers), ("loop.example/surelywrong/impl.comparedVariables", laid_loop_example_surelywrong_impl_comparedVariables)] }
def FnExactTestValidSaid : Prop := fnExactTestValidRow.holds Tryd.pinned (OpenSpec.ofChange fnExactTestValidSpec)

/-- ITS FALSE NEIGHBOUR: 'it returns false'. Refute it at one input. -/
def fnExactTestValidWrong : ChangeSpec := { name := "fnExactTestValid", vars := ["loop.example/surelywrong/impl.comparedVariables", "loop.example/surelywrong/impl.comparedWithNumbers"], fn := fun _ => fun
  | [d, g1, g2] => { results := [.lit (.bool false)], args := [d], vars := [g1, g2] }
  | _ => none }
def FnExactTestValidWrongFalsely : Prop := fnExactTestValidRow.holds Tryd.pinned (OpenSpec.ofChange fnExactTestValidWrong)

/-- 'laws.FnExactTestHolds': WHATEVER THE INPUT: true; the input reads as it did. -/
def fnExactTestHoldsSpec : ChangeSpec := { name := "fnExactTestHolds", vars := ["loop.example/surelywrong/impl.comparedVariables", "loop.example/surelywrong/impl.comparedWithNumbers"], fn := fun _ => fun
  | [d1, d2, g1, g2] => { results := [.lit (.bool true)], args := [d1, d2], vars := [g1, g2] }
  | _ => none }
def fnExactTestHoldsRow : OpenClaim := { program := "ytemilnkglkpnjabdoor", sum := "84dc74e060c6a12987bad7b0ac731ce7045eda3e5e9026cae7b4901b8995ae7c", func := "loop.example/surelywrong/laws.FnExactTestHolds", spec := "fnExactTestHolds", unfollowed := true, recurses := true, named := ["loop.example/surelywrong/impl.comparedVariables", "loop.example/surelywrong/impl.comparedWithNumbers"], apart := false, laid := [("loop.example/surelywrong/impl.comparedWithNumbers", laid_loop_example_surelywrong_impl_comparedWithNumbers), ("loop.example/surelywrong/impl.comparedVariables", laid_loop_example_surelywrong_impl_comparedVariables)] }
def FnExactTestHoldsSaid : Prop := fnExactTestHoldsRow.holds Tryd.pinned (OpenSpec.ofChange fnExactTestHoldsSpec)

/-- ITS FALSE NEIGHBOUR: 'it returns false'. Refute it at one input. -/
def fnExactTestHoldsWrong : ChangeSpec := { name := "fnExactTestHolds", vars := ["loop.example/surelywrong/impl.comparedVariables", "loop.example/surelywrong/impl.comparedWithNumbers"], fn := fun _ => fun
  | [d1, d2, g1, g2] => { results := [.lit (.bool false)], args := [d1, d2], vars := [g1, g2] }
  | _ => none }
def FnExactTestHoldsWrongFalsely : Prop := fnExactTestHoldsRow.holds Tryd.pinned (OpenSpec.ofChange fnExactTestHoldsWrong)

/-- 'laws.FnExactWhereHolds': WHATEVER THE INPUT: true; the input reads as it did. -/
def fnExactWhereHoldsSpec : ChangeSpec := { name := "fnExactWhereHolds", vars := ["loop.example/surelywrong/impl.comparedVariables", "loop.example/surelywrong/impl.comparedWithNumbers"], fn := fun _ => fun
  | [d, g1, g2] => { results := [.lit (.bool true)], args := [d], vars := [g1, g2] }
  | _ => none }
def fnExactWhereHoldsRow : OpenClaim := { program := "ytemilnkglkpnjabdoor", sum := "84dc74e060c6a12987bad7b0ac731ce7045eda3e5e9026cae7b4901b8995ae7c", func := "loop.example/surelywrong/laws.FnExactWhereHolds", spec := "fnExactWhereHolds", unfollowed := true, recurses := true, named := ["loop.example/surelywrong/impl.comparedVariables", "loop.example/surelywrong/impl.comparedWithNumbers"], apart := false, laid := [("loop.example/surelywrong/impl.comparedWithNumbers", laid_loop_example_surelywrong_impl_comparedWithNumbers), ("loop.example/surelywrong/impl.comparedVariables", laid_loop_example_surelywrong_impl_comparedVariables)] }
def FnExactWhereHoldsSaid : Prop := fnExactWhereHoldsRow.holds Tryd.pinned (OpenSpec.ofChange fnExactWhereHoldsSpec)

/-- ITS FALSE NEIGHBOUR: 'it returns false'. Refute it at one input. -/
def fnExactWhereHoldsWrong : ChangeSpec := { name := "fnExactWhereHolds", vars := ["loop.example/surelywrong/impl.comparedVariables", "loop.example/surelywrong/impl.comparedWithNumbers"], fn := fun _ => fun
  | [d, g1, g2] => { results := [.lit (.bool false)], args := [d], vars := [g1, g2] }
  | _ => none }
def FnExactWhereHoldsWrongFalsely : Prop := fnExactWhereHoldsRow.holds Tryd.pinned (OpenSpec.ofChange fnExactWhereHoldsWrong)

/-- 'laws.FnExactOppositeOf': WHATEVER THE INPUT: true; the input reads as it did. -/
def fnExactOppositeOfSpec : ChangeSpec := { name := "fnExactOppositeOf", vars := ["loop.example/surelywrong/impl.comparedVariables", "loop.example/surelywrong/impl.comparedWithNumbers"], fn := fun _ => fun
  | [d, g1, g2] => { results := [.lit (.bool true)], args := [d], vars := [g1, g2] }
  | _ => none }
def fnExactOppositeOfRow : OpenClaim := { program := "ytemilnkglkpnjabdoor", sum := "84dc74e060c6a12987bad7b0ac731ce7045eda3e5e9026cae7b4901b8995ae7c", func := "loop.example/surelywrong/laws.FnExactOppositeOf", spec := "fnExactOppositeOf", unfollowed := true, recurses := true, named := ["loop.example/surelywrong/impl.comparedVariables", "loop.example/surelywrong/impl.comparedWithNumbers"], apart := false, laid := [("loop.example/surelywrong/impl.comparedWithNumbers", laid_loop_example_surelywrong_impl_comparedWithNumbers), ("loop.example/surelywrong/impl.comparedVariables", laid_loop_example_surelywrong_impl_comparedVariables)] }
def FnExactOppositeOfSaid : Prop := fnExactOppositeOfRow.holds Tryd.pinned (OpenSpec.ofChange fnExactOppositeOfSpec)

/-- ITS FALSE NEIGHBOUR: 'it returns false'. Refute it at one input. -/
def fnExactOppositeOfWrong : ChangeSpec := { name := "fnExactOppositeOf", vars := ["loop.example/surelywrong/impl.comparedVariables", "loop.example/surelywrong/impl.comparedWithNumbers"], fn := fun _ => fun
  | [d, g1, g2] => { results := [.lit (.bool false)], args := [d], vars := [g1, g2] }
  | _ => none }
def FnExactOppositeOfWrongFalsely : Prop := fnExactOppositeOfRow.holds Tryd.pinned (OpenSpec.ofChange fnExactOppositeOfWrong)

/-- 'laws.FnExactAllTests': WHATEVER THE INPUT: true; the input reads as it did. -/
def fnExactAllTestsSpec : ChangeSpec := { name := "fnExactAllTests", vars := ["loop.example/surelywrong/impl.comparedVariables", "loop.example/surelywrong/impl.comparedWithNumbers"], fn := fun _ => fun
  | [g1, g2] => { results := [.lit (.bool true)], args := [], vars := [g1, g2] }
  | _ => none }
def fnExactAllTestsRow : OpenClaim := { program := "ytemilnkglkpnjabdoor", sum := "84dc74e060c6a12987bad7b0ac731ce7045eda3e5e9026cae7b4901b8995ae7c", func := "loop.example/surelywrong/laws.FnExactAllTests", spec := "fnExactAllTests", named := ["loop.example/surelywrong/impl.comparedVariables", "loop.example/surelywrong/impl.comparedWithNumbers"], apart := false, laid := [("loop.example/surelywrong/impl.comparedWithNumbers", laid_loop_example_surelywrong_impl_comparedWithNumbers), ("loop.example/surelywrong/impl.comparedVariables", laid_loop_example_surelywrong_impl_comparedVariables)] }
def FnExactAllTestsSaid : Prop := fnExactAllTestsRow.holds Tryd.pinned (OpenSpec.ofChange fnExactAllTestsSpec)

/-- ITS FALSE NEIGHBOUR: 'it returns false'. Refute it at one input. -/
def fnExactAllTestsWrong : ChangeSpec := { name := "fnExactAllTests", vars := ["loop.example/surelywrong/impl.comparedVariables", "loop.example/surelywrong/impl.comparedWithNumbers"], fn := fun _ => fun
  | [g1, g2] => { results := [.lit (.bool false)], args := [], vars := [g1, g2] }
  | _ => none }
def FnExactAllTestsWrongFalsely : Prop := fnExactAllTestsRow.holds Tryd.pinned (OpenSpec.ofChange fnExactAllTestsWrong)

/-- 'laws.FnExactTestFor': WHATEVER THE INPUT: true; the input reads as it did. -/
def fnExactTestForSpec : ChangeSpec := { name := "fnExactTestFor", vars := ["loop.example/surelywrong/impl.comparedVariables", "loop.example/surelywrong/impl.comparedWithNumbers"], fn := fun _ => fun
  | [d, g1, g2] => { results := [.lit (.bool true)], args := [d], vars := [g1, g2] }
  | _ => none }
def fnExactTestForRow : OpenClaim := { program := "ytemilnkglkpnjabdoor", sum := "84dc74e060c6a12987bad7b0ac731ce7045eda3e5e9026cae7b4901b8995ae7c", func := "loop.example/surelywrong/laws.FnExactTestFor", spec := "fnExactTestFor", unfollowed := true, recurses := true, named := ["loop.example/surelywrong/impl.comparedVariables", "loop.example/surelywrong/impl.comparedWithNumbers"], apart := false, laid := [("loop.example/surelywrong/impl.comparedWithNumbers", laid_loop_example_surelywrong_impl_comparedWithNumbers), ("loop.example/surelywrong/impl.comparedVariables", laid_loop_example_surelywrong_impl_comparedVariables)] }
def FnExactTestForSaid : Prop := fnExactTestForRow.holds Tryd.pinned (OpenSpec.ofChange fnExactTestForSpec)

/-- ITS FALSE NEIGHBOUR: 'it returns false'. Refute it at one input. -/
def fnExactTestForWrong : ChangeSpec := { name := "fnExactTestFor", vars := ["loop.example/surelywrong/impl.comparedVariables", "loop.example/surelywrong/impl.comparedWithNumbers"], fn := fun _ => fun
  | [d, g1, g2] => { results := [.lit (.bool false)], args := [d], vars := [g1, g2] }
  | _ => none }
def FnExactTestForWrongFalsely : Prop := fnExactTestForRow.holds Tryd.pinned (OpenSpec.ofChange fnExactTestForWrong)

/- THE SECOND FORM. 'bulk': how many values and letters a reading holds, each counted each time it is reached (what is shared counts as often as it is met; a slice's spare places count too). A statement '..UptoSaid' is the law's where the arguments, and the package variables that the reading takes, are together of bulk at most 1048576: NARROWER than '..Said'. Prove '..Said' where nothing that the law and all that it calls make is longer than what came in: it says more and counts as full. Else prove '..UptoSaid'. A law counts once. -/
mutual
def uptoBulk {H : Type} : DataW H → Nat
  | .lit (.string bytes) => bytes.length + 1
  | .lit _ => 1
  | .nil => 1
  | .ptr d => uptoBulk d + 1
  | .slice elems spare => uptoBulkAll elems + uptoBulkAll spare + 1
  | .agg parts => uptoBulkAll parts + 1
  | .iface _ d => uptoBulk d + 1
  | .map entries => uptoBulkEntries entries + 1
  | .held _ => 1
def uptoBulkAll {H : Type} : List (DataW H) → Nat
  | [] => 0
  | d :: r => uptoBulk d + uptoBulkAll r
def uptoBulkEntries {H : Type} : List (Lit × DataW H) → Nat
  | [] => 0
  | x :: r => uptoBulkEntry x + uptoBulkEntries r
def uptoBulkEntry {H : Type} : Lit × DataW H → Nat
  | (.string bytes, d) => bytes.length + uptoBulk d + 1
  | (_, d) => uptoBulk d + 1
 end
def uptoSmall : (H : Type) → List (DataW H) → Bool := fun _ ds => decide (uptoBulkAll ds ≤ 1048576)
def OpenSpec.upto (s : _root_.Go.ChangeSpec) : _root_.Go.OpenSpec := { _root_.Go.OpenSpec.ofChange s with cond := some uptoSmall }

/-- 'laws.FnWhere', WHERE WHAT IT READS IS OF BULK AT MOST 1048576: true; the input reads as it did. -/
def fnWhereUptoRow : OpenClaim := { program := "ytemilnkglkpnjabdoor", sum := "84dc74e060c6a12987bad7b0ac731ce7045eda3e5e9026cae7b4901b8995ae7c", func := "loop.example/surelywrong/laws.FnWhere", spec := "fnWhere", unfollowed := true, recurses := true, named := ["loop.example/surelywrong/impl.comparedVariables", "loop.example/surelywrong/impl.comparedWithNumbers"], apart := false, laid := [("loop.example/surelywrong/impl.comparedWithNumbers", laid_loop_example_surelywrong_impl_comparedWithNumbers), ("loop.example/surelywrong/impl.comparedVariables", laid_loop_example_surelywrong_impl_comparedVariables)], narrowed := true }
def FnWhereUptoSaid : Prop := fnWhereUptoRow.holds Tryd.pinned (OpenSpec.upto fnWhereSpec)

/-- 'laws.FnOpposite', WHERE WHAT IT READS IS OF BULK AT MOST 1048576: true; the input reads as it did. -/
def fnOppositeUptoRow : OpenClaim := { program := "ytemilnkglkpnjabdoor", sum := "84dc74e060c6a12987bad7b0ac731ce7045eda3e5e9026cae7b4901b8995ae7c", func := "loop.example/surelywrong/laws.FnOpposite", spec := "fnOpposite", unfollowed := true, recurses := true, named := ["loop.example/surelywrong/impl.comparedVariables", "loop.example/surelywrong/impl.comparedWithNumbers"], apart := false, laid := [("loop.example/surelywrong/impl.comparedWithNumbers", laid_loop_example_surelywrong_impl_comparedWithNumbers), ("loop.example/surelywrong/impl.comparedVariables", laid_loop_example_surelywrong_impl_comparedVariables)], narrowed := true }
def FnOppositeUptoSaid : Prop := fnOppositeUptoRow.holds Tryd.pinned (OpenSpec.upto fnOppositeSpec)

/-- 'laws.FnExactTestValid', WHERE WHAT IT READS IS OF BULK AT MOST 1048576: true; the input reads as it did. -/
def fnExactTestValidUptoRow : OpenClaim := { program := "ytemilnkglkpnjabdoor", sum := "84dc74e060c6a12987bad7b0ac731ce7045eda3e5e9026cae7b4901b8995ae7c", func := "loop.example/surelywrong/laws.FnExactTestValid", spec := "fnExactTestValid", named := ["loop.example/surelywrong/impl.comparedVariables", "loop.example/surelywrong/impl.comparedWithNumbers"], apart := false, laid := [("loop.example/surelywrong/impl.comparedWithNumbers", laid_loop_example_surelywrong_impl_comparedWithNumbers), ("loop.example/surelywrong/impl.comparedVariables", laid_loop_example_surelywrong_impl_comparedVariables)], narrowed := true }
def FnExactTestValidUptoSaid : Prop := fnExactTestValidUptoRow.holds Tryd.pinned (OpenSpec.upto fnExactTestValidSpec)

/-- 'laws.FnExactTestHolds', WHERE WHAT IT READS IS OF BULK AT MOST 1048576: true; the input reads as it did. -/
def fnExactTestHoldsUptoRow : OpenClaim := { program := "ytemilnkglkpnjabdoor", sum := "84dc74e060c6a12987bad7b0ac731ce7045eda3e5e9026cae7b4901b8995ae7c", func := "loop.example/surelywrong/laws.FnExactTestHolds", spec := "fnExactTestHolds", unfollowed := true, recurses := true, named := ["loop.example/surelywrong/impl.comparedVariables", "loop.example/surelywrong/impl.comparedWithNumbers"], apart := false, laid := [("loop.example/surelywrong/impl.comparedWithNumbers", laid_loop_example_surelywrong_impl_comparedWithNumbers), ("loop.example/surelywrong/impl.comparedVariables", laid_loop_example_surelywrong_impl_comparedVariables)], narrowed := true }
def FnExactTestHoldsUptoSaid : Prop := fnExactTestHoldsUptoRow.holds Tryd.pinned (OpenSpec.upto fnExactTestHoldsSpec)

/-- 'laws.FnExactWhereHolds', WHERE WHAT IT READS IS OF BULK AT MOST 1048576: true; the input reads as it did. -/
def fnExactWhereHoldsUptoRow : OpenClaim := { program := "ytemilnkglkpnjabdoor", sum := "84dc74e060c6a12987bad7b0ac731ce7045eda3e5e9026cae7b4901b8995ae7c", func := "loop.example/surelywrong/laws.FnExactWhereHolds", spec := "fnExactWhereHolds", unfollowed := true, recurses := true, named := ["loop.example/surelywrong/impl.comparedVariables", "loop.example/surelywrong/impl.comparedWithNumbers"], apart := false, laid := [("loop.example/surelywrong/impl.comparedWithNumbers", laid_loop_example_surelywrong_impl_comparedWithNumbers), ("loop.example/surelywrong/impl.comparedVariables", laid_loop_example_surelywrong_impl_comparedVariables)], narrowed := true }
def FnExactWhereHoldsUptoSaid : Prop := fnExactWhereHoldsUptoRow.holds Tryd.pinned (OpenSpec.upto fnExactWhereHoldsSpec)

/-- 'laws.FnExactOppositeOf', WHERE WHAT IT READS IS OF BULK AT MOST 1048576: true; the input reads as it did. -/
def fnExactOppositeOfUptoRow : OpenClaim := { program := "ytemilnkglkpnjabdoor", sum := "84dc74e060c6a12987bad7b0ac731ce7045eda3e5e9026cae7b4901b8995ae7c", func := "loop.example/surelywrong/laws.FnExactOppositeOf", spec := "fnExactOppositeOf", unfollowed := true, recurses := true, named := ["loop.example/surelywrong/impl.comparedVariables", "loop.example/surelywrong/impl.comparedWithNumbers"], apart := false, laid := [("loop.example/surelywrong/impl.comparedWithNumbers", laid_loop_example_surelywrong_impl_comparedWithNumbers), ("loop.example/surelywrong/impl.comparedVariables", laid_loop_example_surelywrong_impl_comparedVariables)], narrowed := true }
def FnExactOppositeOfUptoSaid : Prop := fnExactOppositeOfUptoRow.holds Tryd.pinned (OpenSpec.upto fnExactOppositeOfSpec)

/-- 'laws.FnExactAllTests', WHERE WHAT IT READS IS OF BULK AT MOST 1048576: true; the input reads as it did. -/
def fnExactAllTestsUptoRow : OpenClaim := { program := "ytemilnkglkpnjabdoor", sum := "84dc74e060c6a12987bad7b0ac731ce7045eda3e5e9026cae7b4901b8995ae7c", func := "loop.example/surelywrong/laws.FnExactAllTests", spec := "fnExactAllTests", named := ["loop.example/surelywrong/impl.comparedVariables", "loop.example/surelywrong/impl.comparedWithNumbers"], apart := false, laid := [("loop.example/surelywrong/impl.comparedWithNumbers", laid_loop_example_surelywrong_impl_comparedWithNumbers), ("loop.example/surelywrong/impl.comparedVariables", laid_loop_example_surelywrong_impl_comparedVariables)], narrowed := true }
def FnExactAllTestsUptoSaid : Prop := fnExactAllTestsUptoRow.holds Tryd.pinned (OpenSpec.upto fnExactAllTestsSpec)

/-- 'laws.FnExactTestFor', WHERE WHAT IT READS IS OF BULK AT MOST 1048576: true; the input reads as it did. -/
def fnExactTestForUptoRow : OpenClaim := { program := "ytemilnkglkpnjabdoor", sum := "84dc74e060c6a12987bad7b0ac731ce7045eda3e5e9026cae7b4901b8995ae7c", func := "loop.example/surelywrong/laws.FnExactTestFor", spec := "fnExactTestFor", unfollowed := true, recurses := true, named := ["loop.example/surelywrong/impl.comparedVariables", "loop.example/surelywrong/impl.comparedWithNumbers"], apart := false, laid := [("loop.example/surelywrong/impl.comparedWithNumbers", laid_loop_example_surelywrong_impl_comparedWithNumbers), ("loop.example/surelywrong/impl.comparedVariables", laid_loop_example_surelywrong_impl_comparedVariables)], narrowed := true }
def FnExactTestForUptoSaid : Prop := fnExactTestForUptoRow.holds Tryd.pinned (OpenSpec.upto fnExactTestForSpec)

end Rows
end Go.Proofs.YtemilnkglkpnjabDoor
