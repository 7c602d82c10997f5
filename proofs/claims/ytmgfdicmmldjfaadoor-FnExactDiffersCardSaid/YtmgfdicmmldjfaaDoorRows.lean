/-
  NARROWER THAN 'FOR EVERY INPUT', by the rows' own cells (each row's printed sentence says how): FnExactSameResults: ifaces, laid · FnExactIsBelow: ifaces, laid · FnExactDiffers: ifaces, laid · FnExactSimplify: ifaces, laid · FnExactSimplerTop: ifaces, laid · FnExactCountSimpler: ifaces, laid · FnExactIsPlain: ifaces, laid · FnExactShortest: ifaces, laid.
  DERIVED. THE GIVEN ROWS OF THIS SEAT. 8 by the template 'for every input the law returns true; each argument reads behind the call as it read before'; 0 by the template 'total and deterministic' (their statements: YtmgfdicmmldjfaaDoorTotals.lean).
  GIVEN WITH THE SEED: the statements are not yours to turn. If you find one false, say at which input.
  Laid BY PROGRAM, IN A SANDBOX (cutbox-rows.mjs): the forced cells as the released guide's own fill.sh prints them over the translation c3dba858119cc749… (all of the seat's roots in one cut). By AI agents, Wed Nov 11 2026. No macro, syntax, notation, axiom, sorry.
-/
import Derived.Test.YtmgfdicmmldjfaaDoorChecked
import GoSem.Claim
import GoSem.ClaimJoined
import GoSem.ClaimMapViews
import Derived.JoinedTies
import Derived.KernelRfl
namespace Go.Proofs.YtmgfdicmmldjfaaDoor
/- THE CELL 'sum', in the pinned program and in every row, IS THE sha256 OF THE DUMP (.gsa) THAT YtmgfdicmmldjfaaDoorProg.lean LOADS. Nothing in Lean hashes anything: it is a label: what it is worth is what the hold of that sum in a sandbox is worth. -/
noncomputable def Tryd.pinned : Pinned := { name := "ytmgfdicmmldjfaadoor", sum := "c3dba858119cc7491cd823aa654398a29a5d67eba2cd19617a41e55fa2de9732", checked := Tryd.checked }
namespace Rows
def none {H : Type} : Left H := { results := [], args := [] }

/- WHAT THE LISTED PACKAGE-LEVEL VARIABLES READ AS WHEN THE CALL BEGINS. Each datum BY PROGRAM (the guide's laid-datum.mjs) off the statement by which the dump's own 'gosem.cut.vars' lays the variable. In a bare row this is a premise. The card (YtmgfdicmmldjfaaDoorCards.lean) ties it to the program's text. -/
def laid_loop_example_surelywrong_impl_comparedWithNumbers {H : Type} : DataW H := .slice [.lit (.string [61, 48]), .lit (.string [61, 49]), .lit (.string [61, 50]), .lit (.string [35, 48]), .lit (.string [35, 49]), .lit (.string [35, 50]), .lit (.string [60, 49]), .lit (.string [60, 50])] []
def laid_loop_example_surelywrong_impl_comparedVariables {H : Type} : DataW H := .slice [.lit (.string [120, 61, 121]), .lit (.string [120, 35, 121]), .lit (.string [120, 60, 121]), .lit (.string [121, 60, 120])] []
def laid_loop_example_surelywrong_impl_errNoProgram {H : Type} : DataW H := .iface "*errors.errorString" (.ptr (.agg [.lit (.string [110, 111, 32, 112, 114, 111, 103, 114, 97, 109])]))
def laid_loop_example_surelywrong_impl_assignments {H : Type} : DataW H := .slice [.lit (.string [120, 48]), .lit (.string [120, 49]), .lit (.string [120, 50]), .lit (.string [120, 121]), .lit (.string [120, 43]), .lit (.string [120, 63]), .lit (.string [121, 48]), .lit (.string [121, 49]), .lit (.string [121, 50]), .lit (.string [121, 120]), .lit (.string [121, 43]), .lit (.string [121, 63])] []

/-- 'laws.FnExactSameResults': WHATEVER THE INPUT: true; the input reads as it did. -/
def fnExactSameResultsSpec : ChangeSpec := { name := "fnExactSameResults", vars := ["loop.example/surelywrong/impl.errNoProgram", "loop.example/surelywrong/impl.assignments", "loop.example/surelywrong/impl.comparedVariables", "loop.example/surelywrong/impl.comparedWithNumbers"], fn := fun _ => fun
  | [d1, d2, g1, g2, g3, g4] => { results := [.lit (.bool true)], args := [d1, d2], vars := [g1, g2, g3, g4] }
  | _ => none }
def fnExactSameResultsRow : OpenClaim := { program := "ytmgfdicmmldjfaadoor", sum := "c3dba858119cc7491cd823aa654398a29a5d67eba2cd19617a41e55fa2de9732", func := "loop.example/surelywrong/laws.FnExactSameResults", spec := "fnExactSameResults", unfollowed := true, recurses := true, named := ["loop.example/surelywrong/impl.errNoProgram", "loop.example/surelywrong/impl.assignments", "loop.example/surelywrong/impl.comparedVariables", "loop.example/surelywrong/impl.comparedWithNumbers"], ifaces := true, apart := false, laid := [("loop.example/surelywrong/impl.comparedWithNumbers", laid_loop_example_surelywrong_impl_comparedWithNumbers), ("loop.example/surelywrong/impl.comparedVariables", laid_loop_example_surelywrong_impl_comparedVariables), ("loop.example/surelywrong/impl.errNoProgram", laid_loop_example_surelywrong_impl_errNoProgram), ("loop.example/surelywrong/impl.assignments", laid_loop_example_surelywrong_impl_assignments)] }
def FnExactSameResultsSaid : Prop := fnExactSameResultsRow.holds Tryd.pinned (OpenSpec.ofChange fnExactSameResultsSpec)

/-- ITS FALSE NEIGHBOUR: 'it returns false'. Refute it at one input. -/
def fnExactSameResultsWrong : ChangeSpec := { name := "fnExactSameResults", vars := ["loop.example/surelywrong/impl.errNoProgram", "loop.example/surelywrong/impl.assignments", "loop.example/surelywrong/impl.comparedVariables", "loop.example/surelywrong/impl.comparedWithNumbers"], fn := fun _ => fun
  | [d1, d2, g1, g2, g3, g4] => { results := [.lit (.bool false)], args := [d1, d2], vars := [g1, g2, g3, g4] }
  | _ => none }
def FnExactSameResultsWrongFalsely : Prop := fnExactSameResultsRow.holds Tryd.pinned (OpenSpec.ofChange fnExactSameResultsWrong)

/-- 'laws.FnExactIsBelow': WHATEVER THE INPUT: true; the input reads as it did. -/
def fnExactIsBelowSpec : ChangeSpec := { name := "fnExactIsBelow", vars := ["loop.example/surelywrong/impl.errNoProgram", "loop.example/surelywrong/impl.assignments", "loop.example/surelywrong/impl.comparedVariables", "loop.example/surelywrong/impl.comparedWithNumbers"], fn := fun _ => fun
  | [d1, d2, g1, g2, g3, g4] => { results := [.lit (.bool true)], args := [d1, d2], vars := [g1, g2, g3, g4] }
  | _ => none }
def fnExactIsBelowRow : OpenClaim := { program := "ytmgfdicmmldjfaadoor", sum := "c3dba858119cc7491cd823aa654398a29a5d67eba2cd19617a41e55fa2de9732", func := "loop.example/surelywrong/laws.FnExactIsBelow", spec := "fnExactIsBelow", unfollowed := true, recurses := true, named := ["loop.example/surelywrong/impl.errNoProgram", "loop.example/surelywrong/impl.assignments", "loop.example/surelywrong/impl.comparedVariables", "loop.example/surelywrong/impl.comparedWithNumbers"], ifaces := true, apart := false, laid := [("loop.example/surelywrong/impl.comparedWithNumbers", laid_loop_example_surelywrong_impl_comparedWithNumbers), ("loop.example/surelywrong/impl.comparedVariables", laid_loop_example_surelywrong_impl_comparedVariables), ("loop.example/surelywrong/impl.errNoProgram", laid_loop_example_surelywrong_impl_errNoProgram), ("loop.example/surelywrong/impl.assignments", laid_loop_example_surelywrong_impl_assignments)] }
def FnExactIsBelowSaid : Prop := fnExactIsBelowRow.holds Tryd.pinned (OpenSpec.ofChange fnExactIsBelowSpec)

/-- ITS FALSE NEIGHBOUR: 'it returns false'. Refute it at one input. -/
def fnExactIsBelowWrong : ChangeSpec := { name := "fnExactIsBelow", vars := ["loop.example/surelywrong/impl.errNoProgram", "loop.example/surelywrong/impl.assignments", "loop.example/surelywrong/impl.comparedVariables", "loop.example/surelywrong/impl.comparedWithNumbers"], fn := fun _ => fun
  | [d1, d2, g1, g2, g3, g4] => { results := [.lit (.bool false)], args := [d1, d2], vars := [g1, g2, g3, g4] }
  | _ => none }
def FnExactIsBelowWrongFalsely : Prop := fnExactIsBelowRow.holds Tryd.pinned (OpenSpec.ofChange fnExactIsBelowWrong)

/-- 'laws.FnExactDiffers': WHATEVER THE INPUT: true; the input reads as it did. -/
def fnExactDiffersSpec : ChangeSpec := { name := "fnExactDiffers", vars := ["loop.example/surelywrong/impl.errNoProgram", "loop.example/surelywrong/impl.assignments", "loop.example/surelywrong/impl.comparedVariables", "loop.example/surelywrong/impl.comparedWithNumbers"], fn := fun _ => fun
  | [d1, d2, g1, g2, g3, g4] => { results := [.lit (.bool true)], args := [d1, d2], vars := [g1, g2, g3, g4] }
  | _ => none }
def fnExactDiffersRow : OpenClaim := { program := "ytmgfdicmmldjfaadoor", sum := "c3dba858119cc7491cd823aa654398a29a5d67eba2cd19617a41e55fa2de9732", func := "loop.example/surelywrong/laws.FnExactDiffers", spec := "fnExactDiffers", unfollowed := true, recurses := true, named := ["loop.example/surelywrong/impl.errNoProgram", "loop.example/surelywrong/impl.assignments", "loop.example/surelywrong/impl.comparedVariables", "loop.example/surelywrong/impl.comparedWithNumbers"], ifaces := true, apart := false, laid := [("loop.example/surelywrong/impl.comparedWithNumbers", laid_loop_example_surelywrong_impl_comparedWithNumbers), ("loop.example/surelywrong/impl.comparedVariables", laid_loop_example_surelywrong_impl_comparedVariables), ("loop.example/surelywrong/impl.errNoProgram", laid_loop_example_surelywrong_impl_errNoProgram), ("loop.example/surelywrong/impl.assignments", laid_loop_example_surelywrong_impl_assignments)] }
def FnExactDiffersSaid : Prop := fnExactDiffersRow.holds Tryd.pinned (OpenSpec.ofChange fnExactDiffersSpec)

/-- ITS FALSE NEIGHBOUR: 'it returns false'. Refute it at one input. -/
def fnExactDiffersWrong : ChangeSpec := { name := "fnExactDiffers", vars := ["loop.example/surelywrong/impl.errNoProgram", "loop.example/surelywrong/impl.assignments", "loop.example/surelywrong/impl.comparedVariables", "loop.example/surelywrong/impl.comparedWithNumbers"], fn := fun _ => fun
  | [d1, d2, g1, g2, g3, g4] => { results := [.lit (.bool false)], args := [d1, d2], vars := [g1, g2, g3, g4] }
  | _ => none }
def FnExactDiffersWrongFalsely : Prop := fnExactDiffersRow.holds Tryd.pinned (OpenSpec.ofChange fnExactDiffersWrong)

/-- 'laws.FnExactSimplify': WHATEVER THE INPUT: true; the input reads as it did. -/
def fnExactSimplifySpec : ChangeSpec := { name := "fnExactSimplify", vars := ["loop.example/surelywrong/impl.errNoProgram", "loop.example/surelywrong/impl.assignments", "loop.example/surelywrong/impl.comparedVariables", "loop.example/surelywrong/impl.comparedWithNumbers"], fn := fun _ => fun
  | [d, g1, g2, g3, g4] => { results := [.lit (.bool true)], args := [d], vars := [g1, g2, g3, g4] }
  | _ => none }
def fnExactSimplifyRow : OpenClaim := { program := "ytmgfdicmmldjfaadoor", sum := "c3dba858119cc7491cd823aa654398a29a5d67eba2cd19617a41e55fa2de9732", func := "loop.example/surelywrong/laws.FnExactSimplify", spec := "fnExactSimplify", unfollowed := true, recurses := true, named := ["loop.example/surelywrong/impl.errNoProgram", "loop.example/surelywrong/impl.assignments", "loop.example/surelywrong/impl.comparedVariables", "loop.example/surelywrong/impl.comparedWithNumbers"], ifaces := true, apart := false, laid := [("loop.example/surelywrong/impl.comparedWithNumbers", laid_loop_example_surelywrong_impl_comparedWithNumbers), ("loop.example/surelywrong/impl.comparedVariables", laid_loop_example_surelywrong_impl_comparedVariables), ("loop.example/surelywrong/impl.errNoProgram", laid_loop_example_surelywrong_impl_errNoProgram), ("loop.example/surelywrong/impl.assignments", laid_loop_example_surelywrong_impl_assignments)] }
def FnExactSimplifySaid : Prop := fnExactSimplifyRow.holds Tryd.pinned (OpenSpec.ofChange fnExactSimplifySpec)

/-- ITS FALSE NEIGHBOUR: 'it returns false'. Refute it at one input. -/
def fnExactSimplifyWrong : ChangeSpec := { name := "fnExactSimplify", vars := ["loop.example/surelywrong/impl.errNoProgram", "loop.example/surelywrong/impl.assignments", "loop.example/surelywrong/impl.comparedVariables", "loop.example/surelywrong/impl.comparedWithNumbers"], fn := fun _ => fun
  | [d, g1, g2, g3, g4] => { results := [.lit (.bool false)], args := [d], vars := [g1, g2, g3, g4] }
  | _ => none }
def FnExactSimplifyWrongFalsely : Prop := fnExactSimplifyRow.holds Tryd.pinned (OpenSpec.ofChange fnExactSimplifyWrong)

/-- 'laws.FnExactSimplerTop': WHATEVER THE INPUT: true; the input reads as it did. -/
def fnExactSimplerTopSpec : ChangeSpec := { name := "fnExactSimplerTop", vars := ["loop.example/surelywrong/impl.errNoProgram", "loop.example/surelywrong/impl.assignments", "loop.example/surelywrong/impl.comparedVariables", "loop.example/surelywrong/impl.comparedWithNumbers"], fn := fun _ => fun
  | [d, g1, g2, g3, g4] => { results := [.lit (.bool true)], args := [d], vars := [g1, g2, g3, g4] }
  | _ => none }
def fnExactSimplerTopRow : OpenClaim := { program := "ytmgfdicmmldjfaadoor", sum := "c3dba858119cc7491cd823aa654398a29a5d67eba2cd19617a41e55fa2de9732", func := "loop.example/surelywrong/laws.FnExactSimplerTop", spec := "fnExactSimplerTop", unfollowed := true, recurses := true, named := ["loop.example/surelywrong/impl.errNoProgram", "loop.example/surelywrong/impl.assignments", "loop.example/surelywrong/impl.comparedVariables", "loop.example/surelywrong/impl.comparedWithNumbers"], ifaces := true, apart := false, laid := [("loop.example/surelywrong/impl.comparedWithNumbers", laid_loop_example_surelywrong_impl_comparedWithNumbers), ("loop.example/surelywrong/impl.comparedVariables", laid_loop_example_surelywrong_impl_comparedVariables), ("loop.example/surelywrong/impl.errNoProgram", laid_loop_example_surelywrong_impl_errNoProgram), ("loop.example/surelywrong/impl.assignments", laid_loop_example_surelywrong_impl_assignments)] }
def FnExactSimplerTopSaid : Prop := fnExactSimplerTopRow.holds Tryd.pinned (OpenSpec.ofChange fnExactSimplerTopSpec)

/-- ITS FALSE NEIGHBOUR: 'it returns false'. Refute it at one input. -/
def fnExactSimplerTopWrong : ChangeSpec := { name := "fnExactSimplerTop", vars := ["loop.example/surelywrong/impl.errNoProgram", "loop.example/surelywrong/impl.assignments", "loop.example/surelywrong/impl.comparedVariables", "loop.example/surelywrong/impl.comparedWithNumbers"], fn := fun _ => fun
  | [d, g1, g2, g3, g4] => { results := [.lit (.bool false)], args := [d], vars := [g1, g2, g3, g4] }
  | _ => none }
def FnExactSimplerTopWrongFalsely : Prop := fnExactSimplerTopRow.holds Tryd.pinned (OpenSpec.ofChange fnExactSimplerTopWrong)

/-- 'laws.FnExactCountSimpler': WHATEVER THE INPUT: true; the input reads as it did. -/
def fnExactCountSimplerSpec : ChangeSpec := { name := "fnExactCountSimpler", vars := ["loop.example/surelywrong/impl.errNoProgram", "loop.example/surelywrong/impl.assignments", "loop.example/surelywrong/impl.comparedVariables", "loop.example/surelywrong/impl.comparedWithNumbers"], fn := fun _ => fun
  | [d, g1, g2, g3, g4] => { results := [.lit (.bool true)], args := [d], vars := [g1, g2, g3, g4] }
  | _ => none }
def fnExactCountSimplerRow : OpenClaim := { program := "ytmgfdicmmldjfaadoor", sum := "c3dba858119cc7491cd823aa654398a29a5d67eba2cd19617a41e55fa2de9732", func := "loop.example/surelywrong/laws.FnExactCountSimpler", spec := "fnExactCountSimpler", unfollowed := true, recurses := true, named := ["loop.example/surelywrong/impl.errNoProgram", "loop.example/surelywrong/impl.assignments", "loop.example/surelywrong/impl.comparedVariables", "loop.example/surelywrong/impl.comparedWithNumbers"], ifaces := true, apart := false, laid := [("loop.example/surelywrong/impl.comparedWithNumbers", laid_loop_example_surelywrong_impl_comparedWithNumbers), ("loop.example/surelywrong/impl.comparedVariables", laid_loop_example_surelywrong_impl_comparedVariables), ("loop.example/surelywrong/impl.errNoProgram", laid_loop_example_surelywrong_impl_errNoProgram), ("loop.example/surelywrong/impl.assignments", laid_loop_example_surelywrong_impl_assignments)] }
def FnExactCountSimplerSaid : Prop := fnExactCountSimplerRow.holds Tryd.pinned (OpenSpec.ofChange fnExactCountSimplerSpec)

/-- ITS FALSE NEIGHBOUR: 'it returns false'. Refute it at one input. -/
def fnExactCountSimplerWrong : ChangeSpec := { name := "fnExactCountSimpler", vars := ["loop.example/surelywrong/impl.errNoProgram", "loop.example/surelywrong/impl.assignments", "loop.example/surelywrong/impl.comparedVariables", "loop.example/surelywrong/impl.comparedWithNumbers"], fn := fun _ => fun
  | [d, g1, g2, g3, g4] => { results := [.lit (.bool false)], args := [d], vars := [g1, g2, g3, g4] }
  | _ => none }
def FnExactCountSimplerWrongFalsely : Prop := fnExactCountSimplerRow.holds Tryd.pinned (OpenSpec.ofChange fnExactCountSimplerWrong)

/-- 'laws.FnExactIsPlain': WHATEVER THE INPUT: true; the input reads as it did. -/
def fnExactIsPlainSpec : ChangeSpec := { name := "fnExactIsPlain", vars := ["loop.example/surelywrong/impl.errNoProgram", "loop.example/surelywrong/impl.assignments", "loop.example/surelywrong/impl.comparedVariables", "loop.example/surelywrong/impl.comparedWithNumbers"], fn := fun _ => fun
  | [d, g1, g2, g3, g4] => { results := [.lit (.bool true)], args := [d], vars := [g1, g2, g3, g4] }
  | _ => none }
def fnExactIsPlainRow : OpenClaim := { program := "ytmgfdicmmldjfaadoor", sum := "c3dba858119cc7491cd823aa654398a29a5d67eba2cd19617a41e55fa2de9732", func := "loop.example/surelywrong/laws.FnExactIsPlain", spec := "fnExactIsPlain", unfollowed := true, recurses := true, named := ["loop.example/surelywrong/impl.errNoProgram", "loop.example/surelywrong/impl.assignments", "loop.example/surelywrong/impl.comparedVariables", "loop.example/surelywrong/impl.comparedWithNumbers"], ifaces := true, apart := false, laid := [("loop.example/surelywrong/impl.comparedWithNumbers", laid_loop_example_surelywrong_impl_comparedWithNumbers), ("loop.example/surelywrong/impl.comparedVariables", laid_loop_example_surelywrong_impl_comparedVariables), ("loop.example/surelywrong/impl.errNoProgram", laid_loop_example_surelywrong_impl_errNoProgram), ("loop.example/surelywrong/impl.assignments", laid_loop_example_surelywrong_impl_assignments)] }
def FnExactIsPlainSaid : Prop := fnExactIsPlainRow.holds Tryd.pinned (OpenSpec.ofChange fnExactIsPlainSpec)

/-- ITS FALSE NEIGHBOUR: 'it returns false'. Refute it at one input. -/
def fnExactIsPlainWrong : ChangeSpec := { name := "fnExactIsPlain", vars := ["loop.example/surelywrong/impl.errNoProgram", "loop.example/surelywrong/impl.assignments", "loop.example/surelywrong/impl.comparedVariables", "loop.example/surelywrong/impl.comparedWithNumbers"], fn := fun _ => fun
  | [d, g1, g2, g3, g4] => { results := [.lit (.bool false)], args := [d], vars := [g1, g2, g3, g4] }
  | _ => none }
def FnExactIsPlainWrongFalsely : Prop := fnExactIsPlainRow.holds Tryd.pinned (OpenSpec.ofChange fnExactIsPlainWrong)

/-- 'laws.FnExactShortest': WHATEVER THE INPUT: true; the input reads as it did. -/
def fnExactShortestSpec : ChangeSpec := { name := "fnExactShortest", vars := ["loop.example/surelywrong/impl.errNoProgram", "loop.example/surelywrong/impl.assignments", "loop.example/surelywrong/impl.comparedVariables", "loop.example/surelywrong/impl.comparedWithNumbers"], fn := fun _ => fun
  | [d, g1, g2, g3, g4] => { results := [.lit (.bool true)], args := [d], vars := [g1, g2, g3, g4] }
  | _ => none }
def fnExactShortestRow : OpenClaim := { program := "ytmgfdicmmldjfaadoor", sum := "c3dba858119cc7491cd823aa654398a29a5d67eba2cd19617a41e55fa2de9732", func := "loop.example/surelywrong/laws.FnExactShortest", spec := "fnExactShortest", unfollowed := true, recurses := true, named := ["loop.example/surelywrong/impl.errNoProgram", "loop.example/surelywrong/impl.assignments", "loop.example/surelywrong/impl.comparedVariables", "loop.example/surelywrong/impl.comparedWithNumbers"], ifaces := true, apart := false, laid := [("loop.example/surelywrong/impl.comparedWithNumbers", laid_loop_example_surelywrong_impl_comparedWithNumbers), ("loop.example/surelywrong/impl.comparedVariables", laid_loop_example_surelywrong_impl_comparedVariables), ("loop.example/surelywrong/impl.errNoProgram", laid_loop_example_surelywrong_impl_errNoProgram), ("loop.example/surelywrong/impl.assignments", laid_loop_example_surelywrong_impl_assignments)] }
def FnExactShortestSaid : Prop := fnExactShortestRow.holds Tryd.pinned (OpenSpec.ofChange fnExactShortestSpec)

/-- ITS FALSE NEIGHBOUR: 'it returns false'. Refute it at one input. -/
def fnExactShortestWrong : ChangeSpec := { name := "fnExactShortest", vars := ["loop.example/surelywrong/impl.errNoProgram", "loop.example/surelywrong/impl.assignments", "loop.example/surelywrong/impl.comparedVariables", "loop.example/surelywrong/impl.comparedWithNumbers"], fn := fun _ => fun
  | [d, g1, g2, g3, g4] => { results := [.lit (.bool false)], args := [d], vars := [g1, g2, g3, g4] }
  | _ => none }
def FnExactShortestWrongFalsely : Prop := fnExactShortestRow.holds Tryd.pinned (OpenSpec.ofChange fnExactShortestWrong)

/- THE SECOND FORM. 'bulk': how many values and letters a reading holds, each counted each time it is reached (what is shared counts as often as it is met; a slice's spare places count too). A statement '..UptoSaid' is the law's where the arguments, and the package variables that the reading takes, are together of bulk at most 1048576: NARROWER than '..Said'. Prove '..Said' where nothing that the law and all that it calls make is longer than what came in: it says more and counts as full. Else prove '..UptoSaid'. A law counts once. -/
mutual
def uptoBulk {H : Type} : DataW H → Nat
  | .lit (.string bytes) => bytes.length + 1
  | .lit _ => 1
  | .nil => 1
  | .ptr d => uptoBulk d + 1
  | .slice elems spare => uptoBulkAll elems + uptoBulkAll spare + 1
  | .agg parts => uptoBulkAll parts + 1
  | .iface _ d => uptoBulk d + 1
  | .map entries => uptoBulkEntries entries + 1
  | .held _ => 1
def uptoBulkAll {H : Type} : List (DataW H) → Nat
  | [] => 0
  | d :: r => uptoBulk d + uptoBulkAll r
def uptoBulkEntries {H : Type} : List (Lit × DataW H) → Nat
  | [] => 0
  | x :: r => uptoBulkEntry x + uptoBulkEntries r
def uptoBulkEntry {H : Type} : Lit × DataW H → Nat
  | (.string bytes, d) => bytes.length + uptoBulk d + 1
  | (_, d) => uptoBulk d + 1
 end
def uptoSmall : (H : Type) → List (DataW H) → Bool := fun _ ds => decide (uptoBulkAll ds ≤ 1048576)
def OpenSpec.upto (s : _root_.Go.ChangeSpec) : _root_.Go.OpenSpec := { _root_.Go.OpenSpec.ofChange s with cond := some uptoSmall }

/-- 'laws.FnExactSameResults', WHERE WHAT IT READS IS OF BULK AT MOST 1048576: true; the input reads as it did. -/
def fnExactSameResultsUptoRow : OpenClaim := { program := "ytmgfdicmmldjfaadoor", sum := "c3dba858119cc7491cd823aa654398a29a5d67eba2cd19617a41e55fa2de9732", func := "loop.example/surelywrong/laws.FnExactSameResults", spec := "fnExactSameResults", unfollowed := true, recurses := true, named := ["loop.example/surelywrong/impl.errNoProgram", "loop.example/surelywrong/impl.assignments", "loop.example/surelywrong/impl.comparedVariables", "loop.example/surelywrong/impl.comparedWithNumbers"], ifaces := true, apart := false, laid := [("loop.example/surelywrong/impl.comparedWithNumbers", laid_loop_example_surelywrong_impl_comparedWithNumbers), ("loop.example/surelywrong/impl.comparedVariables", laid_loop_example_surelywrong_impl_comparedVariables), ("loop.example/surelywrong/impl.errNoProgram", laid_loop_example_surelywrong_impl_errNoProgram), ("loop.example/surelywrong/impl.assignments", laid_loop_example_surelywrong_impl_assignments)], narrowed := true }
def FnExactSameResultsUptoSaid : Prop := fnExactSameResultsUptoRow.holds Tryd.pinned (OpenSpec.upto fnExactSameResultsSpec)

/-- 'laws.FnExactIsBelow', WHERE WHAT IT READS IS OF BULK AT MOST 1048576: true; the input reads as it did. -/
def fnExactIsBelowUptoRow : OpenClaim := { program := "ytmgfdicmmldjfaadoor", sum := "c3dba858119cc7491cd823aa654398a29a5d67eba2cd19617a41e55fa2de9732", func := "loop.example/surelywrong/laws.FnExactIsBelow", spec := "fnExactIsBelow", unfollowed := true, recurses := true, named := ["loop.example/surelywrong/impl.errNoProgram", "loop.example/surelywrong/impl.assignments", "loop.example/surelywrong/impl.comparedVariables", "loop.example/surelywrong/impl.comparedWithNumbers"], ifaces := true, apart := false, laid := [("loop.example/surelywrong/impl.comparedWithNumbers", laid_loop_example_surelywrong_impl_comparedWithNumbers), ("loop.example/surelywrong/impl.comparedVariables", laid_loop_example_surelywrong_impl_comparedVariables), ("loop.example/surelywrong/impl.errNoProgram", laid_loop_example_surelywrong_impl_errNoProgram), ("loop.example/surelywrong/impl.assignments", laid_loop_example_surelywrong_impl_assignments)], narrowed := true }
def FnExactIsBelowUptoSaid : Prop := fnExactIsBelowUptoRow.holds Tryd.pinned (OpenSpec.upto fnExactIsBelowSpec)

/-- 'laws.FnExactDiffers', WHERE WHAT IT READS IS OF BULK AT MOST 1048576: true; the input reads as it did. -/
def fnExactDiffersUptoRow : OpenClaim := { program := "ytmgfdicmmldjfaadoor", sum := "c3dba858119cc7491cd823aa654398a29a5d67eba2cd19617a41e55fa2de9732", func := "loop.example/surelywrong/laws.FnExactDiffers", spec := "fnExactDiffers", unfollowed := true, recurses := true, named := ["loop.example/surelywrong/impl.errNoProgram", "loop.example/surelywrong/impl.assignments", "loop.example/surelywrong/impl.comparedVariables", "loop.example/surelywrong/impl.comparedWithNumbers"], ifaces := true, apart := false, laid := [("loop.example/surelywrong/impl.comparedWithNumbers", laid_loop_example_surelywrong_impl_comparedWithNumbers), ("loop.example/surelywrong/impl.comparedVariables", laid_loop_example_surelywrong_impl_comparedVariables), ("loop.example/surelywrong/impl.errNoProgram", laid_loop_example_surelywrong_impl_errNoProgram), ("loop.example/surelywrong/impl.assignments", laid_loop_example_surelywrong_impl_assignments)], narrowed := true }
def FnExactDiffersUptoSaid : Prop := fnExactDiffersUptoRow.holds Tryd.pinned (OpenSpec.upto fnExactDiffersSpec)

/-- 'laws.FnExactSimplify', WHERE WHAT IT READS IS OF BULK AT MOST 1048576: true; the input reads as it did. -/
def fnExactSimplifyUptoRow : OpenClaim := { program := "ytmgfdicmmldjfaadoor", sum := "c3dba858119cc7491cd823aa654398a29a5d67eba2cd19617a41e55fa2de9732", func := "loop.example/surelywrong/laws.FnExactSimplify", spec := "fnExactSimplify", unfollowed := true, recurses := true, named := ["loop.example/surelywrong/impl.errNoProgram", "loop.example/surelywrong/impl.assignments", "loop.example/surelywrong/impl.comparedVariables", "loop.example/surelywrong/impl.comparedWithNumbers"], ifaces := true, apart := false, laid := [("loop.example/surelywrong/impl.comparedWithNumbers", laid_loop_example_surelywrong_impl_comparedWithNumbers), ("loop.example/surelywrong/impl.comparedVariables", laid_loop_example_surelywrong_impl_comparedVariables), ("loop.example/surelywrong/impl.errNoProgram", laid_loop_example_surelywrong_impl_errNoProgram), ("loop.example/surelywrong/impl.assignments", laid_loop_example_surelywrong_impl_assignments)], narrowed := true }
def FnExactSimplifyUptoSaid : Prop := fnExactSimplifyUptoRow.holds Tryd.pinned (OpenSpec.upto fnExactSimplifySpec)

/-- 'laws.FnExactSimplerTop', WHERE WHAT IT READS IS OF BULK AT MOST 1048576: true; the input reads as it did. -/
def fnExactSimplerTopUptoRow : OpenClaim := { program := "ytmgfdicmmldjfaadoor", sum := "c3dba858119cc7491cd823aa654398a29a5d67eba2cd19617a41e55fa2de9732", func := "loop.example/surelywrong/laws.FnExactSimplerTop", spec := "fnExactSimplerTop", unfollowed := true, recurses := true, named := ["loop.example/surelywrong/impl.errNoProgram", "loop.example/surelywrong/impl.assignments", "loop.example/surelywrong/impl.comparedVariables", "loop.example/surelywrong/impl.comparedWithNumbers"], ifaces := true, apart := false, laid := [("loop.example/surelywrong/impl.comparedWithNumbers", laid_loop_example_surelywrong_impl_comparedWithNumbers), ("loop.example/surelywrong/impl.comparedVariables", laid_loop_example_surelywrong_impl_comparedVariables), ("loop.example/surelywrong/impl.errNoProgram", laid_loop_example_surelywrong_impl_errNoProgram), ("loop.example/surelywrong/impl.assignments", laid_loop_example_surelywrong_impl_assignments)], narrowed := true }
def FnExactSimplerTopUptoSaid : Prop := fnExactSimplerTopUptoRow.holds Tryd.pinned (OpenSpec.upto fnExactSimplerTopSpec)

/-- 'laws.FnExactCountSimpler', WHERE WHAT IT READS IS OF BULK AT MOST 1048576: true; the input reads as it did. -/
def fnExactCountSimplerUptoRow : OpenClaim := { program := "ytmgfdicmmldjfaadoor", sum := "c3dba858119cc7491cd823aa654398a29a5d67eba2cd19617a41e55fa2de9732", func := "loop.example/surelywrong/laws.FnExactCountSimpler", spec := "fnExactCountSimpler", unfollowed := true, recurses := true, named := ["loop.example/surelywrong/impl.errNoProgram", "loop.example/surelywrong/impl.assignments", "loop.example/surelywrong/impl.comparedVariables", "loop.example/surelywrong/impl.comparedWithNumbers"], ifaces := true, apart := false, laid := [("loop.example/surelywrong/impl.comparedWithNumbers", laid_loop_example_surelywrong_impl_comparedWithNumbers), ("loop.example/surelywrong/impl.comparedVariables", laid_loop_example_surelywrong_impl_comparedVariables), ("loop.example/surelywrong/impl.errNoProgram", laid_loop_example_surelywrong_impl_errNoProgram), ("loop.example/surelywrong/impl.assignments", laid_loop_example_surelywrong_impl_assignments)], narrowed := true }
def FnExactCountSimplerUptoSaid : Prop := fnExactCountSimplerUptoRow.holds Tryd.pinned (OpenSpec.upto fnExactCountSimplerSpec)

/-- 'laws.FnExactIsPlain', WHERE WHAT IT READS IS OF BULK AT MOST 1048576: true; the input reads as it did. -/
def fnExactIsPlainUptoRow : OpenClaim := { program := "ytmgfdicmmldjfaadoor", sum := "c3dba858119cc7491cd823aa654398a29a5d67eba2cd19617a41e55fa2de9732", func := "loop.example/surelywrong/laws.FnExactIsPlain", spec := "fnExactIsPlain", unfollowed := true, recurses := true, named := ["loop.example/surelywrong/impl.errNoProgram", "loop.example/surelywrong/impl.assignments", "loop.example/surelywrong/impl.comparedVariables", "loop.example/surelywrong/impl.comparedWithNumbers"], ifaces := true, apart := false, laid := [("loop.example/surelywrong/impl.comparedWithNumbers", laid_loop_example_surelywrong_impl_comparedWithNumbers), ("loop.example/surelywrong/impl.comparedVariables", laid_loop_example_surelywrong_impl_comparedVariables), ("loop.example/surelywrong/impl.errNoProgram", laid_loop_example_surelywrong_impl_errNoProgram), ("loop.example/surelywrong/impl.assignments", laid_loop_example_surelywrong_impl_assignments)], narrowed := true }
def FnExactIsPlainUptoSaid : Prop := fnExactIsPlainUptoRow.holds Tryd.pinned (OpenSpec.upto fnExactIsPlainSpec)

/-- 'laws.FnExactShortest', WHERE WHAT IT READS IS OF BULK AT MOST 1048576: true; the input reads as it did. -/
def fnExactShortestUptoRow : OpenClaim := { program := "ytmgfdicmmldjfaadoor", sum := "c3dba858119cc7491cd823aa654398a29a5d67eba2cd19617a41e55fa2de9732", func := "loop.example/surelywrong/laws.FnExactShortest", spec := "fnExactShortest", unfollowed := true, recurses := true, named := ["loop.example/surelywrong/impl.errNoProgram", "loop.example/surelywrong/impl.assignments", "loop.example/surelywrong/impl.comparedVariables", "loop.example/surelywrong/impl.comparedWithNumbers"], ifaces := true, apart := false, laid := [("loop.example/surelywrong/impl.comparedWithNumbers", laid_loop_example_surelywrong_impl_comparedWithNumbers), ("loop.example/surelywrong/impl.comparedVariables", laid_loop_example_surelywrong_impl_comparedVariables), ("loop.example/surelywrong/impl.errNoProgram", laid_loop_example_surelywrong_impl_errNoProgram), ("loop.example/surelywrong/impl.assignments", laid_loop_example_surelywrong_impl_assignments)], narrowed := true }
def FnExactShortestUptoSaid : Prop := fnExactShortestUptoRow.holds Tryd.pinned (OpenSpec.upto fnExactShortestSpec)

end Rows
end Go.Proofs.YtmgfdicmmldjfaaDoor
