/-
  NARROWER THAN 'FOR EVERY INPUT', by the rows' own cells (each row's printed sentence says how): FnParts: ifaces, laid · FnMade: ifaces, laid · FnExactProgramValid: ifaces, laid · FnExactKindOf: ifaces, laid · FnExactPartsOf: ifaces, laid · FnExactSequenceOf: ifaces, laid · FnExactChoiceOf: ifaces, laid · FnExactLoopOf: ifaces, laid · FnExactIfOf: ifaces, laid · FnExactSizeOf: ifaces, laid · FnExactLoopsIn: ifaces, laid.
  DERIVED. THE GIVEN ROWS OF THIS SEAT. 11 by the template 'for every input the law returns true; each argument reads behind the call as it read before'; 0 by the template 'total and deterministic' (their statements: YtemilnkglkpnjaaDoorTotals.lean).
  GIVEN WITH THE SEED: the statements are not yours to turn. If you find one false, say at which input.
  Laid BY PROGRAM, IN A SANDBOX (cutbox-rows.mjs): the forced cells as the released guide's own fill.sh prints them over the translation 94d3eac835c48bac… (all of the seat's roots in one cut). By AI agents, Wed Nov 11 2026. No macro, syntax, notation, axiom, sorry.
-/
import Derived.Test.YtemilnkglkpnjaaDoorChecked
import GoSem.Claim
import GoSem.ClaimJoined
import GoSem.ClaimMapViews
import Derived.JoinedTies
import Derived.KernelRfl
namespace Go.Proofs.YtemilnkglkpnjaaDoor
/- THE CELL 'sum', in the pinned program and in every row, IS THE sha256 OF THE DUMP (.gsa) THAT YtemilnkglkpnjaaDoorProg.lean LOADS. Nothing in Lean hashes anything: it is a label: what it is worth is what the hold of that sum in a sandbox is worth. -/
noncomputable def Tryd.pinned : Pinned := { name := "ytemilnkglkpnjaadoor", sum := "94d3eac835c48bac20342b5e8cc335d0a3c7dd0f4d0b0cf8f0f8c4f6a0ccce49", checked := Tryd.checked }
namespace Rows
def none {H : Type} : Left H := { results := [], args := [] }

/- WHAT THE LISTED PACKAGE-LEVEL VARIABLES READ AS WHEN THE CALL BEGINS. Each datum BY PROGRAM (the guide's laid-datum.mjs) off the statement by which the dump's own 'gosem.cut.vars' lays the variable. In a bare row this is a premise. The card (YtemilnkglkpnjaaDoorCards.lean) ties it to the program's text. -/
def laid_loop_example_surelywrong_impl_comparedWithNumbers {H : Type} : DataW H := .slice [.lit (.string [61, 48]), .lit (.string [61, 49]), .lit (.string [61, 50]), .lit (.string [35, 48]), .lit (.string [35, 49]), .lit (.string [35, 50]), .lit (.string [60, 49]), .lit (.string [60, 50])] []
def laid_loop_example_surelywrong_impl_comparedVariables {H : Type} : DataW H := .slice [.lit (.string [120, 61, 121]), .lit (.string [120, 35, 121]), .lit (.string [120, 60, 121]), .lit (.string [121, 60, 120])] []
def laid_loop_example_surelywrong_impl_errNoProgram {H : Type} : DataW H := .iface "*errors.errorString" (.ptr (.agg [.lit (.string [110, 111, 32, 112, 114, 111, 103, 114, 97, 109])]))
def laid_loop_example_surelywrong_impl_assignments {H : Type} : DataW H := .slice [.lit (.string [120, 48]), .lit (.string [120, 49]), .lit (.string [120, 50]), .lit (.string [120, 121]), .lit (.string [120, 43]), .lit (.string [120, 63]), .lit (.string [121, 48]), .lit (.string [121, 49]), .lit (.string [121, 50]), .lit (.string [121, 120]), .lit (.string [121, 43]), .lit (.string [121, 63])] []

/-- 'laws.FnParts': WHATEVER THE INPUT: true; the input reads as it did. -/
def fnPartsSpec : ChangeSpec := { name := "fnParts", vars := ["loop.example/surelywrong/impl.errNoProgram", "loop.example/surelywrong/impl.assignments", "loop.example/surelywrong/impl.comparedVariables", "loop.example/surelywrong/impl.comparedWithNumbers"], fn := fun _ => fun
  | [d, g1, g2, g3, g4] => { results := [.lit (.bool true)], args := [d], vars := [g1, g2, g3, g4] }
  | _ => none }
def fnPartsRow : OpenClaim := { program := "ytemilnkglkpnjaadoor", sum := "94d3eac835c48bac20342b5e8cc335d0a3c7dd0f4d0b0cf8f0f8c4f6a0ccce49", func := "loop.example/surelywrong/laws.FnParts", spec := "fnParts", inPlace := ["internal/abi.NoEscape", "internal/bytealg.MakeNoZero"], unfollowed := true, recurses := true, named := ["loop.example/surelywrong/impl.errNoProgram", "loop.example/surelywrong/impl.assignments", "loop.example/surelywrong/impl.comparedVariables", "loop.example/surelywrong/impl.comparedWithNumbers"], ifaces := true, apart := false, laid := [("loop.example/surelywrong/impl.comparedWithNumbers", laid_loop_example_surelywrong_impl_comparedWithNumbers), ("loop.example/surelywrong/impl.comparedVariables", laid_loop_example_surelywrong_impl_comparedVariables), ("loop.example/surelywrong/impl.errNoProgram", laid_loop_example_surelywrong_impl_errNoProgram), ("loop.example/surelywrong/impl.assignments", laid_loop_example_surelywrong_impl_assignments)] }
def FnPartsSaid : Prop := fnPartsRow.holds Tryd.pinned (OpenSpec.ofChange fnPartsSpec)

/-- ITS FALSE NEIGHBOUR: 'it returns false'. Refute it at one input. -/
def fnPartsWrong : ChangeSpec := { name := "fnParts", vars := ["loop.example/surelywrong/impl.errNoProgram", "loop.example/surelywrong/impl.assignments", "loop.example/surelywrong/impl.comparedVariables", "loop.example/surelywrong/impl.comparedWithNumbers"], fn := fun _ => fun
  | [d, g1, g2, g3, g4] => { results := [.lit (.bool false)], args := [d], vars := [g1, g2, g3, g4] }
  | _ => none }
def FnPartsWrongFalsely : Prop := fnPartsRow.holds Tryd.pinned (OpenSpec.ofChange fnPartsWrong)

/-- 'laws.FnMade': WHATEVER THE INPUT: true; the input reads as it did. -/
def fnMadeSpec : ChangeSpec := { name := "fnMade", vars := ["loop.example/surelywrong/impl.errNoProgram", "loop.example/surelywrong/impl.assignments", "loop.example/surelywrong/impl.comparedVariables", "loop.example/surelywrong/impl.comparedWithNumbers"], fn := fun _ => fun
  | [d, g1, g2, g3, g4] => { results := [.lit (.bool true)], args := [d], vars := [g1, g2, g3, g4] }
  | _ => none }
def fnMadeRow : OpenClaim := { program := "ytemilnkglkpnjaadoor", sum := "94d3eac835c48bac20342b5e8cc335d0a3c7dd0f4d0b0cf8f0f8c4f6a0ccce49", func := "loop.example/surelywrong/laws.FnMade", spec := "fnMade", inPlace := ["internal/abi.NoEscape", "internal/bytealg.MakeNoZero"], unfollowed := true, recurses := true, named := ["loop.example/surelywrong/impl.errNoProgram", "loop.example/surelywrong/impl.assignments", "loop.example/surelywrong/impl.comparedVariables", "loop.example/surelywrong/impl.comparedWithNumbers"], ifaces := true, apart := false, laid := [("loop.example/surelywrong/impl.comparedWithNumbers", laid_loop_example_surelywrong_impl_comparedWithNumbers), ("loop.example/surelywrong/impl.comparedVariables", laid_loop_example_surelywrong_impl_comparedVariables), ("loop.example/surelywrong/impl.errNoProgram", laid_loop_example_surelywrong_impl_errNoProgram), ("loop.example/surelywrong/impl.assignments", laid_loop_example_surelywrong_impl_assignments)] }
def FnMadeSaid : Prop := fnMadeRow.holds Tryd.pinned (OpenSpec.ofChange fnMadeSpec)

/-- ITS FALSE NEIGHBOUR: 'it returns false'. Refute it at one input. -/
def fnMadeWrong : ChangeSpec := { name := "fnMade", vars := ["loop.example/surelywrong/impl.errNoProgram", "loop.example/surelywrong/impl.assignments", "loop.example/surelywrong/impl.comparedVariables", "loop.example/surelywrong/impl.comparedWithNumbers"], fn := fun _ => fun
  | [d, g1, g2, g3, g4] => { results := [.lit (.bool false)], args := [d], vars := [g1, g2, g3, g4] }
  | _ => none }
def FnMadeWrongFalsely : Prop := fnMadeRow.holds Tryd.pinned (OpenSpec.ofChange fnMadeWrong)

/-- 'laws.FnExactProgramValid': WHATEVER THE INPUT: true; the input reads as it did. -/
def fnExactProgramValidSpec : ChangeSpec := { name := "fnExactProgramValid", vars := ["loop.example/surelywrong/impl.errNoProgram", "loop.example/surelywrong/impl.assignments", "loop.example/surelywrong/impl.comparedVariables", "loop.example/surelywrong/impl.comparedWithNumbers"], fn := fun _ => fun
  | [d, g1, g2, g3, g4] => { results := [.lit (.bool true)], args := [d], vars := [g1, g2, g3, g4] }
  | _ => none }
def fnExactProgramValidRow : OpenClaim := { program := "ytemilnkglkpnjaadoor", sum := "94d3eac835c48bac20342b5e8cc335d0a3c7dd0f4d0b0cf8f0f8c4f6a0ccce49", func := "loop.example/surelywrong/laws.FnExactProgramValid", spec := "fnExactProgramValid", unfollowed := true, recurses := true, named := ["loop.example/surelywrong/impl.errNoProgram", "loop.example/surelywrong/impl.assignments", "loop.example/surelywrong/impl.comparedVariables", "loop.example/surelywrong/impl.comparedWithNumbers"], ifaces := true, apart := false, laid := [("loop.example/surelywrong/impl.comparedWithNumbers", laid_loop_example_surelywrong_impl_comparedWithNumbers), ("loop.example/surelywrong/impl.comparedVariables", laid_loop_example_surelywrong_impl_comparedVariables), ("loop.example/surelywrong/impl.errNoProgram", laid_loop_example_surelywrong_impl_errNoProgram), ("loop.example/surelywrong/impl.assignments", laid_loop_example_surelywrong_impl_assignments)] }
def FnExactProgramValidSaid : Prop := fnExactProgramValidRow.holds Tryd.pinned (OpenSpec.ofChange fnExactProgramValidSpec)

/-- ITS FALSE NEIGHBOUR: 'it returns false'. Refute it at one input. -/
def fnExactProgramValidWrong : ChangeSpec := { name := "fnExactProgramValid", vars := ["loop.example/surelywrong/impl.errNoProgram", "loop.example/surelywrong/impl.assignments", "loop.example/surelywrong/impl.comparedVariables", "loop.example/surelywrong/impl.comparedWithNumbers"], fn := fun _ => fun
  | [d, g1, g2, g3, g4] => { results := [.lit (.bool false)], args := [d], vars := [g1, g2, g3, g4] }
  | _ => none }
def FnExactProgramValidWrongFalsely : Prop := fnExactProgramValidRow.holds Tryd.pinned (OpenSpec.ofChange fnExactProgramValidWrong)

/-- 'laws.FnExactKindOf': WHATEVER THE INPUT: true; the input reads as it did. -/
def fnExactKindOfSpec : ChangeSpec := { name := "fnExactKindOf", vars := ["loop.example/surelywrong/impl.errNoProgram", "loop.example/surelywrong/impl.assignments", "loop.example/surelywrong/impl.comparedVariables", "loop.example/surelywrong/impl.comparedWithNumbers"], fn := fun _ => fun
  | [d, g1, g2, g3, g4] => { results := [.lit (.bool true)], args := [d], vars := [g1, g2, g3, g4] }
  | _ => none }
def fnExactKindOfRow : OpenClaim := { program := "ytemilnkglkpnjaadoor", sum := "94d3eac835c48bac20342b5e8cc335d0a3c7dd0f4d0b0cf8f0f8c4f6a0ccce49", func := "loop.example/surelywrong/laws.FnExactKindOf", spec := "fnExactKindOf", unfollowed := true, recurses := true, named := ["loop.example/surelywrong/impl.errNoProgram", "loop.example/surelywrong/impl.assignments", "loop.example/surelywrong/impl.comparedVariables", "loop.example/surelywrong/impl.comparedWithNumbers"], ifaces := true, apart := false, laid := [("loop.example/surelywrong/impl.comparedWithNumbers", laid_loop_example_surelywrong_impl_comparedWithNumbers), ("loop.example/surelywrong/impl.comparedVariables", laid_loop_example_surelywrong_impl_comparedVariables), ("loop.example/surelywrong/impl.errNoProgram", laid_loop_example_surelywrong_impl_errNoProgram), ("loop.example/surelywrong/impl.assignments", laid_loop_example_surelywrong_impl_assignments)] }
def FnExactKindOfSaid : Prop := fnExactKindOfRow.holds Tryd.pinned (OpenSpec.ofChange fnExactKindOfSpec)

/-- ITS FALSE NEIGHBOUR: 'it returns false'. Refute it at one input. -/
def fnExactKindOfWrong : ChangeSpec := { name := "fnExactKindOf", vars := ["loop.example/surelywrong/impl.errNoProgram", "loop.example/surelywrong/impl.assignments", "loop.example/surelywrong/impl.comparedVariables", "loop.example/surelywrong/impl.comparedWithNumbers"], fn := fun _ => fun
  | [d, g1, g2, g3, g4] => { results := [.lit (.bool false)], args := [d], vars := [g1, g2, g3, g4] }
  | _ => none }
def FnExactKindOfWrongFalsely : Prop := fnExactKindOfRow.holds Tryd.pinned (OpenSpec.ofChange fnExactKindOfWrong)

/-- 'laws.FnExactPartsOf': WHATEVER THE INPUT: true; the input reads as it did. -/
def fnExactPartsOfSpec : ChangeSpec := { name := "fnExactPartsOf", vars := ["loop.example/surelywrong/impl.errNoProgram", "loop.example/surelywrong/impl.assignments", "loop.example/surelywrong/impl.comparedVariables", "loop.example/surelywrong/impl.comparedWithNumbers"], fn := fun _ => fun
  | [d, g1, g2, g3, g4] => { results := [.lit (.bool true)], args := [d], vars := [g1, g2, g3, g4] }
  | _ => none }
def fnExactPartsOfRow : OpenClaim := { program := "ytemilnkglkpnjaadoor", sum := "94d3eac835c48bac20342b5e8cc335d0a3c7dd0f4d0b0cf8f0f8c4f6a0ccce49", func := "loop.example/surelywrong/laws.FnExactPartsOf", spec := "fnExactPartsOf", unfollowed := true, recurses := true, named := ["loop.example/surelywrong/impl.errNoProgram", "loop.example/surelywrong/impl.assignments", "loop.example/surelywrong/impl.comparedVariables", "loop.example/surelywrong/impl.comparedWithNumbers"], ifaces := true, apart := false, laid := [("loop.example/surelywrong/impl.comparedWithNumbers", laid_loop_example_surelywrong_impl_comparedWithNumbers), ("loop.example/surelywrong/impl.comparedVariables", laid_loop_example_surelywrong_impl_comparedVariables), ("loop.example/surelywrong/impl.errNoProgram", laid_loop_example_surelywrong_impl_errNoProgram), ("loop.example/surelywrong/impl.assignments", laid_loop_example_surelywrong_impl_assignments)] }
def FnExactPartsOfSaid : Prop := fnExactPartsOfRow.holds Tryd.pinned (OpenSpec.ofChange fnExactPartsOfSpec)

/-- ITS FALSE NEIGHBOUR: 'it returns false'. Refute it at one input. -/
def fnExactPartsOfWrong : ChangeSpec := { name := "fnExactPartsOf", vars := ["loop.example/surelywrong/impl.errNoProgram", "loop.example/surelywrong/impl.assignments", "loop.example/surelywrong/impl.comparedVariables", "loop.example/surelywrong/impl.comparedWithNumbers"], fn := fun _ => fun
  | [d, g1, g2, g3, g4] => { results := [.lit (.bool false)], args := [d], vars := [g1, g2, g3, g4] }
  | _ => none }
def FnExactPartsOfWrongFalsely : Prop := fnExactPartsOfRow.holds Tryd.pinned (OpenSpec.ofChange fnExactPartsOfWrong)

/-- 'laws.FnExactSequenceOf': WHATEVER THE INPUT: true; the input reads as it did. -/
def fnExactSequenceOfSpec : ChangeSpec := { name := "fnExactSequenceOf", vars := ["loop.example/surelywrong/impl.errNoProgram", "loop.example/surelywrong/impl.assignments", "loop.example/surelywrong/impl.comparedVariables", "loop.example/surelywrong/impl.comparedWithNumbers"], fn := fun _ => fun
  | [d1, d2, g1, g2, g3, g4] => { results := [.lit (.bool true)], args := [d1, d2], vars := [g1, g2, g3, g4] }
  | _ => none }
def fnExactSequenceOfRow : OpenClaim := { program := "ytemilnkglkpnjaadoor", sum := "94d3eac835c48bac20342b5e8cc335d0a3c7dd0f4d0b0cf8f0f8c4f6a0ccce49", func := "loop.example/surelywrong/laws.FnExactSequenceOf", spec := "fnExactSequenceOf", inPlace := ["internal/abi.NoEscape", "internal/bytealg.MakeNoZero"], unfollowed := true, recurses := true, named := ["loop.example/surelywrong/impl.errNoProgram", "loop.example/surelywrong/impl.assignments", "loop.example/surelywrong/impl.comparedVariables", "loop.example/surelywrong/impl.comparedWithNumbers"], ifaces := true, apart := false, laid := [("loop.example/surelywrong/impl.comparedWithNumbers", laid_loop_example_surelywrong_impl_comparedWithNumbers), ("loop.example/surelywrong/impl.comparedVariables", laid_loop_example_surelywrong_impl_comparedVariables), ("loop.example/surelywrong/impl.errNoProgram", laid_loop_example_surelywrong_impl_errNoProgram), ("loop.example/surelywrong/impl.assignments", laid_loop_example_surelywrong_impl_assignments)] }
def FnExactSequenceOfSaid : Prop := fnExactSequenceOfRow.holds Tryd.pinned (OpenSpec.ofChange fnExactSequenceOfSpec)

/-- ITS FALSE NEIGHBOUR: 'it returns false'. Refute it at one input. -/
def fnExactSequenceOfWrong : ChangeSpec := { name := "fnExactSequenceOf", vars := ["loop.example/surelywrong/impl.errNoProgram", "loop.example/surelywrong/impl.assignments", "loop.example/surelywrong/impl.comparedVariables", "loop.example/surelywrong/impl.comparedWithNumbers"], fn := fun _ => fun
  | [d1, d2, g1, g2, g3, g4] => { results := [.lit (.bool false)], args := [d1, d2], vars := [g1, g2, g3, g4] }
  | _ => none }
def FnExactSequenceOfWrongFalsely : Prop := fnExactSequenceOfRow.holds Tryd.pinned (OpenSpec.ofChange fnExactSequenceOfWrong)

/-- 'laws.FnExactChoiceOf': WHATEVER THE INPUT: true; the input reads as it did. -/
def fnExactChoiceOfSpec : ChangeSpec := { name := "fnExactChoiceOf", vars := ["loop.example/surelywrong/impl.errNoProgram", "loop.example/surelywrong/impl.assignments", "loop.example/surelywrong/impl.comparedVariables", "loop.example/surelywrong/impl.comparedWithNumbers"], fn := fun _ => fun
  | [d1, d2, g1, g2, g3, g4] => { results := [.lit (.bool true)], args := [d1, d2], vars := [g1, g2, g3, g4] }
  | _ => none }
def fnExactChoiceOfRow : OpenClaim := { program := "ytemilnkglkpnjaadoor", sum := "94d3eac835c48bac20342b5e8cc335d0a3c7dd0f4d0b0cf8f0f8c4f6a0ccce49", func := "loop.example/surelywrong/laws.FnExactChoiceOf", spec := "fnExactChoiceOf", inPlace := ["internal/abi.NoEscape", "internal/bytealg.MakeNoZero"], unfollowed := true, recurses := true, named := ["loop.example/surelywrong/impl.errNoProgram", "loop.example/surelywrong/impl.assignments", "loop.example/surelywrong/impl.comparedVariables", "loop.example/surelywrong/impl.comparedWithNumbers"], ifaces := true, apart := false, laid := [("loop.example/surelywrong/impl.comparedWithNumbers", laid_loop_example_surelywrong_impl_comparedWithNumbers), ("loop.example/surelywrong/impl.comparedVariables", laid_loop_example_surelywrong_impl_comparedVariables), ("loop.example/surelywrong/impl.errNoProgram", laid_loop_example_surelywrong_impl_errNoProgram), ("loop.example/surelywrong/impl.assignments", laid_loop_example_surelywrong_impl_assignments)] }
def FnExactChoiceOfSaid : Prop := fnExactChoiceOfRow.holds Tryd.pinned (OpenSpec.ofChange fnExactChoiceOfSpec)

/-- ITS FALSE NEIGHBOUR: 'it returns false'. Refute it at one input. -/
def fnExactChoiceOfWrong : ChangeSpec := { name := "fnExactChoiceOf", vars := ["loop.example/surelywrong/impl.errNoProgram", "loop.example/surelywrong/impl.assignments", "loop.example/surelywrong/impl.comparedVariables", "loop.example/surelywrong/impl.comparedWithNumbers"], fn := fun _ => fun
  | [d1, d2, g1, g2, g3, g4] => { results := [.lit (.bool false)], args := [d1, d2], vars := [g1, g2, g3, g4] }
  | _ => none }
def FnExactChoiceOfWrongFalsely : Prop := fnExactChoiceOfRow.holds Tryd.pinned (OpenSpec.ofChange fnExactChoiceOfWrong)

/-- 'laws.FnExactLoopOf': WHATEVER THE INPUT: true; the input reads as it did. -/
def fnExactLoopOfSpec : ChangeSpec := { name := "fnExactLoopOf", vars := ["loop.example/surelywrong/impl.errNoProgram", "loop.example/surelywrong/impl.assignments", "loop.example/surelywrong/impl.comparedVariables", "loop.example/surelywrong/impl.comparedWithNumbers"], fn := fun _ => fun
  | [d, g1, g2, g3, g4] => { results := [.lit (.bool true)], args := [d], vars := [g1, g2, g3, g4] }
  | _ => none }
def fnExactLoopOfRow : OpenClaim := { program := "ytemilnkglkpnjaadoor", sum := "94d3eac835c48bac20342b5e8cc335d0a3c7dd0f4d0b0cf8f0f8c4f6a0ccce49", func := "loop.example/surelywrong/laws.FnExactLoopOf", spec := "fnExactLoopOf", inPlace := ["internal/abi.NoEscape", "internal/bytealg.MakeNoZero"], unfollowed := true, recurses := true, named := ["loop.example/surelywrong/impl.errNoProgram", "loop.example/surelywrong/impl.assignments", "loop.example/surelywrong/impl.comparedVariables", "loop.example/surelywrong/impl.comparedWithNumbers"], ifaces := true, apart := false, laid := [("loop.example/surelywrong/impl.comparedWithNumbers", laid_loop_example_surelywrong_impl_comparedWithNumbers), ("loop.example/surelywrong/impl.comparedVariables", laid_loop_example_surelywrong_impl_comparedVariables), ("loop.example/surelywrong/impl.errNoProgram", laid_loop_example_surelywrong_impl_errNoProgram), ("loop.example/surelywrong/impl.assignments", laid_loop_example_surelywrong_impl_assignments)] }
def FnExactLoopOfSaid : Prop := fnExactLoopOfRow.holds Tryd.pinned (OpenSpec.ofChange fnExactLoopOfSpec)

/-- ITS FALSE NEIGHBOUR: 'it returns false'. Refute it at one input. -/
def fnExactLoopOfWrong : ChangeSpec := { name := "fnExactLoopOf", vars := ["loop.example/surelywrong/impl.errNoProgram", "loop.example/surelywrong/impl.assignments", "loop.example/surelywrong/impl.comparedVariables", "loop.example/surelywrong/impl.comparedWithNumbers"], fn := fun _ => fun
  | [d, g1, g2, g3, g4] => { results := [.lit (.bool false)], args := [d], vars := [g1, g2, g3, g4] }
  | _ => none }
def FnExactLoopOfWrongFalsely : Prop := fnExactLoopOfRow.holds Tryd.pinned (OpenSpec.ofChange fnExactLoopOfWrong)

/-- 'laws.FnExactIfOf': WHATEVER THE INPUT: true; the input reads as it did. -/
def fnExactIfOfSpec : ChangeSpec := { name := "fnExactIfOf", vars := ["loop.example/surelywrong/impl.comparedVariables", "loop.example/surelywrong/impl.comparedWithNumbers", "loop.example/surelywrong/impl.errNoProgram", "loop.example/surelywrong/impl.assignments"], fn := fun _ => fun
  | [d1, d2, d3, g1, g2, g3, g4] => { results := [.lit (.bool true)], args := [d1, d2, d3], vars := [g1, g2, g3, g4] }
  | _ => none }
def fnExactIfOfRow : OpenClaim := { program := "ytemilnkglkpnjaadoor", sum := "94d3eac835c48bac20342b5e8cc335d0a3c7dd0f4d0b0cf8f0f8c4f6a0ccce49", func := "loop.example/surelywrong/laws.FnExactIfOf", spec := "fnExactIfOf", inPlace := ["internal/abi.NoEscape", "internal/bytealg.MakeNoZero"], unfollowed := true, recurses := true, named := ["loop.example/surelywrong/impl.comparedVariables", "loop.example/surelywrong/impl.comparedWithNumbers", "loop.example/surelywrong/impl.errNoProgram", "loop.example/surelywrong/impl.assignments"], ifaces := true, apart := false, laid := [("loop.example/surelywrong/impl.comparedWithNumbers", laid_loop_example_surelywrong_impl_comparedWithNumbers), ("loop.example/surelywrong/impl.comparedVariables", laid_loop_example_surelywrong_impl_comparedVariables), ("loop.example/surelywrong/impl.errNoProgram", laid_loop_example_surelywrong_impl_errNoProgram), ("loop.example/surelywrong/impl.assignments", laid_loop_example_surelywrong_impl_assignments)] }
def FnExactIfOfSaid : Prop := fnExactIfOfRow.holds Tryd.pinned (OpenSpec.ofChange fnExactIfOfSpec)

/-- ITS FALSE NEIGHBOUR: 'it returns false'. Refute it at one input. -/
def fnExactIfOfWrong : ChangeSpec := { name := "fnExactIfOf", vars := ["loop.example/surelywrong/impl.comparedVariables", "loop.example/surelywrong/impl.comparedWithNumbers", "loop.example/surelywrong/impl.errNoProgram", "loop.example/surelywrong/impl.assignments"], fn := fun _ => fun
  | [d1, d2, d3, g1, g2, g3, g4] => { results := [.lit (.bool false)], args := [d1, d2, d3], vars := [g1, g2, g3, g4] }
  | _ => none }
def FnExactIfOfWrongFalsely : Prop := fnExactIfOfRow.holds Tryd.pinned (OpenSpec.ofChange fnExactIfOfWrong)

/-- 'laws.FnExactSizeOf': WHATEVER THE INPUT: true; the input reads as it did. -/
def fnExactSizeOfSpec : ChangeSpec := { name := "fnExactSizeOf", vars := ["loop.example/surelywrong/impl.errNoProgram", "loop.example/surelywrong/impl.assignments", "loop.example/surelywrong/impl.comparedVariables", "loop.example/surelywrong/impl.comparedWithNumbers"], fn := fun _ => fun
  | [d, g1, g2, g3, g4] => { results := [.lit (.bool true)], args := [d], vars := [g1, g2, g3, g4] }
  | _ => none }
def fnExactSizeOfRow : OpenClaim := { program := "ytemilnkglkpnjaadoor", sum := "94d3eac835c48bac20342b5e8cc335d0a3c7dd0f4d0b0cf8f0f8c4f6a0ccce49", func := "loop.example/surelywrong/laws.FnExactSizeOf", spec := "fnExactSizeOf", unfollowed := true, recurses := true, named := ["loop.example/surelywrong/impl.errNoProgram", "loop.example/surelywrong/impl.assignments", "loop.example/surelywrong/impl.comparedVariables", "loop.example/surelywrong/impl.comparedWithNumbers"], ifaces := true, apart := false, laid := [("loop.example/surelywrong/impl.comparedWithNumbers", laid_loop_example_surelywrong_impl_comparedWithNumbers), ("loop.example/surelywrong/impl.comparedVariables", laid_loop_example_surelywrong_impl_comparedVariables), ("loop.example/surelywrong/impl.errNoProgram", laid_loop_example_surelywrong_impl_errNoProgram), ("loop.example/surelywrong/impl.assignments", laid_loop_example_surelywrong_impl_assignments)] }
def FnExactSizeOfSaid : Prop := fnExactSizeOfRow.holds Tryd.pinned (OpenSpec.ofChange fnExactSizeOfSpec)

/-- ITS FALSE NEIGHBOUR: 'it returns false'. Refute it at one input. -/
def fnExactSizeOfWrong : ChangeSpec := { name := "fnExactSizeOf", vars := ["loop.example/surelywrong/impl.errNoProgram", "loop.example/surelywrong/impl.assignments", "loop.example/surelywrong/impl.comparedVariables", "loop.example/surelywrong/impl.comparedWithNumbers"], fn := fun _ => fun
  | [d, g1, g2, g3, g4] => { results := [.lit (.bool false)], args := [d], vars := [g1, g2, g3, g4] }
  | _ => none }
def FnExactSizeOfWrongFalsely : Prop := fnExactSizeOfRow.holds Tryd.pinned (OpenSpec.ofChange fnExactSizeOfWrong)

/-- 'laws.FnExactLoopsIn': WHATEVER THE INPUT: true; the input reads as it did. -/
def fnExactLoopsInSpec : ChangeSpec := { name := "fnExactLoopsIn", vars := ["loop.example/surelywrong/impl.errNoProgram", "loop.example/surelywrong/impl.assignments", "loop.example/surelywrong/impl.comparedVariables", "loop.example/surelywrong/impl.comparedWithNumbers"], fn := fun _ => fun
  | [d, g1, g2, g3, g4] => { results := [.lit (.bool true)], args := [d], vars := [g1, g2, g3, g4] }
  | _ => none }
def fnExactLoopsInRow : OpenClaim := { program := "ytemilnkglkpnjaadoor", sum := "94d3eac835c48bac20342b5e8cc335d0a3c7dd0f4d0b0cf8f0f8c4f6a0ccce49", func := "loop.example/surelywrong/laws.FnExactLoopsIn", spec := "fnExactLoopsIn", unfollowed := true, recurses := true, named := ["loop.example/surelywrong/impl.errNoProgram", "loop.example/surelywrong/impl.assignments", "loop.example/surelywrong/impl.comparedVariables", "loop.example/surelywrong/impl.comparedWithNumbers"], ifaces := true, apart := false, laid := [("loop.example/surelywrong/impl.comparedWithNumbers", laid_loop_example_surelywrong_impl_comparedWithNumbers), ("loop.example/surelywrong/impl.comparedVariables", laid_loop_example_surelywrong_impl_comparedVariables), ("loop.example/surelywrong/impl.errNoProgram", laid_loop_example_surelywrong_impl_errNoProgram), ("loop.example/surelywrong/impl.assignments", laid_loop_example_surelywrong_impl_assignments)] }
def FnExactLoopsInSaid : Prop := fnExactLoopsInRow.holds Tryd.pinned (OpenSpec.ofChange fnExactLoopsInSpec)

/-- ITS FALSE NEIGHBOUR: 'it returns false'. Refute it at one input. -/
def fnExactLoopsInWrong : ChangeSpec := { name := "fnExactLoopsIn", vars := ["loop.example/surelywrong/impl.errNoProgram", "loop.example/surelywrong/impl.assignments", "loop.example/surelywrong/impl.comparedVariables", "loop.example/surelywrong/impl.comparedWithNumbers"], fn := fun _ => fun
  | [d, g1, g2, g3, g4] => { results := [.lit (.bool false)], args := [d], vars := [g1, g2, g3, g4] }
  | _ => none }
def FnExactLoopsInWrongFalsely : Prop := fnExactLoopsInRow.holds Tryd.pinned (OpenSpec.ofChange fnExactLoopsInWrong)

/- THE SECOND FORM. 'bulk': how many values and letters a reading holds, each counted each time it is reached (what is shared counts as often as it is met; a slice's spare places count too). A statement '..UptoSaid' is the law's where the arguments, and the package variables that the reading takes, are together of bulk at most 1048576: NARROWER than '..Said'. Prove '..Said' where nothing that the law and all that it calls make is longer than what came in: it says more and counts as full. Else prove '..UptoSaid'. A law counts once. -/
mutual
def uptoBulk {H : Type} : DataW H → Nat
  | .lit (.string bytes) => bytes.length + 1
  | .lit _ => 1
  | .nil => 1
  | .ptr d => uptoBulk d + 1
  | .slice elems spare => uptoBulkAll elems + uptoBulkAll spare + 1
  | .agg parts => uptoBulkAll parts + 1
  | .iface _ d => uptoBulk d + 1
  | .map entries => uptoBulkEntries entries + 1
  | .held _ => 1
def uptoBulkAll {H : Type} : List (DataW H) → Nat
  | [] => 0
  | d :: r => uptoBulk d + uptoBulkAll r
def uptoBulkEntries {H : Type} : List (Lit × DataW H) → Nat
  | [] => 0
  | x :: r => uptoBulkEntry x + uptoBulkEntries r
def uptoBulkEntry {H : Type} : Lit × DataW H → Nat
  | (.string bytes, d) => bytes.length + uptoBulk d + 1
  | (_, d) => uptoBulk d + 1
 end
def uptoSmall : (H : Type) → List (DataW H) → Bool := fun _ ds => decide (uptoBulkAll ds ≤ 1048576)
def OpenSpec.upto (s : _root_.Go.ChangeSpec) : _root_.Go.OpenSpec := { _root_.Go.OpenSpec.ofChange s with cond := some uptoSmall }

/-- 'laws.FnParts', WHERE WHAT IT READS IS OF BULK AT MOST 1048576: true; the input reads as it did. -/
def fnPartsUptoRow : OpenClaim := { program := "ytemilnkglkpnjaadoor", sum := "94d3eac835c48bac20342b5e8cc335d0a3c7dd0f4d0b0cf8f0f8c4f6a0ccce49", func := "loop.example/surelywrong/laws.FnParts", spec := "fnParts", inPlace := ["internal/abi.NoEscape", "internal/bytealg.MakeNoZero"], unfollowed := true, recurses := true, named := ["loop.example/surelywrong/impl.errNoProgram", "loop.example/surelywrong/impl.assignments", "loop.example/surelywrong/impl.comparedVariables", "loop.example/surelywrong/impl.comparedWithNumbers"], ifaces := true, apart := false, laid := [("loop.example/surelywrong/impl.comparedWithNumbers", laid_loop_example_surelywrong_impl_comparedWithNumbers), ("loop.example/surelywrong/impl.comparedVariables", laid_loop_example_surelywrong_impl_comparedVariables), ("loop.example/surelywrong/impl.errNoProgram", laid_loop_example_surelywrong_impl_errNoProgram), ("loop.example/surelywrong/impl.assignments", laid_loop_example_surelywrong_impl_assignments)], narrowed := true }
def FnPartsUptoSaid : Prop := fnPartsUptoRow.holds Tryd.pinned (OpenSpec.upto fnPartsSpec)

/-- 'laws.FnMade', WHERE WHAT IT READS IS OF BULK AT MOST 1048576: true; the input reads as it did. -/
def fnMadeUptoRow : OpenClaim := { program := "ytemilnkglkpnjaadoor", sum := "94d3eac835c48bac20342b5e8cc335d0a3c7dd0f4d0b0cf8f0f8c4f6a0ccce49", func := "loop.example/surelywrong/laws.FnMade", spec := "fnMade", inPlace := ["internal/abi.NoEscape", "internal/bytealg.MakeNoZero"], unfollowed := true, recurses := true, named := ["loop.example/surelywrong/impl.errNoProgram", "loop.example/surelywrong/impl.assignments", "loop.example/surelywrong/impl.comparedVariables", "loop.example/surelywrong/impl.comparedWithNumbers"], ifaces := true, apart := false, laid := [("loop.example/surelywrong/impl.comparedWithNumbers", laid_loop_example_surelywrong_impl_comparedWithNumbers), ("loop.example/surelywrong/impl.comparedVariables", laid_loop_example_surelywrong_impl_comparedVariables), ("loop.example/surelywrong/impl.errNoProgram", laid_loop_example_surelywrong_impl_errNoProgram), ("loop.example/surelywrong/impl.assignments", laid_loop_example_surelywrong_impl_assignments)], narrowed := true }
def FnMadeUptoSaid : Prop := fnMadeUptoRow.holds Tryd.pinned (OpenSpec.upto fnMadeSpec)

/-- 'laws.FnExactProgramValid', WHERE WHAT IT READS IS OF BULK AT MOST 1048576: true; the input reads as it did. -/
def fnExactProgramValidUptoRow : OpenClaim := { program := "ytemilnkglkpnjaadoor", sum := "94d3eac835c48bac20342b5e8cc335d0a3c7dd0f4d0b0cf8f0f8c4f6a0ccce49", func := "loop.example/surelywrong/laws.FnExactProgramValid", spec := "fnExactProgramValid", unfollowed := true, recurses := true, named := ["loop.example/surelywrong/impl.errNoProgram", "loop.example/surelywrong/impl.assignments", "loop.example/surelywrong/impl.comparedVariables", "loop.example/surelywrong/impl.comparedWithNumbers"], ifaces := true, apart := false, laid := [("loop.example/surelywrong/impl.comparedWithNumbers", laid_loop_example_surelywrong_impl_comparedWithNumbers), ("loop.example/surelywrong/impl.comparedVariables", laid_loop_example_surelywrong_impl_comparedVariables), ("loop.example/surelywrong/impl.errNoProgram", laid_loop_example_surelywrong_impl_errNoProgram), ("loop.example/surelywrong/impl.assignments", laid_loop_example_surelywrong_impl_assignments)], narrowed := true }
def FnExactProgramValidUptoSaid : Prop := fnExactProgramValidUptoRow.holds Tryd.pinned (OpenSpec.upto fnExactProgramValidSpec)

/-- 'laws.FnExactKindOf', WHERE WHAT IT READS IS OF BULK AT MOST 1048576: true; the input reads as it did. -/
def fnExactKindOfUptoRow : OpenClaim := { program := "ytemilnkglkpnjaadoor", sum := "94d3eac835c48bac20342b5e8cc335d0a3c7dd0f4d0b0cf8f0f8c4f6a0ccce49", func := "loop.example/surelywrong/laws.FnExactKindOf", spec := "fnExactKindOf", unfollowed := true, recurses := true, named := ["loop.example/surelywrong/impl.errNoProgram", "loop.example/surelywrong/impl.assignments", "loop.example/surelywrong/impl.comparedVariables", "loop.example/surelywrong/impl.comparedWithNumbers"], ifaces := true, apart := false, laid := [("loop.example/surelywrong/impl.comparedWithNumbers", laid_loop_example_surelywrong_impl_comparedWithNumbers), ("loop.example/surelywrong/impl.comparedVariables", laid_loop_example_surelywrong_impl_comparedVariables), ("loop.example/surelywrong/impl.errNoProgram", laid_loop_example_surelywrong_impl_errNoProgram), ("loop.example/surelywrong/impl.assignments", laid_loop_example_surelywrong_impl_assignments)], narrowed := true }
def FnExactKindOfUptoSaid : Prop := fnExactKindOfUptoRow.holds Tryd.pinned (OpenSpec.upto fnExactKindOfSpec)

/-- 'laws.FnExactPartsOf', WHERE WHAT IT READS IS OF BULK AT MOST 1048576: true; the input reads as it did. -/
def fnExactPartsOfUptoRow : OpenClaim := { program := "ytemilnkglkpnjaadoor", sum := "94d3eac835c48bac20342b5e8cc335d0a3c7dd0f4d0b0cf8f0f8c4f6a0ccce49", func := "loop.example/surelywrong/laws.FnExactPartsOf", spec := "fnExactPartsOf", unfollowed := true, recurses := true, named := ["loop.example/surelywrong/impl.errNoProgram", "loop.example/surelywrong/impl.assignments", "loop.example/surelywrong/impl.comparedVariables", "loop.example/surelywrong/impl.comparedWithNumbers"], ifaces := true, apart := false, laid := [("loop.example/surelywrong/impl.comparedWithNumbers", laid_loop_example_surelywrong_impl_comparedWithNumbers), ("loop.example/surelywrong/impl.comparedVariables", laid_loop_example_surelywrong_impl_comparedVariables), ("loop.example/surelywrong/impl.errNoProgram", laid_loop_example_surelywrong_impl_errNoProgram), ("loop.example/surelywrong/impl.assignments", laid_loop_example_surelywrong_impl_assignments)], narrowed := true }
def FnExactPartsOfUptoSaid : Prop := fnExactPartsOfUptoRow.holds Tryd.pinned (OpenSpec.upto fnExactPartsOfSpec)

/-- 'laws.FnExactSequenceOf', WHERE WHAT IT READS IS OF BULK AT MOST 1048576: true; the input reads as it did. -/
def fnExactSequenceOfUptoRow : OpenClaim := { program := "ytemilnkglkpnjaadoor", sum := "94d3eac835c48bac20342b5e8cc335d0a3c7dd0f4d0b0cf8f0f8c4f6a0ccce49", func := "loop.example/surelywrong/laws.FnExactSequenceOf", spec := "fnExactSequenceOf", inPlace := ["internal/abi.NoEscape", "internal/bytealg.MakeNoZero"], unfollowed := true, recurses := true, named := ["loop.example/surelywrong/impl.errNoProgram", "loop.example/surelywrong/impl.assignments", "loop.example/surelywrong/impl.comparedVariables", "loop.example/surelywrong/impl.comparedWithNumbers"], ifaces := true, apart := false, laid := [("loop.example/surelywrong/impl.comparedWithNumbers", laid_loop_example_surelywrong_impl_comparedWithNumbers), ("loop.example/surelywrong/impl.comparedVariables", laid_loop_example_surelywrong_impl_comparedVariables), ("loop.example/surelywrong/impl.errNoProgram", laid_loop_example_surelywrong_impl_errNoProgram), ("loop.example/surelywrong/impl.assignments", laid_loop_example_surelywrong_impl_assignments)], narrowed := true }
def FnExactSequenceOfUptoSaid : Prop := fnExactSequenceOfUptoRow.holds Tryd.pinned (OpenSpec.upto fnExactSequenceOfSpec)

/-- 'laws.FnExactChoiceOf', WHERE WHAT IT READS IS OF BULK AT MOST 1048576: true; the input reads as it did. -/
def fnExactChoiceOfUptoRow : OpenClaim := { program := "ytemilnkglkpnjaadoor", sum := "94d3eac835c48bac20342b5e8cc335d0a3c7dd0f4d0b0cf8f0f8c4f6a0ccce49", func := "loop.example/surelywrong/laws.FnExactChoiceOf", spec := "fnExactChoiceOf", inPlace := ["internal/abi.NoEscape", "internal/bytealg.MakeNoZero"], unfollowed := true, recurses := true, named := ["loop.example/surelywrong/impl.errNoProgram", "loop.example/surelywrong/impl.assignments", "loop.example/surelywrong/impl.comparedVariables", "loop.example/surelywrong/impl.comparedWithNumbers"], ifaces := true, apart := false, laid := [("loop.example/surelywrong/impl.comparedWithNumbers", laid_loop_example_surelywrong_impl_comparedWithNumbers), ("loop.example/surelywrong/impl.comparedVariables", laid_loop_example_surelywrong_impl_comparedVariables), ("loop.example/surelywrong/impl.errNoProgram", laid_loop_example_surelywrong_impl_errNoProgram), ("loop.example/surelywrong/impl.assignments", laid_loop_example_surelywrong_impl_assignments)], narrowed := true }
def FnExactChoiceOfUptoSaid : Prop := fnExactChoiceOfUptoRow.holds Tryd.pinned (OpenSpec.upto fnExactChoiceOfSpec)

/-- 'laws.FnExactLoopOf', WHERE WHAT IT READS IS OF BULK AT MOST 1048576: true; the input reads as it did. -/
def fnExactLoopOfUptoRow : OpenClaim := { program := "ytemilnkglkpnjaadoor", sum := "94d3eac835c48bac20342b5e8cc335d0a3c7dd0f4d0b0cf8f0f8c4f6a0ccce49", func := "loop.example/surelywrong/laws.FnExactLoopOf", spec := "fnExactLoopOf", inPlace := ["internal/abi.NoEscape", "internal/bytealg.MakeNoZero"], unfollowed := true, recurses := true, named := ["loop.example/surelywrong/impl.errNoProgram", "loop.example/surelywrong/impl.assignments", "loop.example/surelywrong/impl.comparedVariables", "loop.example/surelywrong/impl.comparedWithNumbers"], ifaces := true, apart := false, laid := [("loop.example/surelywrong/impl.comparedWithNumbers", laid_loop_example_surelywrong_impl_comparedWithNumbers), ("loop.example/surelywrong/impl.comparedVariables", laid_loop_example_surelywrong_impl_comparedVariables), ("loop.example/surelywrong/impl.errNoProgram", laid_loop_example_surelywrong_impl_errNoProgram), ("loop.example/surelywrong/impl.assignments", laid_loop_example_surelywrong_impl_assignments)], narrowed := true }
def FnExactLoopOfUptoSaid : Prop := fnExactLoopOfUptoRow.holds Tryd.pinned (OpenSpec.upto fnExactLoopOfSpec)

/-- 'laws.FnExactIfOf', WHERE WHAT IT READS IS OF BULK AT MOST 1048576: true; the input reads as it did. -/
def fnExactIfOfUptoRow : OpenClaim := { program := "ytemilnkglkpnjaadoor", sum := "94d3eac835c48bac20342b5e8cc335d0a3c7dd0f4d0b0cf8f0f8c4f6a0ccce49", func := "loop.example/surelywrong/laws.FnExactIfOf", spec := "fnExactIfOf", inPlace := ["internal/abi.NoEscape", "internal/bytealg.MakeNoZero"], unfollowed := true, recurses := true, named := ["loop.example/surelywrong/impl.comparedVariables", "loop.example/surelywrong/impl.comparedWithNumbers", "loop.example/surelywrong/impl.errNoProgram", "loop.example/surelywrong/impl.assignments"], ifaces := true, apart := false, laid := [("loop.example/surelywrong/impl.comparedWithNumbers", laid_loop_example_surelywrong_impl_comparedWithNumbers), ("loop.example/surelywrong/impl.comparedVariables", laid_loop_example_surelywrong_impl_comparedVariables), ("loop.example/surelywrong/impl.errNoProgram", laid_loop_example_surelywrong_impl_errNoProgram), ("loop.example/surelywrong/impl.assignments", laid_loop_example_surelywrong_impl_assignments)], narrowed := true }
def FnExactIfOfUptoSaid : Prop := fnExactIfOfUptoRow.holds Tryd.pinned (OpenSpec.upto fnExactIfOfSpec)

/-- 'laws.FnExactSizeOf', WHERE WHAT IT READS IS OF BULK AT MOST 1048576: true; the input reads as it did. -/
def fnExactSizeOfUptoRow : OpenClaim := { program := "ytemilnkglkpnjaadoor", sum := "94d3eac835c48bac20342b5e8cc335d0a3c7dd0f4d0b0cf8f0f8c4f6a0ccce49", func := "loop.example/surelywrong/laws.FnExactSizeOf", spec := "fnExactSizeOf", unfollowed := true, recurses := true, named := ["loop.example/surelywrong/impl.errNoProgram", "loop.example/surelywrong/impl.assignments", "loop.example/surelywrong/impl.comparedVariables", "loop.example/surelywrong/impl.comparedWithNumbers"], ifaces := true, apart := false, laid := [("loop.example/surelywrong/impl.comparedWithNumbers", laid_loop_example_surelywrong_impl_comparedWithNumbers), ("loop.example/surelywrong/impl.comparedVariables", laid_loop_example_surelywrong_impl_comparedVariables), ("loop.example/surelywrong/impl.errNoProgram", laid_loop_example_surelywrong_impl_errNoProgram), ("loop.example/surelywrong/impl.assignments", laid_loop_example_surelywrong_impl_assignments)], narrowed := true }
def FnExactSizeOfUptoSaid : Prop := fnExactSizeOfUptoRow.holds Tryd.pinned (OpenSpec.upto fnExactSizeOfSpec)

/-- 'laws.FnExactLoopsIn', WHERE WHAT IT READS IS OF BULK AT MOST 1048576: true; the input reads as it did. -/
def fnExactLoopsInUptoRow : OpenClaim := { program := "ytemilnkglkpnjaadoor", sum := "94d3eac835c48bac20342b5e8cc335d0a3c7dd0f4d0b0cf8f0f8c4f6a0ccce49", func := "loop.example/surelywrong/laws.FnExactLoopsIn", spec := "fnExactLoopsIn", unfollowed := true, recurses := true, named := ["loop.example/surelywrong/impl.errNoProgram", "loop.example/surelywrong/impl.assignments", "loop.example/surelywrong/impl.comparedVariables", "loop.example/surelywrong/impl.comparedWithNumbers"], ifaces := true, apart := false, laid := [("loop.example/surelywrong/impl.comparedWithNumbers", laid_loop_example_surelywrong_impl_comparedWithNumbers), ("loop.example/surelywrong/impl.comparedVariables", laid_loop_example_surelywrong_impl_comparedVariables), ("loop.example/surelywrong/impl.errNoProgram", laid_loop_example_surelywrong_impl_errNoProgram), ("loop.example/surelywrong/impl.assignments", laid_loop_example_surelywrong_impl_assignments)], narrowed := true }
def FnExactLoopsInUptoSaid : Prop := fnExactLoopsInUptoRow.holds Tryd.pinned (OpenSpec.upto fnExactLoopsInSpec)

end Rows
end Go.Proofs.YtemilnkglkpnjaaDoor
