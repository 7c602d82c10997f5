/-
  NARROWER THAN 'FOR EVERY INPUT', by the rows' own cells (each row's printed sentence says how): FnNumbers: ifaces, laid · FnExactFormatNumbers: laid · FnExactParseExit: ifaces, laid · FnExactIsBelow: ifaces, laid · FnExactSimplify: ifaces, laid · FnExactSimplerTop: ifaces, laid · FnExactCountSimpler: ifaces, laid · FnExactIsPlain: ifaces, laid · FnExactShortest: ifaces, laid.
  DERIVED. THE GIVEN ROWS OF THIS SEAT. 9 by the template 'for every input the law returns true; each argument reads behind the call as it read before'; 0 by the template 'total and deterministic' (their statements: YtgkgkaapjljpcaaDoorTotals.lean).
  GIVEN WITH THE SEED: the statements are not yours to turn. If you find one false, say at which input.
  Laid BY PROGRAM, IN A SANDBOX (cutbox-rows.mjs): the forced cells as the released guide's own fill.sh prints them over the translation 8ea28b1173e581c5… (all of the seat's roots in one cut). By AI agents, Wed Nov 11 2026. No macro, syntax, notation, axiom, sorry.
-/
import Derived.Test.YtgkgkaapjljpcaaDoorChecked
import GoSem.Claim
import GoSem.ClaimJoined
import GoSem.ClaimMapViews
import Derived.JoinedTies
import Derived.KernelRfl
namespace Go.Proofs.YtgkgkaapjljpcaaDoor
/- THE CELL 'sum', in the pinned program and in every row, IS THE sha256 OF THE DUMP (.gsa) THAT YtgkgkaapjljpcaaDoorProg.lean LOADS. Nothing in Lean hashes anything: it is a label: what it is worth is what the hold of that sum in a sandbox is worth. -/
noncomputable def Tryd.pinned : Pinned := { name := "ytgkgkaapjljpcaadoor", sum := "8ea28b1173e581c55cf307d4c890d1544792fbf192583d4bf9cd6845ddda0c62", checked := Tryd.checked }
namespace Rows
def none {H : Type} : Left H := { results := [], args := [] }

/- WHAT THE LISTED PACKAGE-LEVEL VARIABLES READ AS WHEN THE CALL BEGINS. Each datum BY PROGRAM (the guide's laid-datum.mjs) off the statement by which the dump's own 'gosem.cut.vars' lays the variable. In a bare row this is a premise. The card (YtgkgkaapjljpcaaDoorCards.lean) ties it to the program's text. -/
def laid_math_bits_deBruijn32tab {H : Type} : DataW H := .agg [.lit (.int .u8 0), .lit (.int .u8 1), .lit (.int .u8 28), .lit (.int .u8 2), .lit (.int .u8 29), .lit (.int .u8 14), .lit (.int .u8 24), .lit (.int .u8 3), .lit (.int .u8 30), .lit (.int .u8 22), .lit (.int .u8 20), .lit (.int .u8 15), .lit (.int .u8 25), .lit (.int .u8 17), .lit (.int .u8 4), .lit (.int .u8 8), .lit (.int .u8 31), .lit (.int .u8 27), .lit (.int .u8 13), .lit (.int .u8 23), .lit (.int .u8 21), .lit (.int .u8 19), .lit (.int .u8 16), .lit (.int .u8 7), .lit (.int .u8 26), .lit (.int .u8 12), .lit (.int .u8 18), .lit (.int .u8 6), .lit (.int .u8 11), .lit (.int .u8 5), .lit (.int .u8 10), .lit (.int .u8 9)]
def laid_math_bits_deBruijn64tab {H : Type} : DataW H := .agg [.lit (.int .u8 0), .lit (.int .u8 1), .lit (.int .u8 56), .lit (.int .u8 2), .lit (.int .u8 57), .lit (.int .u8 49), .lit (.int .u8 28), .lit (.int .u8 3), .lit (.int .u8 61), .lit (.int .u8 58), .lit (.int .u8 42), .lit (.int .u8 50), .lit (.int .u8 38), .lit (.int .u8 29), .lit (.int .u8 17), .lit (.int .u8 4), .lit (.int .u8 62), .lit (.int .u8 47), .lit (.int .u8 59), .lit (.int .u8 36), .lit (.int .u8 45), .lit (.int .u8 43), .lit (.int .u8 51), .lit (.int .u8 22), .lit (.int .u8 53), .lit (.int .u8 39), .lit (.int .u8 33), .lit (.int .u8 30), .lit (.int .u8 24), .lit (.int .u8 18), .lit (.int .u8 12), .lit (.int .u8 5), .lit (.int .u8 63), .lit (.int .u8 55), .lit (.int .u8 48), .lit (.int .u8 27), .lit (.int .u8 60), .lit (.int .u8 41), .lit (.int .u8 37), .lit (.int .u8 16), .lit (.int .u8 46), .lit (.int .u8 35), .lit (.int .u8 44), .lit (.int .u8 21), .lit (.int .u8 52), .lit (.int .u8 32), .lit (.int .u8 23), .lit (.int .u8 11), .lit (.int .u8 54), .lit (.int .u8 26), .lit (.int .u8 40), .lit (.int .u8 15), .lit (.int .u8 34), .lit (.int .u8 20), .lit (.int .u8 31), .lit (.int .u8 10), .lit (.int .u8 25), .lit (.int .u8 14), .lit (.int .u8 19), .lit (.int .u8 9), .lit (.int .u8 13), .lit (.int .u8 8), .lit (.int .u8 7), .lit (.int .u8 6)]
def laid_internal_strconv_uint64pow10 {H : Type} : DataW H := .agg [.lit (.int .u64 1), .lit (.int .u64 10), .lit (.int .u64 100), .lit (.int .u64 1000), .lit (.int .u64 10000), .lit (.int .u64 100000), .lit (.int .u64 1000000), .lit (.int .u64 10000000), .lit (.int .u64 100000000), .lit (.int .u64 1000000000), .lit (.int .u64 10000000000), .lit (.int .u64 100000000000), .lit (.int .u64 1000000000000), .lit (.int .u64 10000000000000), .lit (.int .u64 100000000000000), .lit (.int .u64 1000000000000000), .lit (.int .u64 10000000000000000), .lit (.int .u64 100000000000000000), .lit (.int .u64 1000000000000000000), .lit (.int .u64 10000000000000000000)]
def laid_loop_example_surelywrong_impl_errNoExit {H : Type} : DataW H := .iface "*errors.errorString" (.ptr (.agg [.lit (.string [110, 111, 32, 101, 120, 105, 116])]))
def laid_loop_example_surelywrong_impl_comparedWithNumbers {H : Type} : DataW H := .slice [.lit (.string [61, 48]), .lit (.string [61, 49]), .lit (.string [61, 50]), .lit (.string [35, 48]), .lit (.string [35, 49]), .lit (.string [35, 50]), .lit (.string [60, 49]), .lit (.string [60, 50])] []
def laid_loop_example_surelywrong_impl_comparedVariables {H : Type} : DataW H := .slice [.lit (.string [120, 61, 121]), .lit (.string [120, 35, 121]), .lit (.string [120, 60, 121]), .lit (.string [121, 60, 120])] []
def laid_loop_example_surelywrong_impl_errNoProgram {H : Type} : DataW H := .iface "*errors.errorString" (.ptr (.agg [.lit (.string [110, 111, 32, 112, 114, 111, 103, 114, 97, 109])]))
def laid_loop_example_surelywrong_impl_assignments {H : Type} : DataW H := .slice [.lit (.string [120, 48]), .lit (.string [120, 49]), .lit (.string [120, 50]), .lit (.string [120, 121]), .lit (.string [120, 43]), .lit (.string [120, 63]), .lit (.string [121, 48]), .lit (.string [121, 49]), .lit (.string [121, 50]), .lit (.string [121, 120]), .lit (.string [121, 43]), .lit (.string [121, 63])] []

/-- 'laws.FnNumbers': WHATEVER THE INPUT: true; the input reads as it did. -/
def fnNumbersSpec : ChangeSpec := { name := "fnNumbers", vars := ["loop.example/surelywrong/impl.errNoExit"], fn := fun _ => fun
  | [d1, d2, g1] => { results := [.lit (.bool true)], args := [d1, d2], vars := [g1] }
  | _ => none }
def fnNumbersRow : OpenClaim := { program := "ytgkgkaapjljpcaadoor", sum := "8ea28b1173e581c55cf307d4c890d1544792fbf192583d4bf9cd6845ddda0c62", func := "loop.example/surelywrong/laws.FnNumbers", spec := "fnNumbers", inPlace := ["internal/abi.NoEscape", "internal/bytealg.MakeNoZero"], recurses := true, named := ["loop.example/surelywrong/impl.errNoExit", "internal/strconv.uint64pow10", "math/bits.deBruijn32tab", "math/bits.deBruijn64tab"], ifaces := true, apart := false, laid := [("math/bits.deBruijn32tab", laid_math_bits_deBruijn32tab), ("math/bits.deBruijn64tab", laid_math_bits_deBruijn64tab), ("internal/strconv.uint64pow10", laid_internal_strconv_uint64pow10), ("loop.example/surelywrong/impl.errNoExit", laid_loop_example_surelywrong_impl_errNoExit)] }
def FnNumbersSaid : Prop := fnNumbersRow.holds Tryd.pinned (OpenSpec.ofChange fnNumbersSpec)

/-- ITS FALSE NEIGHBOUR: 'it returns false'. Refute it at one input. -/
def fnNumbersWrong : ChangeSpec := { name := "fnNumbers", vars := ["loop.example/surelywrong/impl.errNoExit"], fn := fun _ => fun
  | [d1, d2, g1] => { results := [.lit (.bool false)], args := [d1, d2], vars := [g1] }
  | _ => none }
def FnNumbersWrongFalsely : Prop := fnNumbersRow.holds Tryd.pinned (OpenSpec.ofChange fnNumbersWrong)

/-- 'laws.FnExactFormatNumbers': WHATEVER THE INPUT: true; the input reads as it did. -/
def fnExactFormatNumbersSpec : ChangeSpec := { name := "fnExactFormatNumbers", fn := fun _ => fun
  | [d] => { results := [.lit (.bool true)], args := [d] }
  | _ => none }
def fnExactFormatNumbersRow : OpenClaim := { program := "ytgkgkaapjljpcaadoor", sum := "8ea28b1173e581c55cf307d4c890d1544792fbf192583d4bf9cd6845ddda0c62", func := "loop.example/surelywrong/laws.FnExactFormatNumbers", spec := "fnExactFormatNumbers", inPlace := ["internal/abi.NoEscape", "internal/bytealg.MakeNoZero"], recurses := true, named := ["internal/strconv.uint64pow10", "math/bits.deBruijn32tab", "math/bits.deBruijn64tab"], apart := false, laid := [("math/bits.deBruijn32tab", laid_math_bits_deBruijn32tab), ("math/bits.deBruijn64tab", laid_math_bits_deBruijn64tab), ("internal/strconv.uint64pow10", laid_internal_strconv_uint64pow10)] }
def FnExactFormatNumbersSaid : Prop := fnExactFormatNumbersRow.holds Tryd.pinned (OpenSpec.ofChange fnExactFormatNumbersSpec)

/-- ITS FALSE NEIGHBOUR: 'it returns false'. Refute it at one input. -/
def fnExactFormatNumbersWrong : ChangeSpec := { name := "fnExactFormatNumbers", fn := fun _ => fun
  | [d] => { results := [.lit (.bool false)], args := [d] }
  | _ => none }
def FnExactFormatNumbersWrongFalsely : Prop := fnExactFormatNumbersRow.holds Tryd.pinned (OpenSpec.ofChange fnExactFormatNumbersWrong)

/-- 'laws.FnExactParseExit': WHATEVER THE INPUT: true; the input reads as it did. -/
def fnExactParseExitSpec : ChangeSpec := { name := "fnExactParseExit", vars := ["loop.example/surelywrong/impl.errNoExit"], fn := fun _ => fun
  | [d, g1] => { results := [.lit (.bool true)], args := [d], vars := [g1] }
  | _ => none }
def fnExactParseExitRow : OpenClaim := { program := "ytgkgkaapjljpcaadoor", sum := "8ea28b1173e581c55cf307d4c890d1544792fbf192583d4bf9cd6845ddda0c62", func := "loop.example/surelywrong/laws.FnExactParseExit", spec := "fnExactParseExit", named := ["loop.example/surelywrong/impl.errNoExit"], ifaces := true, apart := false, laid := [("loop.example/surelywrong/impl.errNoExit", laid_loop_example_surelywrong_impl_errNoExit)] }
def FnExactParseExitSaid : Prop := fnExactParseExitRow.holds Tryd.pinned (OpenSpec.ofChange fnExactParseExitSpec)

/-- ITS FALSE NEIGHBOUR: 'it returns false'. Refute it at one input. -/
def fnExactParseExitWrong : ChangeSpec := { name := "fnExactParseExit", vars := ["loop.example/surelywrong/impl.errNoExit"], fn := fun _ => fun
  | [d, g1] => { results := [.lit (.bool false)], args := [d], vars := [g1] }
  | _ => none }
def FnExactParseExitWrongFalsely : Prop := fnExactParseExitRow.holds Tryd.pinned (OpenSpec.ofChange fnExactParseExitWrong)

/-- 'laws.FnExactIsBelow': WHATEVER THE INPUT: true; the input reads as it did. -/
def fnExactIsBelowSpec : ChangeSpec := { name := "fnExactIsBelow", vars := ["loop.example/surelywrong/impl.errNoProgram", "loop.example/surelywrong/impl.assignments", "loop.example/surelywrong/impl.comparedVariables", "loop.example/surelywrong/impl.comparedWithNumbers"], fn := fun _ => fun
  | [d1, d2, g1, g2, g3, g4] => { results := [.lit (.bool true)], args := [d1, d2], vars := [g1, g2, g3, g4] }
  | _ => none }
def fnExactIsBelowRow : OpenClaim := { program := "ytgkgkaapjljpcaadoor", sum := "8ea28b1173e581c55cf307d4c890d1544792fbf192583d4bf9cd6845ddda0c62", func := "loop.example/surelywrong/laws.FnExactIsBelow", spec := "fnExactIsBelow", unfollowed := true, recurses := true, named := ["loop.example/surelywrong/impl.errNoProgram", "loop.example/surelywrong/impl.assignments", "loop.example/surelywrong/impl.comparedVariables", "loop.example/surelywrong/impl.comparedWithNumbers"], ifaces := true, apart := false, laid := [("loop.example/surelywrong/impl.comparedWithNumbers", laid_loop_example_surelywrong_impl_comparedWithNumbers), ("loop.example/surelywrong/impl.comparedVariables", laid_loop_example_surelywrong_impl_comparedVariables), ("loop.example/surelywrong/impl.errNoProgram", laid_loop_example_surelywrong_impl_errNoProgram), ("loop.example/surelywrong/impl.assignments", laid_loop_example_surelywrong_impl_assignments)] }
def FnExactIsBelowSaid : Prop := fnExactIsBelowRow.holds Tryd.pinned (OpenSpec.ofChange fnExactIsBelowSpec)

/-- ITS FALSE NEIGHBOUR: 'it returns false'. Refute it at one input. -/
def fnExactIsBelowWrong : ChangeSpec := { name := "fnExactIsBelow", vars := ["loop.example/surelywrong/impl.errNoProgram", "loop.example/surelywrong/impl.assignments", "loop.example/surelywrong/impl.comparedVariables", "loop.example/surelywrong/impl.comparedWithNumbers"], fn := fun _ => fun
  | [d1, d2, g1, g2, g3, g4] => { results := [.lit (.bool false)], args := [d1, d2], vars := [g1, g2, g3, g4] }
  | _ => none }
def FnExactIsBelowWrongFalsely : Prop := fnExactIsBelowRow.holds Tryd.pinned (OpenSpec.ofChange fnExactIsBelowWrong)

/-- 'laws.FnExactSimplify': WHATEVER THE INPUT: true; the input reads as it did. -/
def fnExactSimplifySpec : ChangeSpec := { name := "fnExactSimplify", vars := ["loop.example/surelywrong/impl.errNoProgram", "loop.example/surelywrong/impl.assignments", "loop.example/surelywrong/impl.comparedVariables", "loop.example/surelywrong/impl.comparedWithNumbers"], fn := fun _ => fun
  | [d, g1, g2, g3, g4] => { results := [.lit (.bool true)], args := [d], vars := [g1, g2, g3, g4] }
  | _ => none }
def fnExactSimplifyRow : OpenClaim := { program := "ytgkgkaapjljpcaadoor", sum := "8ea28b1173e581c55cf307d4c890d1544792fbf192583d4bf9cd6845ddda0c62", func := "loop.example/surelywrong/laws.FnExactSimplify", spec := "fnExactSimplify", unfollowed := true, recurses := true, named := ["loop.example/surelywrong/impl.errNoProgram", "loop.example/surelywrong/impl.assignments", "loop.example/surelywrong/impl.comparedVariables", "loop.example/surelywrong/impl.comparedWithNumbers"], ifaces := true, apart := false, laid := [("loop.example/surelywrong/impl.comparedWithNumbers", laid_loop_example_surelywrong_impl_comparedWithNumbers), ("loop.example/surelywrong/impl.comparedVariables", laid_loop_example_surelywrong_impl_comparedVariables), ("loop.example/surelywrong/impl.errNoProgram", laid_loop_example_surelywrong_impl_errNoProgram), ("loop.example/surelywrong/impl.assignments", laid_loop_example_surelywrong_impl_assignments)] }
def FnExactSimplifySaid : Prop := fnExactSimplifyRow.holds Tryd.pinned (OpenSpec.ofChange fnExactSimplifySpec)

/-- ITS FALSE NEIGHBOUR: 'it returns false'. Refute it at one input. -/
def fnExactSimplifyWrong : ChangeSpec := { name := "fnExactSimplify", vars := ["loop.example/surelywrong/impl.errNoProgram", "loop.example/surelywrong/impl.assignments", "loop.example/surelywrong/impl.comparedVariables", "loop.example/surelywrong/impl.comparedWithNumbers"], fn := fun _ => fun
  | [d, g1, g2, g3, g4] => { results := [.lit (.bool false)], args := [d], vars := [g1, g2, g3, g4] }
  | _ => none }
def FnExactSimplifyWrongFalsely : Prop := fnExactSimplifyRow.holds Tryd.pinned (OpenSpec.ofChange fnExactSimplifyWrong)

/-- 'laws.FnExactSimplerTop': WHATEVER THE INPUT: true; the input reads as it did. -/
def fnExactSimplerTopSpec : ChangeSpec := { name := "fnExactSimplerTop", vars := ["loop.example/surelywrong/impl.errNoProgram", "loop.example/surelywrong/impl.assignments", "loop.example/surelywrong/impl.comparedVariables", "loop.example/surelywrong/impl.comparedWithNumbers"], fn := fun _ => fun
  | [d, g1, g2, g3, g4] => { results := [.lit (.bool true)], args := [d], vars := [g1, g2, g3, g4] }
  | _ => none }
def fnExactSimplerTopRow : OpenClaim := { program := "ytgkgkaapjljpcaadoor", sum := "8ea28b1173e581c55cf307d4c890d1544792fbf192583d4bf9cd6845ddda0c62", func := "loop.example/surelywrong/laws.FnExactSimplerTop", spec := "fnExactSimplerTop", unfollowed := true, recurses := true, named := ["loop.example/surelywrong/impl.errNoProgram", "loop.example/surelywrong/impl.assignments", "loop.example/surelywrong/impl.comparedVariables", "loop.example/surelywrong/impl.comparedWithNumbers"], ifaces := true, apart := false, laid := [("loop.example/surelywrong/impl.comparedWithNumbers", laid_loop_example_surelywrong_impl_comparedWithNumbers), ("loop.example/surelywrong/impl.comparedVariables", laid_loop_example_surelywrong_impl_comparedVariables), ("loop.example/surelywrong/impl.errNoProgram", laid_loop_example_surelywrong_impl_errNoProgram), ("loop.example/surelywrong/impl.assignments", laid_loop_example_surelywrong_impl_assignments)] }
def FnExactSimplerTopSaid : Prop := fnExactSimplerTopRow.holds Tryd.pinned (OpenSpec.ofChange fnExactSimplerTopSpec)

/-- ITS FALSE NEIGHBOUR: 'it returns false'. Refute it at one input. -/
def fnExactSimplerTopWrong : ChangeSpec := { name := "fnExactSimplerTop", vars := ["loop.example/surelywrong/impl.errNoProgram", "loop.example/surelywrong/impl.assignments", "loop.example/surelywrong/impl.comparedVariables", "loop.example/surelywrong/impl.comparedWithNumbers"], fn := fun _ => fun
  | [d, g1, g2, g3, g4] => { results := [.lit (.bool false)], args := [d], vars := [g1, g2, g3, g4] }
  | _ => none }
def FnExactSimplerTopWrongFalsely : Prop := fnExactSimplerTopRow.holds Tryd.pinned (OpenSpec.ofChange fnExactSimplerTopWrong)

/-- 'laws.FnExactCountSimpler': WHATEVER THE INPUT: true; the input reads as it did. -/
def fnExactCountSimplerSpec : ChangeSpec := { name := "fnExactCountSimpler", vars := ["loop.example/surelywrong/impl.errNoProgram", "loop.example/surelywrong/impl.assignments", "loop.example/surelywrong/impl.comparedVariables", "loop.example/surelywrong/impl.comparedWithNumbers"], fn := fun _ => fun
  | [d, g1, g2, g3, g4] => { results := [.lit (.bool true)], args := [d], vars := [g1, g2, g3, g4] }
  | _ => none }
def fnExactCountSimplerRow : OpenClaim := { program := "ytgkgkaapjljpcaadoor", sum := "8ea28b1173e581c55cf307d4c890d1544792fbf192583d4bf9cd6845ddda0c62", func := "loop.example/surelywrong/laws.FnExactCountSimpler", spec := "fnExactCountSimpler", unfollowed := true, recurses := true, named := ["loop.example/surelywrong/impl.errNoProgram", "loop.example/surelywrong/impl.assignments", "loop.example/surelywrong/impl.comparedVariables", "loop.example/surelywrong/impl.comparedWithNumbers"], ifaces := true, apart := false, laid := [("loop.example/surelywrong/impl.comparedWithNumbers", laid_loop_example_surelywrong_impl_comparedWithNumbers), ("loop.example/surelywrong/impl.comparedVariables", laid_loop_example_surelywrong_impl_comparedVariables), ("loop.example/surelywrong/impl.errNoProgram", laid_loop_example_surelywrong_impl_errNoProgram), ("loop.example/surelywrong/impl.assignments", laid_loop_example_surelywrong_impl_assignments)] }
def FnExactCountSimplerSaid : Prop := fnExactCountSimplerRow.holds Tryd.pinned (OpenSpec.ofChange fnExactCountSimplerSpec)

/-- ITS FALSE NEIGHBOUR: 'it returns false'. Refute it at one input. -/
def fnExactCountSimplerWrong : ChangeSpec := { name := "fnExactCountSimpler", vars := ["loop.example/surelywrong/impl.errNoProgram", "loop.example/surelywrong/impl.assignments", "loop.example/surelywrong/impl.comparedVariables", "loop.example/surelywrong/impl.comparedWithNumbers"], fn := fun _ => fun
  | [d, g1, g2, g3, g4] => { results := [.lit (.bool false)], args := [d], vars := [g1, g2, g3, g4] }
  | _ => none }
def FnExactCountSimplerWrongFalsely : Prop := fnExactCountSimplerRow.holds Tryd.pinned (OpenSpec.ofChange fnExactCountSimplerWrong)

/-- 'laws.FnExactIsPlain': WHATEVER THE INPUT: true; the input reads as it did. -/
def fnExactIsPlainSpec : ChangeSpec := { name := "fnExactIsPlain", vars := ["loop.example/surelywrong/impl.errNoProgram", "loop.example/surelywrong/impl.assignments", "loop.example/surelywrong/impl.comparedVariables", "loop.example/surelywrong/impl.comparedWithNumbers"], fn := fun _ => fun
  | [d, g1, g2, g3, g4] => { results := [.lit (.bool true)], args := [d], vars := [g1, g2, g3, g4] }
  | _ => none }
def fnExactIsPlainRow : OpenClaim := { program := "ytgkgkaapjljpcaadoor", sum := "8ea28b1173e581c55cf307d4c890d1544792fbf192583d4bf9cd6845ddda0c62", func := "loop.example/surelywrong/laws.FnExactIsPlain", spec := "fnExactIsPlain", unfollowed := true, recurses := true, named := ["loop.example/surelywrong/impl.errNoProgram", "loop.example/surelywrong/impl.assignments", "loop.example/surelywrong/impl.comparedVariables", "loop.example/surelywrong/impl.comparedWithNumbers"], ifaces := true, apart := false, laid := [("loop.example/surelywrong/impl.comparedWithNumbers", laid_loop_example_surelywrong_impl_comparedWithNumbers), ("loop.example/surelywrong/impl.comparedVariables", laid_loop_example_surelywrong_impl_comparedVariables), ("loop.example/surelywrong/impl.errNoProgram", laid_loop_example_surelywrong_impl_errNoProgram), ("loop.example/surelywrong/impl.assignments", laid_loop_example_surelywrong_impl_assignments)] }
def FnExactIsPlainSaid : Prop := fnExactIsPlainRow.holds Tryd.pinned (OpenSpec.ofChange fnExactIsPlainSpec)

/-- ITS FALSE NEIGHBOUR: 'it returns false'. Refute it at one input. -/
def fnExactIsPlainWrong : ChangeSpec := { name := "fnExactIsPlain", vars := ["loop.example/surelywrong/impl.errNoProgram", "loop.example/surelywrong/impl.assignments", "loop.example/surelywrong/impl.comparedVariables", "loop.example/surelywrong/impl.comparedWithNumbers"], fn := fun _ => fun
  | [d, g1, g2, g3, g4] => { results := [.lit (.bool false)], args := [d], vars := [g1, g2, g3, g4] }
  | _ => none }
def FnExactIsPlainWrongFalsely : Prop := fnExactIsPlainRow.holds Tryd.pinned (OpenSpec.ofChange fnExactIsPlainWrong)

/-- 'laws.FnExactShortest': WHATEVER THE INPUT: true; the input reads as it did. -/
def fnExactShortestSpec : ChangeSpec := { name := "fnExactShortest", vars := ["loop.example/surelywrong/impl.errNoProgram", "loop.example/surelywrong/impl.assignments", "loop.example/surelywrong/impl.comparedVariables", "loop.example/surelywrong/impl.comparedWithNumbers"], fn := fun _ => fun
  | [d, g1, g2, g3, g4] => { results := [.lit (.bool true)], args := [d], vars := [g1, g2, g3, g4] }
  | _ => none }
def fnExactShortestRow : OpenClaim := { program := "ytgkgkaapjljpcaadoor", sum := "8ea28b1173e581c55cf307d4c890d1544792fbf192583d4bf9cd6845ddda0c62", func := "loop.example/surelywrong/laws.FnExactShortest", spec := "fnExactShortest", unfollowed := true, recurses := true, named := ["loop.example/surelywrong/impl.errNoProgram", "loop.example/surelywrong/impl.assignments", "loop.example/surelywrong/impl.comparedVariables", "loop.example/surelywrong/impl.comparedWithNumbers"], ifaces := true, apart := false, laid := [("loop.example/surelywrong/impl.comparedWithNumbers", laid_loop_example_surelywrong_impl_comparedWithNumbers), ("loop.example/surelywrong/impl.comparedVariables", laid_loop_example_surelywrong_impl_comparedVariables), ("loop.example/surelywrong/impl.errNoProgram", laid_loop_example_surelywrong_impl_errNoProgram), ("loop.example/surelywrong/impl.assignments", laid_loop_example_surelywrong_impl_assignments)] }
def FnExactShortestSaid : Prop := fnExactShortestRow.holds Tryd.pinned (OpenSpec.ofChange fnExactShortestSpec)

/-- ITS FALSE NEIGHBOUR: 'it returns false'. Refute it at one input. -/
def fnExactShortestWrong : ChangeSpec := { name := "fnExactShortest", vars := ["loop.example/surelywrong/impl.errNoProgram", "loop.example/surelywrong/impl.assignments", "loop.example/surelywrong/impl.comparedVariables", "loop.example/surelywrong/impl.comparedWithNumbers"], fn := fun _ => fun
  | [d, g1, g2, g3, g4] => { results := [.lit (.bool false)], args := [d], vars := [g1, g2, g3, g4] }
  | _ => none }
def FnExactShortestWrongFalsely : Prop := fnExactShortestRow.holds Tryd.pinned (OpenSpec.ofChange fnExactShortestWrong)

/- THE SECOND FORM. 'bulk': how many values and letters a reading holds, each counted each time it is reached (what is shared counts as often as it is met; a slice's spare places count too). A statement '..UptoSaid' is the law's where the arguments, and the package variables that the reading takes, are together of bulk at most 1048576: NARROWER than '..Said'. Prove '..Said' where nothing that the law and all that it calls make is longer than what came in: it says more and counts as full. Else prove '..UptoSaid'. A law counts once. -/
mutual
def uptoBulk {H : Type} : DataW H → Nat
  | .lit (.string bytes) => bytes.length + 1
  | .lit _ => 1
  | .nil => 1
  | .ptr d => uptoBulk d + 1
  | .slice elems spare => uptoBulkAll elems + uptoBulkAll spare + 1
  | .agg parts => uptoBulkAll parts + 1
  | .iface _ d => uptoBulk d + 1
  | .map entries => uptoBulkEntries entries + 1
  | .held _ => 1
def uptoBulkAll {H : Type} : List (DataW H) → Nat
  | [] => 0
  | d :: r => uptoBulk d + uptoBulkAll r
def uptoBulkEntries {H : Type} : List (Lit × DataW H) → Nat
  | [] => 0
  | x :: r => uptoBulkEntry x + uptoBulkEntries r
def uptoBulkEntry {H : Type} : Lit × DataW H → Nat
  | (.string bytes, d) => bytes.length + uptoBulk d + 1
  | (_, d) => uptoBulk d + 1
 end
def uptoSmall : (H : Type) → List (DataW H) → Bool := fun _ ds => decide (uptoBulkAll ds ≤ 1048576)
def OpenSpec.upto (s : _root_.Go.ChangeSpec) : _root_.Go.OpenSpec := { _root_.Go.OpenSpec.ofChange s with cond := some uptoSmall }

/-- 'laws.FnNumbers', WHERE WHAT IT READS IS OF BULK AT MOST 1048576: true; the input reads as it did. -/
def fnNumbersUptoRow : OpenClaim := { program := "ytgkgkaapjljpcaadoor", sum := "8ea28b1173e581c55cf307d4c890d1544792fbf192583d4bf9cd6845ddda0c62", func := "loop.example/surelywrong/laws.FnNumbers", spec := "fnNumbers", inPlace := ["internal/abi.NoEscape", "internal/bytealg.MakeNoZero"], recurses := true, named := ["loop.example/surelywrong/impl.errNoExit", "internal/strconv.uint64pow10", "math/bits.deBruijn32tab", "math/bits.deBruijn64tab"], ifaces := true, apart := false, laid := [("math/bits.deBruijn32tab", laid_math_bits_deBruijn32tab), ("math/bits.deBruijn64tab", laid_math_bits_deBruijn64tab), ("internal/strconv.uint64pow10", laid_internal_strconv_uint64pow10), ("loop.example/surelywrong/impl.errNoExit", laid_loop_example_surelywrong_impl_errNoExit)], narrowed := true }
def FnNumbersUptoSaid : Prop := fnNumbersUptoRow.holds Tryd.pinned (OpenSpec.upto fnNumbersSpec)

/-- 'laws.FnExactFormatNumbers', WHERE WHAT IT READS IS OF BULK AT MOST 1048576: true; the input reads as it did. -/
def fnExactFormatNumbersUptoRow : OpenClaim := { program := "ytgkgkaapjljpcaadoor", sum := "8ea28b1173e581c55cf307d4c890d1544792fbf192583d4bf9cd6845ddda0c62", func := "loop.example/surelywrong/laws.FnExactFormatNumbers", spec := "fnExactFormatNumbers", inPlace := ["internal/abi.NoEscape", "internal/bytealg.MakeNoZero"], recurses := true, named := ["internal/strconv.uint64pow10", "math/bits.deBruijn32tab", "math/bits.deBruijn64tab"], apart := false, laid := [("math/bits.deBruijn32tab", laid_math_bits_deBruijn32tab), ("math/bits.deBruijn64tab", laid_math_bits_deBruijn64tab), ("internal/strconv.uint64pow10", laid_internal_strconv_uint64pow10)], narrowed := true }
def FnExactFormatNumbersUptoSaid : Prop := fnExactFormatNumbersUptoRow.holds Tryd.pinned (OpenSpec.upto fnExactFormatNumbersSpec)

/-- 'laws.FnExactParseExit', WHERE WHAT IT READS IS OF BULK AT MOST 1048576: true; the input reads as it did. -/
def fnExactParseExitUptoRow : OpenClaim := { program := "ytgkgkaapjljpcaadoor", sum := "8ea28b1173e581c55cf307d4c890d1544792fbf192583d4bf9cd6845ddda0c62", func := "loop.example/surelywrong/laws.FnExactParseExit", spec := "fnExactParseExit", named := ["loop.example/surelywrong/impl.errNoExit"], ifaces := true, apart := false, laid := [("loop.example/surelywrong/impl.errNoExit", laid_loop_example_surelywrong_impl_errNoExit)], narrowed := true }
def FnExactParseExitUptoSaid : Prop := fnExactParseExitUptoRow.holds Tryd.pinned (OpenSpec.upto fnExactParseExitSpec)

/-- 'laws.FnExactIsBelow', WHERE WHAT IT READS IS OF BULK AT MOST 1048576: true; the input reads as it did. -/
def fnExactIsBelowUptoRow : OpenClaim := { program := "ytgkgkaapjljpcaadoor", sum := "8ea28b1173e581c55cf307d4c890d1544792fbf192583d4bf9cd6845ddda0c62", func := "loop.example/surelywrong/laws.FnExactIsBelow", spec := "fnExactIsBelow", unfollowed := true, recurses := true, named := ["loop.example/surelywrong/impl.errNoProgram", "loop.example/surelywrong/impl.assignments", "loop.example/surelywrong/impl.comparedVariables", "loop.example/surelywrong/impl.comparedWithNumbers"], ifaces := true, apart := false, laid := [("loop.example/surelywrong/impl.comparedWithNumbers", laid_loop_example_surelywrong_impl_comparedWithNumbers), ("loop.example/surelywrong/impl.comparedVariables", laid_loop_example_surelywrong_impl_comparedVariables), ("loop.example/surelywrong/impl.errNoProgram", laid_loop_example_surelywrong_impl_errNoProgram), ("loop.example/surelywrong/impl.assignments", laid_loop_example_surelywrong_impl_assignments)], narrowed := true }
def FnExactIsBelowUptoSaid : Prop := fnExactIsBelowUptoRow.holds Tryd.pinned (OpenSpec.upto fnExactIsBelowSpec)

/-- 'laws.FnExactSimplify', WHERE WHAT IT READS IS OF BULK AT MOST 1048576: true; the input reads as it did. -/
def fnExactSimplifyUptoRow : OpenClaim := { program := "ytgkgkaapjljpcaadoor", sum := "8ea28b1173e581c55cf307d4c890d1544792fbf192583d4bf9cd6845ddda0c62", func := "loop.example/surelywrong/laws.FnExactSimplify", spec := "fnExactSimplify", unfollowed := true, recurses := true, named := ["loop.example/surelywrong/impl.errNoProgram", "loop.example/surelywrong/impl.assignments", "loop.example/surelywrong/impl.comparedVariables", "loop.example/surelywrong/impl.comparedWithNumbers"], ifaces := true, apart := false, laid := [("loop.example/surelywrong/impl.comparedWithNumbers", laid_loop_example_surelywrong_impl_comparedWithNumbers), ("loop.example/surelywrong/impl.comparedVariables", laid_loop_example_surelywrong_impl_comparedVariables), ("loop.example/surelywrong/impl.errNoProgram", laid_loop_example_surelywrong_impl_errNoProgram), ("loop.example/surelywrong/impl.assignments", laid_loop_example_surelywrong_impl_assignments)], narrowed := true }
def FnExactSimplifyUptoSaid : Prop := fnExactSimplifyUptoRow.holds Tryd.pinned (OpenSpec.upto fnExactSimplifySpec)

/-- 'laws.FnExactSimplerTop', WHERE WHAT IT READS IS OF BULK AT MOST 1048576: true; the input reads as it did. -/
def fnExactSimplerTopUptoRow : OpenClaim := { program := "ytgkgkaapjljpcaadoor", sum := "8ea28b1173e581c55cf307d4c890d1544792fbf192583d4bf9cd6845ddda0c62", func := "loop.example/surelywrong/laws.FnExactSimplerTop", spec := "fnExactSimplerTop", unfollowed := true, recurses := true, named := ["loop.example/surelywrong/impl.errNoProgram", "loop.example/surelywrong/impl.assignments", "loop.example/surelywrong/impl.comparedVariables", "loop.example/surelywrong/impl.comparedWithNumbers"], ifaces := true, apart := false, laid := [("loop.example/surelywrong/impl.comparedWithNumbers", laid_loop_example_surelywrong_impl_comparedWithNumbers), ("loop.example/surelywrong/impl.comparedVariables", laid_loop_example_surelywrong_impl_comparedVariables), ("loop.example/surelywrong/impl.errNoProgram", laid_loop_example_surelywrong_impl_errNoProgram), ("loop.example/surelywrong/impl.assignments", laid_loop_example_surelywrong_impl_assignments)], narrowed := true }
def FnExactSimplerTopUptoSaid : Prop := fnExactSimplerTopUptoRow.holds Tryd.pinned (OpenSpec.upto fnExactSimplerTopSpec)

/-- 'laws.FnExactCountSimpler', WHERE WHAT IT READS IS OF BULK AT MOST 1048576: true; the input reads as it did. -/
def fnExactCountSimplerUptoRow : OpenClaim := { program := "ytgkgkaapjljpcaadoor", sum := "8ea28b1173e581c55cf307d4c890d1544792fbf192583d4bf9cd6845ddda0c62", func := "loop.example/surelywrong/laws.FnExactCountSimpler", spec := "fnExactCountSimpler", unfollowed := true, recurses := true, named := ["loop.example/surelywrong/impl.errNoProgram", "loop.example/surelywrong/impl.assignments", "loop.example/surelywrong/impl.comparedVariables", "loop.example/surelywrong/impl.comparedWithNumbers"], ifaces := true, apart := false, laid := [("loop.example/surelywrong/impl.comparedWithNumbers", laid_loop_example_surelywrong_impl_comparedWithNumbers), ("loop.example/surelywrong/impl.comparedVariables", laid_loop_example_surelywrong_impl_comparedVariables), ("loop.example/surelywrong/impl.errNoProgram", laid_loop_example_surelywrong_impl_errNoProgram), ("loop.example/surelywrong/impl.assignments", laid_loop_example_surelywrong_impl_assignments)], narrowed := true }
def FnExactCountSimplerUptoSaid : Prop := fnExactCountSimplerUptoRow.holds Tryd.pinned (OpenSpec.upto fnExactCountSimplerSpec)

/-- 'laws.FnExactIsPlain', WHERE WHAT IT READS IS OF BULK AT MOST 1048576: true; the input reads as it did. -/
def fnExactIsPlainUptoRow : OpenClaim := { program := "ytgkgkaapjljpcaadoor", sum := "8ea28b1173e581c55cf307d4c890d1544792fbf192583d4bf9cd6845ddda0c62", func := "loop.example/surelywrong/laws.FnExactIsPlain", spec := "fnExactIsPlain", unfollowed := true, recurses := true, named := ["loop.example/surelywrong/impl.errNoProgram", "loop.example/surelywrong/impl.assignments", "loop.example/surelywrong/impl.comparedVariables", "loop.example/surelywrong/impl.comparedWithNumbers"], ifaces := true, apart := false, laid := [("loop.example/surelywrong/impl.comparedWithNumbers", laid_loop_example_surelywrong_impl_comparedWithNumbers), ("loop.example/surelywrong/impl.comparedVariables", laid_loop_example_surelywrong_impl_comparedVariables), ("loop.example/surelywrong/impl.errNoProgram", laid_loop_example_surelywrong_impl_errNoProgram), ("loop.example/surelywrong/impl.assignments", laid_loop_example_surelywrong_impl_assignments)], narrowed := true }
def FnExactIsPlainUptoSaid : Prop := fnExactIsPlainUptoRow.holds Tryd.pinned (OpenSpec.upto fnExactIsPlainSpec)

/-- 'laws.FnExactShortest', WHERE WHAT IT READS IS OF BULK AT MOST 1048576: true; the input reads as it did. -/
def fnExactShortestUptoRow : OpenClaim := { program := "ytgkgkaapjljpcaadoor", sum := "8ea28b1173e581c55cf307d4c890d1544792fbf192583d4bf9cd6845ddda0c62", func := "loop.example/surelywrong/laws.FnExactShortest", spec := "fnExactShortest", unfollowed := true, recurses := true, named := ["loop.example/surelywrong/impl.errNoProgram", "loop.example/surelywrong/impl.assignments", "loop.example/surelywrong/impl.comparedVariables", "loop.example/surelywrong/impl.comparedWithNumbers"], ifaces := true, apart := false, laid := [("loop.example/surelywrong/impl.comparedWithNumbers", laid_loop_example_surelywrong_impl_comparedWithNumbers), ("loop.example/surelywrong/impl.comparedVariables", laid_loop_example_surelywrong_impl_comparedVariables), ("loop.example/surelywrong/impl.errNoProgram", laid_loop_example_surelywrong_impl_errNoProgram), ("loop.example/surelywrong/impl.assignments", laid_loop_example_surelywrong_impl_assignments)], narrowed := true }
def FnExactShortestUptoSaid : Prop := fnExactShortestUptoRow.holds Tryd.pinned (OpenSpec.upto fnExactShortestSpec)

end Rows
end Go.Proofs.YtgkgkaapjljpcaaDoor
