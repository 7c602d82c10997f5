/-
  DERIVED. GIVEN WITH THE SEED: THE PROGRAM's TIES (one call each: nine closed facts by the kernel) AND EACH ROW's TIE, after the 31st guide's Derived/Test/Toyas{Tie, Card}.lean. No idea stands in it: it is a product of the set-up. Laid BY PROGRAM, IN A SANDBOX (cutbox-door.mjs). By AI agents, Wed Nov 11 2026. No macro, syntax, notation, axiom, sorry.
-/
import Derived.Test.YtgdgbjnmibkmhaaGreatDoorRows
import Derived.LaidByTextLater
import Derived.SevenTiedAt
import Derived.LaidSub
import Derived.LaidOnce
namespace Go.Proofs.YtgdgbjnmibkmhaaGreatDoor
open Go
set_option maxRecDepth 100000
theorem seatTie1 : Tryz.prog.laidByTextLater [("math/bits.deBruijn32tab", Rows.laid_math_bits_deBruijn32tab), ("math/bits.deBruijn64tab", Rows.laid_math_bits_deBruijn64tab), ("internal/strconv.uint64pow10", Rows.laid_internal_strconv_uint64pow10), ("loop.example/surelywrong/impl.comparedWithNumbers", Rows.laid_loop_example_surelywrong_impl_comparedWithNumbers), ("loop.example/surelywrong/impl.comparedVariables", Rows.laid_loop_example_surelywrong_impl_comparedVariables), ("loop.example/surelywrong/impl.errNoProgram", Rows.laid_loop_example_surelywrong_impl_errNoProgram), ("loop.example/surelywrong/impl.assignments", Rows.laid_loop_example_surelywrong_impl_assignments), ("loop.example/surelywrong/impl.errNoTriple", Rows.laid_loop_example_surelywrong_impl_errNoTriple), ("loop.example/surelywrong/impl.errNoRule", Rows.laid_loop_example_surelywrong_impl_errNoRule), ("loop.example/surelywrong/impl.errNotBefore", Rows.laid_loop_example_surelywrong_impl_errNotBefore)] [.data, .data, .data, .data, .widerDeep, .sentinel, .widerDeep, .sentinel, .sentinel, .sentinel] true :=
  Program.laidByTextLater_by_one 115 8 65 (by kernel_rfl) (by kernel_rfl) (by kernel_rfl) (by kernel_rfl) (by kernel_rfl) (by kernel_rfl) (fun _ _ => by kernel_rfl)
theorem noOwnUnsafe : Tryz.pinned.checked.prog.headLifts.contains "ownunsafe" = false := by kernel_rfl
theorem tie : Tryz.prog.laidByTextLater [("loop.example/surelywrong/impl.comparedWithNumbers", Rows.laid_loop_example_surelywrong_impl_comparedWithNumbers), ("loop.example/surelywrong/impl.comparedVariables", Rows.laid_loop_example_surelywrong_impl_comparedVariables), ("loop.example/surelywrong/impl.errNoProgram", Rows.laid_loop_example_surelywrong_impl_errNoProgram), ("loop.example/surelywrong/impl.assignments", Rows.laid_loop_example_surelywrong_impl_assignments), ("loop.example/surelywrong/impl.errNoTriple", Rows.laid_loop_example_surelywrong_impl_errNoTriple), ("loop.example/surelywrong/impl.errNoRule", Rows.laid_loop_example_surelywrong_impl_errNoRule)] [.data, .widerDeep, .sentinel, .widerDeep, .sentinel, .sentinel] true :=
  Program.laidByTextLater.sub seatTie1 ["loop.example/surelywrong/impl.comparedWithNumbers", "loop.example/surelywrong/impl.comparedVariables", "loop.example/surelywrong/impl.errNoProgram", "loop.example/surelywrong/impl.assignments", "loop.example/surelywrong/impl.errNoTriple", "loop.example/surelywrong/impl.errNoRule"] (by kernel_rfl) (by kernel_rfl)
theorem fnExactLineHolds_row_tie : Rows.fnExactLineHoldsRow.laidByTextAt .later Tryz.pinned [.data, .widerDeep, .sentinel, .widerDeep, .sentinel, .sentinel] true :=
  OpenClaim.laidByTextAt_later rfl rfl tie noOwnUnsafe
theorem fnExactCheckProof_row_tie : Rows.fnExactCheckProofRow.laidByTextAt .later Tryz.pinned [.data, .widerDeep, .sentinel, .widerDeep, .sentinel, .sentinel] true :=
  OpenClaim.laidByTextAt_later rfl rfl tie noOwnUnsafe
theorem fnExactProves_row_tie : Rows.fnExactProvesRow.laidByTextAt .later Tryz.pinned [.data, .widerDeep, .sentinel, .widerDeep, .sentinel, .sentinel] true :=
  OpenClaim.laidByTextAt_later rfl rfl tie noOwnUnsafe
theorem fnExactNeededLines_row_tie : Rows.fnExactNeededLinesRow.laidByTextAt .later Tryz.pinned [.data, .widerDeep, .sentinel, .widerDeep, .sentinel, .sentinel] true :=
  OpenClaim.laidByTextAt_later rfl rfl tie noOwnUnsafe
theorem tie2 : Tryz.prog.laidByTextLater [("loop.example/surelywrong/impl.comparedWithNumbers", Rows.laid_loop_example_surelywrong_impl_comparedWithNumbers), ("loop.example/surelywrong/impl.comparedVariables", Rows.laid_loop_example_surelywrong_impl_comparedVariables), ("loop.example/surelywrong/impl.errNoProgram", Rows.laid_loop_example_surelywrong_impl_errNoProgram), ("loop.example/surelywrong/impl.assignments", Rows.laid_loop_example_surelywrong_impl_assignments), ("loop.example/surelywrong/impl.errNoTriple", Rows.laid_loop_example_surelywrong_impl_errNoTriple)] [.data, .widerDeep, .sentinel, .widerDeep, .sentinel] true :=
  Program.laidByTextLater.sub seatTie1 ["loop.example/surelywrong/impl.comparedWithNumbers", "loop.example/surelywrong/impl.comparedVariables", "loop.example/surelywrong/impl.errNoProgram", "loop.example/surelywrong/impl.assignments", "loop.example/surelywrong/impl.errNoTriple"] (by kernel_rfl) (by kernel_rfl)
theorem fnExactRulesUsed_row_tie : Rows.fnExactRulesUsedRow.laidByTextAt .later Tryz.pinned [.data, .widerDeep, .sentinel, .widerDeep, .sentinel] true :=
  OpenClaim.laidByTextAt_later rfl rfl tie2 noOwnUnsafe
theorem tie3 : Tryz.prog.laidByTextLater [("math/bits.deBruijn32tab", Rows.laid_math_bits_deBruijn32tab), ("math/bits.deBruijn64tab", Rows.laid_math_bits_deBruijn64tab), ("internal/strconv.uint64pow10", Rows.laid_internal_strconv_uint64pow10), ("loop.example/surelywrong/impl.comparedWithNumbers", Rows.laid_loop_example_surelywrong_impl_comparedWithNumbers), ("loop.example/surelywrong/impl.comparedVariables", Rows.laid_loop_example_surelywrong_impl_comparedVariables), ("loop.example/surelywrong/impl.errNoProgram", Rows.laid_loop_example_surelywrong_impl_errNoProgram), ("loop.example/surelywrong/impl.assignments", Rows.laid_loop_example_surelywrong_impl_assignments), ("loop.example/surelywrong/impl.errNoTriple", Rows.laid_loop_example_surelywrong_impl_errNoTriple), ("loop.example/surelywrong/impl.errNoRule", Rows.laid_loop_example_surelywrong_impl_errNoRule), ("loop.example/surelywrong/impl.errNotBefore", Rows.laid_loop_example_surelywrong_impl_errNotBefore)] [.data, .data, .data, .data, .widerDeep, .sentinel, .widerDeep, .sentinel, .sentinel, .sentinel] true :=
  Program.laidByTextLater.sub seatTie1 ["math/bits.deBruijn32tab", "math/bits.deBruijn64tab", "internal/strconv.uint64pow10", "loop.example/surelywrong/impl.comparedWithNumbers", "loop.example/surelywrong/impl.comparedVariables", "loop.example/surelywrong/impl.errNoProgram", "loop.example/surelywrong/impl.assignments", "loop.example/surelywrong/impl.errNoTriple", "loop.example/surelywrong/impl.errNoRule", "loop.example/surelywrong/impl.errNotBefore"] (by kernel_rfl) (by kernel_rfl)
theorem fnExactFormatProof_row_tie : Rows.fnExactFormatProofRow.laidByTextAt .later Tryz.pinned [.data, .data, .data, .data, .widerDeep, .sentinel, .widerDeep, .sentinel, .sentinel, .sentinel] true :=
  OpenClaim.laidByTextAt_later rfl rfl tie3 noOwnUnsafe
theorem fnExactLineHoldsUpto_row_tie : Rows.fnExactLineHoldsUptoRow.laidByTextAt .later Tryz.pinned [.data, .widerDeep, .sentinel, .widerDeep, .sentinel, .sentinel] true :=
  OpenClaim.laidByTextAt_later rfl rfl tie noOwnUnsafe
theorem fnExactCheckProofUpto_row_tie : Rows.fnExactCheckProofUptoRow.laidByTextAt .later Tryz.pinned [.data, .widerDeep, .sentinel, .widerDeep, .sentinel, .sentinel] true :=
  OpenClaim.laidByTextAt_later rfl rfl tie noOwnUnsafe
theorem fnExactProvesUpto_row_tie : Rows.fnExactProvesUptoRow.laidByTextAt .later Tryz.pinned [.data, .widerDeep, .sentinel, .widerDeep, .sentinel, .sentinel] true :=
  OpenClaim.laidByTextAt_later rfl rfl tie noOwnUnsafe
theorem fnExactRulesUsedUpto_row_tie : Rows.fnExactRulesUsedUptoRow.laidByTextAt .later Tryz.pinned [.data, .widerDeep, .sentinel, .widerDeep, .sentinel] true :=
  OpenClaim.laidByTextAt_later rfl rfl tie2 noOwnUnsafe
theorem fnExactFormatProofUpto_row_tie : Rows.fnExactFormatProofUptoRow.laidByTextAt .later Tryz.pinned [.data, .data, .data, .data, .widerDeep, .sentinel, .widerDeep, .sentinel, .sentinel, .sentinel] true :=
  OpenClaim.laidByTextAt_later rfl rfl tie3 noOwnUnsafe
theorem fnExactNeededLinesUpto_row_tie : Rows.fnExactNeededLinesUptoRow.laidByTextAt .later Tryz.pinned [.data, .widerDeep, .sentinel, .widerDeep, .sentinel, .sentinel] true :=
  OpenClaim.laidByTextAt_later rfl rfl tie noOwnUnsafe
end Go.Proofs.YtgdgbjnmibkmhaaGreatDoor
