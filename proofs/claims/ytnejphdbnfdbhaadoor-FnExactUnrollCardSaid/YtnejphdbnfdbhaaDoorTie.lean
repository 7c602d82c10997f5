/-
  DERIVED. GIVEN WITH THE SEED: THE PROGRAM's TIES (one call each: nine closed facts by the kernel) AND EACH ROW's TIE, after the 31st guide's Derived/Test/Toyas{Tie, Card}.lean. No idea stands in it: it is a product of the set-up. Laid BY PROGRAM, IN A SANDBOX (cutbox-door.mjs). By AI agents, Wed Nov 11 2026. No macro, syntax, notation, axiom, sorry.
-/
import Derived.Test.YtnejphdbnfdbhaaDoorRows
import Derived.LaidByTextLater
import Derived.SevenTiedAt
import Derived.LaidSub
import Derived.LaidOnce
namespace Go.Proofs.YtnejphdbnfdbhaaDoor
open Go
set_option maxRecDepth 100000
theorem seatTie1 : Tryd.prog.laidByTextLater [("loop.example/surelywrong/impl.comparedWithNumbers", Rows.laid_loop_example_surelywrong_impl_comparedWithNumbers), ("loop.example/surelywrong/impl.comparedVariables", Rows.laid_loop_example_surelywrong_impl_comparedVariables), ("loop.example/surelywrong/impl.errNoProgram", Rows.laid_loop_example_surelywrong_impl_errNoProgram), ("loop.example/surelywrong/impl.assignments", Rows.laid_loop_example_surelywrong_impl_assignments)] [.data, .widerDeep, .sentinel, .widerDeep] true :=
  Program.laidByTextLater_by_one 43 8 13 (by kernel_rfl) (by kernel_rfl) (by kernel_rfl) (by kernel_rfl) (by kernel_rfl) (by kernel_rfl) (fun _ _ => by kernel_rfl)
theorem noOwnUnsafe : Tryd.pinned.checked.prog.headLifts.contains "ownunsafe" = false := by kernel_rfl
theorem tie : Tryd.prog.laidByTextLater [("loop.example/surelywrong/impl.comparedWithNumbers", Rows.laid_loop_example_surelywrong_impl_comparedWithNumbers), ("loop.example/surelywrong/impl.comparedVariables", Rows.laid_loop_example_surelywrong_impl_comparedVariables), ("loop.example/surelywrong/impl.errNoProgram", Rows.laid_loop_example_surelywrong_impl_errNoProgram), ("loop.example/surelywrong/impl.assignments", Rows.laid_loop_example_surelywrong_impl_assignments)] [.data, .widerDeep, .sentinel, .widerDeep] true :=
  Program.laidByTextLater.sub seatTie1 ["loop.example/surelywrong/impl.comparedWithNumbers", "loop.example/surelywrong/impl.comparedVariables", "loop.example/surelywrong/impl.errNoProgram", "loop.example/surelywrong/impl.assignments"] (by kernel_rfl) (by kernel_rfl)
theorem fnExactReachedIn_row_tie : Rows.fnExactReachedInRow.laidByTextAt .later Tryd.pinned [.data, .widerDeep, .sentinel, .widerDeep] true :=
  OpenClaim.laidByTextAt_later rfl rfl tie noOwnUnsafe
theorem fnExactUnroll_row_tie : Rows.fnExactUnrollRow.laidByTextAt .later Tryd.pinned [.data, .widerDeep, .sentinel, .widerDeep] true :=
  OpenClaim.laidByTextAt_later rfl rfl tie noOwnUnsafe
theorem fnExactTimesFor_row_tie : Rows.fnExactTimesForRow.laidByTextAt .later Tryd.pinned [.data, .widerDeep, .sentinel, .widerDeep] true :=
  OpenClaim.laidByTextAt_later rfl rfl tie noOwnUnsafe
theorem fnExactTimesToFail_row_tie : Rows.fnExactTimesToFailRow.laidByTextAt .later Tryd.pinned [.data, .widerDeep, .sentinel, .widerDeep] true :=
  OpenClaim.laidByTextAt_later rfl rfl tie noOwnUnsafe
theorem fnExactCutLoops_row_tie : Rows.fnExactCutLoopsRow.laidByTextAt .later Tryd.pinned [.data, .widerDeep, .sentinel, .widerDeep] true :=
  OpenClaim.laidByTextAt_later rfl rfl tie noOwnUnsafe
theorem fnExactReachedInUpto_row_tie : Rows.fnExactReachedInUptoRow.laidByTextAt .later Tryd.pinned [.data, .widerDeep, .sentinel, .widerDeep] true :=
  OpenClaim.laidByTextAt_later rfl rfl tie noOwnUnsafe
theorem fnExactUnrollUpto_row_tie : Rows.fnExactUnrollUptoRow.laidByTextAt .later Tryd.pinned [.data, .widerDeep, .sentinel, .widerDeep] true :=
  OpenClaim.laidByTextAt_later rfl rfl tie noOwnUnsafe
theorem fnExactTimesForUpto_row_tie : Rows.fnExactTimesForUptoRow.laidByTextAt .later Tryd.pinned [.data, .widerDeep, .sentinel, .widerDeep] true :=
  OpenClaim.laidByTextAt_later rfl rfl tie noOwnUnsafe
theorem fnExactTimesToFailUpto_row_tie : Rows.fnExactTimesToFailUptoRow.laidByTextAt .later Tryd.pinned [.data, .widerDeep, .sentinel, .widerDeep] true :=
  OpenClaim.laidByTextAt_later rfl rfl tie noOwnUnsafe
theorem fnExactCutLoopsUpto_row_tie : Rows.fnExactCutLoopsUptoRow.laidByTextAt .later Tryd.pinned [.data, .widerDeep, .sentinel, .widerDeep] true :=
  OpenClaim.laidByTextAt_later rfl rfl tie noOwnUnsafe
end Go.Proofs.YtnejphdbnfdbhaaDoor
