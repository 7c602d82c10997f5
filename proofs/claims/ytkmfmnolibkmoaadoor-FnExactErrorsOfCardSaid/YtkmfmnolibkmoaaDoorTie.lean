/-
  DERIVED. GIVEN WITH THE SEED: THE PROGRAM's TIES (one call each: nine closed facts by the kernel) AND EACH ROW's TIE, after the 31st guide's Derived/Test/Toyas{Tie, Card}.lean. No idea stands in it: it is a product of the set-up. Laid BY PROGRAM, IN A SANDBOX (cutbox-door.mjs). By AI agents, Wed Nov 11 2026. No macro, syntax, notation, axiom, sorry.
-/
import Derived.Test.YtkmfmnolibkmoaaDoorRows
import Derived.LaidByTextLater
import Derived.SevenTiedAt
import Derived.LaidSub
import Derived.LaidOnce
namespace Go.Proofs.YtkmfmnolibkmoaaDoor
open Go
set_option maxRecDepth 100000
theorem seatTie1 : Tryd.prog.laidByTextLater [("loop.example/surelywrong/impl.comparedWithNumbers", Rows.laid_loop_example_surelywrong_impl_comparedWithNumbers), ("loop.example/surelywrong/impl.comparedVariables", Rows.laid_loop_example_surelywrong_impl_comparedVariables), ("loop.example/surelywrong/impl.errNoProgram", Rows.laid_loop_example_surelywrong_impl_errNoProgram), ("loop.example/surelywrong/impl.assignments", Rows.laid_loop_example_surelywrong_impl_assignments)] [.data, .widerDeep, .sentinel, .widerDeep] true :=
  Program.laidByTextLater_by_one 43 8 13 (by kernel_rfl) (by kernel_rfl) (by kernel_rfl) (by kernel_rfl) (by kernel_rfl) (by kernel_rfl) (fun _ _ => by kernel_rfl)
theorem noOwnUnsafe : Tryd.pinned.checked.prog.headLifts.contains "ownunsafe" = false := by kernel_rfl
theorem tie : Tryd.prog.laidByTextLater [("loop.example/surelywrong/impl.comparedWithNumbers", Rows.laid_loop_example_surelywrong_impl_comparedWithNumbers), ("loop.example/surelywrong/impl.comparedVariables", Rows.laid_loop_example_surelywrong_impl_comparedVariables), ("loop.example/surelywrong/impl.errNoProgram", Rows.laid_loop_example_surelywrong_impl_errNoProgram), ("loop.example/surelywrong/impl.assignments", Rows.laid_loop_example_surelywrong_impl_assignments)] [.data, .widerDeep, .sentinel, .widerDeep] true :=
  Program.laidByTextLater.sub seatTie1 ["loop.example/surelywrong/impl.comparedWithNumbers", "loop.example/surelywrong/impl.comparedVariables", "loop.example/surelywrong/impl.errNoProgram", "loop.example/surelywrong/impl.assignments"] (by kernel_rfl) (by kernel_rfl)
theorem fnExactReached_row_tie : Rows.fnExactReachedRow.laidByTextAt .later Tryd.pinned [.data, .widerDeep, .sentinel, .widerDeep] true :=
  OpenClaim.laidByTextAt_later rfl rfl tie noOwnUnsafe
theorem fnExactNextOf_row_tie : Rows.fnExactNextOfRow.laidByTextAt .later Tryd.pinned [.data, .widerDeep, .sentinel, .widerDeep] true :=
  OpenClaim.laidByTextAt_later rfl rfl tie noOwnUnsafe
theorem fnExactErrorsOf_row_tie : Rows.fnExactErrorsOfRow.laidByTextAt .later Tryd.pinned [.data, .widerDeep, .sentinel, .widerDeep] true :=
  OpenClaim.laidByTextAt_later rfl rfl tie noOwnUnsafe
theorem fnExactCanFail_row_tie : Rows.fnExactCanFailRow.laidByTextAt .later Tryd.pinned [.data, .widerDeep, .sentinel, .widerDeep] true :=
  OpenClaim.laidByTextAt_later rfl rfl tie noOwnUnsafe
theorem fnExactCanStick_row_tie : Rows.fnExactCanStickRow.laidByTextAt .later Tryd.pinned [.data, .widerDeep, .sentinel, .widerDeep] true :=
  OpenClaim.laidByTextAt_later rfl rfl tie noOwnUnsafe
theorem fnExactIsSingle_row_tie : Rows.fnExactIsSingleRow.laidByTextAt .later Tryd.pinned [.data, .widerDeep, .sentinel, .widerDeep] true :=
  OpenClaim.laidByTextAt_later rfl rfl tie noOwnUnsafe
theorem fnExactReachedUpto_row_tie : Rows.fnExactReachedUptoRow.laidByTextAt .later Tryd.pinned [.data, .widerDeep, .sentinel, .widerDeep] true :=
  OpenClaim.laidByTextAt_later rfl rfl tie noOwnUnsafe
theorem fnExactNextOfUpto_row_tie : Rows.fnExactNextOfUptoRow.laidByTextAt .later Tryd.pinned [.data, .widerDeep, .sentinel, .widerDeep] true :=
  OpenClaim.laidByTextAt_later rfl rfl tie noOwnUnsafe
theorem fnExactErrorsOfUpto_row_tie : Rows.fnExactErrorsOfUptoRow.laidByTextAt .later Tryd.pinned [.data, .widerDeep, .sentinel, .widerDeep] true :=
  OpenClaim.laidByTextAt_later rfl rfl tie noOwnUnsafe
theorem fnExactCanFailUpto_row_tie : Rows.fnExactCanFailUptoRow.laidByTextAt .later Tryd.pinned [.data, .widerDeep, .sentinel, .widerDeep] true :=
  OpenClaim.laidByTextAt_later rfl rfl tie noOwnUnsafe
theorem fnExactCanStickUpto_row_tie : Rows.fnExactCanStickUptoRow.laidByTextAt .later Tryd.pinned [.data, .widerDeep, .sentinel, .widerDeep] true :=
  OpenClaim.laidByTextAt_later rfl rfl tie noOwnUnsafe
theorem fnExactIsSingleUpto_row_tie : Rows.fnExactIsSingleUptoRow.laidByTextAt .later Tryd.pinned [.data, .widerDeep, .sentinel, .widerDeep] true :=
  OpenClaim.laidByTextAt_later rfl rfl tie noOwnUnsafe
end Go.Proofs.YtkmfmnolibkmoaaDoor
