/-
  DERIVED. GIVEN WITH THE SEED: THE PROGRAM's TIES (one call each: nine closed facts by the kernel) AND EACH ROW's TIE, after the 31st guide's Derived/Test/Toyas{Tie, Card}.lean. No idea stands in it: it is a product of the set-up. Laid BY PROGRAM, IN A SANDBOX (cutbox-door.mjs). By AI agents, Wed Nov 11 2026. No macro, syntax, notation, axiom, sorry.
-/
import Derived.Test.YtgkgkaapjljpcaaDoorRows
import Derived.LaidByTextLater
import Derived.SevenTiedAt
import Derived.LaidSub
import Derived.LaidOnce
namespace Go.Proofs.YtgkgkaapjljpcaaDoor
open Go
set_option maxRecDepth 100000
theorem seatTie1 : Tryd.prog.laidByTextLater [("math/bits.deBruijn32tab", Rows.laid_math_bits_deBruijn32tab), ("math/bits.deBruijn64tab", Rows.laid_math_bits_deBruijn64tab), ("internal/strconv.uint64pow10", Rows.laid_internal_strconv_uint64pow10), ("loop.example/surelywrong/impl.comparedWithNumbers", Rows.laid_loop_example_surelywrong_impl_comparedWithNumbers), ("loop.example/surelywrong/impl.comparedVariables", Rows.laid_loop_example_surelywrong_impl_comparedVariables), ("loop.example/surelywrong/impl.errNoProgram", Rows.laid_loop_example_surelywrong_impl_errNoProgram), ("loop.example/surelywrong/impl.assignments", Rows.laid_loop_example_surelywrong_impl_assignments), ("loop.example/surelywrong/impl.errNoExit", Rows.laid_loop_example_surelywrong_impl_errNoExit)] [.data, .data, .data, .data, .widerDeep, .sentinel, .widerDeep, .sentinel] true :=
  Program.laidByTextLater_by_one 77 8 65 (by kernel_rfl) (by kernel_rfl) (by kernel_rfl) (by kernel_rfl) (by kernel_rfl) (by kernel_rfl) (fun _ _ => by kernel_rfl)
theorem noOwnUnsafe : Tryd.pinned.checked.prog.headLifts.contains "ownunsafe" = false := by kernel_rfl
theorem tie : Tryd.prog.laidByTextLater [("math/bits.deBruijn32tab", Rows.laid_math_bits_deBruijn32tab), ("math/bits.deBruijn64tab", Rows.laid_math_bits_deBruijn64tab), ("internal/strconv.uint64pow10", Rows.laid_internal_strconv_uint64pow10), ("loop.example/surelywrong/impl.errNoExit", Rows.laid_loop_example_surelywrong_impl_errNoExit)] [.data, .data, .data, .sentinel] true :=
  Program.laidByTextLater.sub seatTie1 ["math/bits.deBruijn32tab", "math/bits.deBruijn64tab", "internal/strconv.uint64pow10", "loop.example/surelywrong/impl.errNoExit"] (by kernel_rfl) (by kernel_rfl)
theorem fnNumbers_row_tie : Rows.fnNumbersRow.laidByTextAt .later Tryd.pinned [.data, .data, .data, .sentinel] true :=
  OpenClaim.laidByTextAt_later rfl rfl tie noOwnUnsafe
theorem tie2 : Tryd.prog.laidByTextLater [("math/bits.deBruijn32tab", Rows.laid_math_bits_deBruijn32tab), ("math/bits.deBruijn64tab", Rows.laid_math_bits_deBruijn64tab), ("internal/strconv.uint64pow10", Rows.laid_internal_strconv_uint64pow10)] [.data, .data, .data] true :=
  Program.laidByTextLater.sub seatTie1 ["math/bits.deBruijn32tab", "math/bits.deBruijn64tab", "internal/strconv.uint64pow10"] (by kernel_rfl) (by kernel_rfl)
theorem fnExactFormatNumbers_row_tie : Rows.fnExactFormatNumbersRow.laidByTextAt .later Tryd.pinned [.data, .data, .data] true :=
  OpenClaim.laidByTextAt_later rfl rfl tie2 noOwnUnsafe
theorem tie3 : Tryd.prog.laidByTextLater [("loop.example/surelywrong/impl.errNoExit", Rows.laid_loop_example_surelywrong_impl_errNoExit)] [.sentinel] true :=
  Program.laidByTextLater.sub seatTie1 ["loop.example/surelywrong/impl.errNoExit"] (by kernel_rfl) (by kernel_rfl)
theorem fnExactParseExit_row_tie : Rows.fnExactParseExitRow.laidByTextAt .later Tryd.pinned [.sentinel] true :=
  OpenClaim.laidByTextAt_later rfl rfl tie3 noOwnUnsafe
theorem tie4 : Tryd.prog.laidByTextLater [("loop.example/surelywrong/impl.comparedWithNumbers", Rows.laid_loop_example_surelywrong_impl_comparedWithNumbers), ("loop.example/surelywrong/impl.comparedVariables", Rows.laid_loop_example_surelywrong_impl_comparedVariables), ("loop.example/surelywrong/impl.errNoProgram", Rows.laid_loop_example_surelywrong_impl_errNoProgram), ("loop.example/surelywrong/impl.assignments", Rows.laid_loop_example_surelywrong_impl_assignments)] [.data, .widerDeep, .sentinel, .widerDeep] true :=
  Program.laidByTextLater.sub seatTie1 ["loop.example/surelywrong/impl.comparedWithNumbers", "loop.example/surelywrong/impl.comparedVariables", "loop.example/surelywrong/impl.errNoProgram", "loop.example/surelywrong/impl.assignments"] (by kernel_rfl) (by kernel_rfl)
theorem fnExactIsBelow_row_tie : Rows.fnExactIsBelowRow.laidByTextAt .later Tryd.pinned [.data, .widerDeep, .sentinel, .widerDeep] true :=
  OpenClaim.laidByTextAt_later rfl rfl tie4 noOwnUnsafe
theorem fnExactSimplify_row_tie : Rows.fnExactSimplifyRow.laidByTextAt .later Tryd.pinned [.data, .widerDeep, .sentinel, .widerDeep] true :=
  OpenClaim.laidByTextAt_later rfl rfl tie4 noOwnUnsafe
theorem fnExactSimplerTop_row_tie : Rows.fnExactSimplerTopRow.laidByTextAt .later Tryd.pinned [.data, .widerDeep, .sentinel, .widerDeep] true :=
  OpenClaim.laidByTextAt_later rfl rfl tie4 noOwnUnsafe
theorem fnExactCountSimpler_row_tie : Rows.fnExactCountSimplerRow.laidByTextAt .later Tryd.pinned [.data, .widerDeep, .sentinel, .widerDeep] true :=
  OpenClaim.laidByTextAt_later rfl rfl tie4 noOwnUnsafe
theorem fnExactIsPlain_row_tie : Rows.fnExactIsPlainRow.laidByTextAt .later Tryd.pinned [.data, .widerDeep, .sentinel, .widerDeep] true :=
  OpenClaim.laidByTextAt_later rfl rfl tie4 noOwnUnsafe
theorem fnExactShortest_row_tie : Rows.fnExactShortestRow.laidByTextAt .later Tryd.pinned [.data, .widerDeep, .sentinel, .widerDeep] true :=
  OpenClaim.laidByTextAt_later rfl rfl tie4 noOwnUnsafe
theorem fnNumbersUpto_row_tie : Rows.fnNumbersUptoRow.laidByTextAt .later Tryd.pinned [.data, .data, .data, .sentinel] true :=
  OpenClaim.laidByTextAt_later rfl rfl tie noOwnUnsafe
theorem fnExactFormatNumbersUpto_row_tie : Rows.fnExactFormatNumbersUptoRow.laidByTextAt .later Tryd.pinned [.data, .data, .data] true :=
  OpenClaim.laidByTextAt_later rfl rfl tie2 noOwnUnsafe
theorem fnExactParseExitUpto_row_tie : Rows.fnExactParseExitUptoRow.laidByTextAt .later Tryd.pinned [.sentinel] true :=
  OpenClaim.laidByTextAt_later rfl rfl tie3 noOwnUnsafe
theorem fnExactIsBelowUpto_row_tie : Rows.fnExactIsBelowUptoRow.laidByTextAt .later Tryd.pinned [.data, .widerDeep, .sentinel, .widerDeep] true :=
  OpenClaim.laidByTextAt_later rfl rfl tie4 noOwnUnsafe
theorem fnExactSimplifyUpto_row_tie : Rows.fnExactSimplifyUptoRow.laidByTextAt .later Tryd.pinned [.data, .widerDeep, .sentinel, .widerDeep] true :=
  OpenClaim.laidByTextAt_later rfl rfl tie4 noOwnUnsafe
theorem fnExactSimplerTopUpto_row_tie : Rows.fnExactSimplerTopUptoRow.laidByTextAt .later Tryd.pinned [.data, .widerDeep, .sentinel, .widerDeep] true :=
  OpenClaim.laidByTextAt_later rfl rfl tie4 noOwnUnsafe
theorem fnExactCountSimplerUpto_row_tie : Rows.fnExactCountSimplerUptoRow.laidByTextAt .later Tryd.pinned [.data, .widerDeep, .sentinel, .widerDeep] true :=
  OpenClaim.laidByTextAt_later rfl rfl tie4 noOwnUnsafe
theorem fnExactIsPlainUpto_row_tie : Rows.fnExactIsPlainUptoRow.laidByTextAt .later Tryd.pinned [.data, .widerDeep, .sentinel, .widerDeep] true :=
  OpenClaim.laidByTextAt_later rfl rfl tie4 noOwnUnsafe
theorem fnExactShortestUpto_row_tie : Rows.fnExactShortestUptoRow.laidByTextAt .later Tryd.pinned [.data, .widerDeep, .sentinel, .widerDeep] true :=
  OpenClaim.laidByTextAt_later rfl rfl tie4 noOwnUnsafe
end Go.Proofs.YtgkgkaapjljpcaaDoor
