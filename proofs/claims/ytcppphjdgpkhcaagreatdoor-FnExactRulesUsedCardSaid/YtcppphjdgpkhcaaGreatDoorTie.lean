/-
  DERIVED. GIVEN WITH THE SEED: THE PROGRAM's TIES (one call each: nine closed facts by the kernel) AND EACH ROW's TIE, after the 31st guide's Derived/Test/Toyas{Tie, Card}.lean. No idea stands in it: it is a product of the set-up. Laid BY PROGRAM, IN A SANDBOX (cutbox-door.mjs). By AI agents, Wed Nov 11 2026. No macro, syntax, notation, axiom, sorry.
-/
import Derived.Test.YtcppphjdgpkhcaaGreatDoorRows
import Derived.LaidByTextLater
import Derived.SevenTiedAt
import Derived.LaidSub
import Derived.LaidOnce
namespace Go.Proofs.YtcppphjdgpkhcaaGreatDoor
open Go
set_option maxRecDepth 100000
theorem seatTie1 : Tryz.prog.laidByTextLater [("math/bits.deBruijn32tab", Rows.laid_math_bits_deBruijn32tab), ("math/bits.deBruijn64tab", Rows.laid_math_bits_deBruijn64tab), ("internal/strconv.uint64pow10", Rows.laid_internal_strconv_uint64pow10), ("unicode/utf8.acceptRanges", Rows.laid_unicode_utf8_acceptRanges), ("strconv.ErrRange", Rows.laid_strconv_ErrRange), ("strconv.ErrSyntax", Rows.laid_strconv_ErrSyntax), ("loop.example/surelywrong/impl.errNoState", Rows.laid_loop_example_surelywrong_impl_errNoState), ("loop.example/surelywrong/impl.errStateOrder", Rows.laid_loop_example_surelywrong_impl_errStateOrder), ("loop.example/surelywrong/impl.comparedWithNumbers", Rows.laid_loop_example_surelywrong_impl_comparedWithNumbers), ("loop.example/surelywrong/impl.comparedVariables", Rows.laid_loop_example_surelywrong_impl_comparedVariables), ("loop.example/surelywrong/impl.errNoProgram", Rows.laid_loop_example_surelywrong_impl_errNoProgram), ("loop.example/surelywrong/impl.assignments", Rows.laid_loop_example_surelywrong_impl_assignments), ("loop.example/surelywrong/impl.errNoExit", Rows.laid_loop_example_surelywrong_impl_errNoExit), ("loop.example/surelywrong/impl.errNoTriple", Rows.laid_loop_example_surelywrong_impl_errNoTriple), ("loop.example/surelywrong/impl.errMoreText", Rows.laid_loop_example_surelywrong_impl_errMoreText), ("loop.example/surelywrong/impl.errNoRule", Rows.laid_loop_example_surelywrong_impl_errNoRule), ("loop.example/surelywrong/impl.errNoNumber", Rows.laid_loop_example_surelywrong_impl_errNoNumber), ("loop.example/surelywrong/impl.errNotBefore", Rows.laid_loop_example_surelywrong_impl_errNotBefore), ("loop.example/surelywrong/impl.errProofLines", Rows.laid_loop_example_surelywrong_impl_errProofLines)] [.data, .data, .data, .data, .sentinel, .sentinel, .sentinel, .sentinel, .data, .widerDeep, .sentinel, .widerDeep, .sentinel, .sentinel, .sentinel, .sentinel, .sentinel, .sentinel, .sentinel] true :=
  Program.laidByTextLater_by_one 277 8 65 (by kernel_rfl) (by kernel_rfl) (by kernel_rfl) (by kernel_rfl) (by kernel_rfl) (by kernel_rfl) (fun _ _ => by kernel_rfl)
theorem pin_laid_unicode_utf8_first : Tryz.pinned.checked.prog.pinnedFits "unicode/utf8.first" = true := by kernel_rfl
theorem noOwnUnsafe : Tryz.pinned.checked.prog.headLifts.contains "ownunsafe" = false := by kernel_rfl
theorem fits1 : Tryz.pinned.checked.prog.listedFits [("unicode/utf8.acceptRanges", Rows.laid_unicode_utf8_acceptRanges), ("loop.example/surelywrong/impl.errNoState", Rows.laid_loop_example_surelywrong_impl_errNoState), ("loop.example/surelywrong/impl.errStateOrder", Rows.laid_loop_example_surelywrong_impl_errStateOrder), ("loop.example/surelywrong/impl.comparedWithNumbers", Rows.laid_loop_example_surelywrong_impl_comparedWithNumbers), ("loop.example/surelywrong/impl.comparedVariables", Rows.laid_loop_example_surelywrong_impl_comparedVariables), ("loop.example/surelywrong/impl.errNoProgram", Rows.laid_loop_example_surelywrong_impl_errNoProgram), ("loop.example/surelywrong/impl.assignments", Rows.laid_loop_example_surelywrong_impl_assignments), ("loop.example/surelywrong/impl.errNoExit", Rows.laid_loop_example_surelywrong_impl_errNoExit), ("loop.example/surelywrong/impl.errMoreText", Rows.laid_loop_example_surelywrong_impl_errMoreText), ("unicode/utf8.first", Rows.laid_unicode_utf8_first)] = true := by
  unfold Program.listedFits
  rw [noOwnUnsafe]
  kernel_rfl
theorem tie : Tryz.prog.laidByTextLater [("unicode/utf8.acceptRanges", Rows.laid_unicode_utf8_acceptRanges), ("loop.example/surelywrong/impl.errNoState", Rows.laid_loop_example_surelywrong_impl_errNoState), ("loop.example/surelywrong/impl.errStateOrder", Rows.laid_loop_example_surelywrong_impl_errStateOrder), ("loop.example/surelywrong/impl.comparedWithNumbers", Rows.laid_loop_example_surelywrong_impl_comparedWithNumbers), ("loop.example/surelywrong/impl.comparedVariables", Rows.laid_loop_example_surelywrong_impl_comparedVariables), ("loop.example/surelywrong/impl.errNoProgram", Rows.laid_loop_example_surelywrong_impl_errNoProgram), ("loop.example/surelywrong/impl.assignments", Rows.laid_loop_example_surelywrong_impl_assignments), ("loop.example/surelywrong/impl.errNoExit", Rows.laid_loop_example_surelywrong_impl_errNoExit), ("loop.example/surelywrong/impl.errMoreText", Rows.laid_loop_example_surelywrong_impl_errMoreText)] [.data, .sentinel, .sentinel, .data, .widerDeep, .sentinel, .widerDeep, .sentinel, .sentinel] true :=
  Program.laidByTextLater.sub seatTie1 ["unicode/utf8.acceptRanges", "loop.example/surelywrong/impl.errNoState", "loop.example/surelywrong/impl.errStateOrder", "loop.example/surelywrong/impl.comparedWithNumbers", "loop.example/surelywrong/impl.comparedVariables", "loop.example/surelywrong/impl.errNoProgram", "loop.example/surelywrong/impl.assignments", "loop.example/surelywrong/impl.errNoExit", "loop.example/surelywrong/impl.errMoreText"] (by kernel_rfl) (by kernel_rfl)
theorem fnTripleText_row_tie : Rows.fnTripleTextRow.laidByTextAt .later Tryz.pinned [.data, .sentinel, .sentinel, .data, .widerDeep, .sentinel, .widerDeep, .sentinel, .sentinel, .pinned] true :=
  OpenClaim.laidByTextAt_pinned rfl rfl tie rfl rfl rfl rfl (fun y hy _e => by
    simp only [Rows.fnTripleTextRow, List.zip_cons_cons, List.zip_nil_right, List.mem_cons, List.mem_nil_iff, or_false] at hy
    rcases hy with rfl | rfl | rfl | rfl | rfl | rfl | rfl | rfl | rfl | rfl
    · cases _e
    · cases _e
    · cases _e
    · cases _e
    · cases _e
    · cases _e
    · cases _e
    · cases _e
    · cases _e
    · exact ⟨pin_laid_unicode_utf8_first, by kernel_rfl⟩) fits1
theorem tie2 : Tryz.prog.laidByTextLater [("loop.example/surelywrong/impl.comparedWithNumbers", Rows.laid_loop_example_surelywrong_impl_comparedWithNumbers), ("loop.example/surelywrong/impl.comparedVariables", Rows.laid_loop_example_surelywrong_impl_comparedVariables), ("loop.example/surelywrong/impl.errNoProgram", Rows.laid_loop_example_surelywrong_impl_errNoProgram), ("loop.example/surelywrong/impl.assignments", Rows.laid_loop_example_surelywrong_impl_assignments), ("loop.example/surelywrong/impl.errNoTriple", Rows.laid_loop_example_surelywrong_impl_errNoTriple), ("loop.example/surelywrong/impl.errNoRule", Rows.laid_loop_example_surelywrong_impl_errNoRule)] [.data, .widerDeep, .sentinel, .widerDeep, .sentinel, .sentinel] true :=
  Program.laidByTextLater.sub seatTie1 ["loop.example/surelywrong/impl.comparedWithNumbers", "loop.example/surelywrong/impl.comparedVariables", "loop.example/surelywrong/impl.errNoProgram", "loop.example/surelywrong/impl.assignments", "loop.example/surelywrong/impl.errNoTriple", "loop.example/surelywrong/impl.errNoRule"] (by kernel_rfl) (by kernel_rfl)
theorem fnCheckProof_row_tie : Rows.fnCheckProofRow.laidByTextAt .later Tryz.pinned [.data, .widerDeep, .sentinel, .widerDeep, .sentinel, .sentinel] true :=
  OpenClaim.laidByTextAt_later rfl rfl tie2 noOwnUnsafe
theorem fnLineHolds_row_tie : Rows.fnLineHoldsRow.laidByTextAt .later Tryz.pinned [.data, .widerDeep, .sentinel, .widerDeep, .sentinel, .sentinel] true :=
  OpenClaim.laidByTextAt_later rfl rfl tie2 noOwnUnsafe
theorem fnNeeded_row_tie : Rows.fnNeededRow.laidByTextAt .later Tryz.pinned [.data, .widerDeep, .sentinel, .widerDeep, .sentinel, .sentinel] true :=
  OpenClaim.laidByTextAt_later rfl rfl tie2 noOwnUnsafe
theorem fnExactLineHolds_row_tie : Rows.fnExactLineHoldsRow.laidByTextAt .later Tryz.pinned [.data, .widerDeep, .sentinel, .widerDeep, .sentinel, .sentinel] true :=
  OpenClaim.laidByTextAt_later rfl rfl tie2 noOwnUnsafe
theorem fnExactCheckProof_row_tie : Rows.fnExactCheckProofRow.laidByTextAt .later Tryz.pinned [.data, .widerDeep, .sentinel, .widerDeep, .sentinel, .sentinel] true :=
  OpenClaim.laidByTextAt_later rfl rfl tie2 noOwnUnsafe
theorem fnExactProves_row_tie : Rows.fnExactProvesRow.laidByTextAt .later Tryz.pinned [.data, .widerDeep, .sentinel, .widerDeep, .sentinel, .sentinel] true :=
  OpenClaim.laidByTextAt_later rfl rfl tie2 noOwnUnsafe
theorem fnExactNeededLines_row_tie : Rows.fnExactNeededLinesRow.laidByTextAt .later Tryz.pinned [.data, .widerDeep, .sentinel, .widerDeep, .sentinel, .sentinel] true :=
  OpenClaim.laidByTextAt_later rfl rfl tie2 noOwnUnsafe
theorem fits3 : Tryz.pinned.checked.prog.listedFits [("math/bits.deBruijn32tab", Rows.laid_math_bits_deBruijn32tab), ("math/bits.deBruijn64tab", Rows.laid_math_bits_deBruijn64tab), ("internal/strconv.uint64pow10", Rows.laid_internal_strconv_uint64pow10), ("unicode/utf8.acceptRanges", Rows.laid_unicode_utf8_acceptRanges), ("strconv.ErrRange", Rows.laid_strconv_ErrRange), ("strconv.ErrSyntax", Rows.laid_strconv_ErrSyntax), ("loop.example/surelywrong/impl.errNoState", Rows.laid_loop_example_surelywrong_impl_errNoState), ("loop.example/surelywrong/impl.errStateOrder", Rows.laid_loop_example_surelywrong_impl_errStateOrder), ("loop.example/surelywrong/impl.comparedWithNumbers", Rows.laid_loop_example_surelywrong_impl_comparedWithNumbers), ("loop.example/surelywrong/impl.comparedVariables", Rows.laid_loop_example_surelywrong_impl_comparedVariables), ("loop.example/surelywrong/impl.errNoProgram", Rows.laid_loop_example_surelywrong_impl_errNoProgram), ("loop.example/surelywrong/impl.assignments", Rows.laid_loop_example_surelywrong_impl_assignments), ("loop.example/surelywrong/impl.errNoExit", Rows.laid_loop_example_surelywrong_impl_errNoExit), ("loop.example/surelywrong/impl.errNoTriple", Rows.laid_loop_example_surelywrong_impl_errNoTriple), ("loop.example/surelywrong/impl.errNoRule", Rows.laid_loop_example_surelywrong_impl_errNoRule), ("loop.example/surelywrong/impl.errNoNumber", Rows.laid_loop_example_surelywrong_impl_errNoNumber), ("loop.example/surelywrong/impl.errNotBefore", Rows.laid_loop_example_surelywrong_impl_errNotBefore), ("loop.example/surelywrong/impl.errProofLines", Rows.laid_loop_example_surelywrong_impl_errProofLines), ("unicode/utf8.first", Rows.laid_unicode_utf8_first)] = true := by
  unfold Program.listedFits
  rw [noOwnUnsafe]
  kernel_rfl
theorem tie3 : Tryz.prog.laidByTextLater [("math/bits.deBruijn32tab", Rows.laid_math_bits_deBruijn32tab), ("math/bits.deBruijn64tab", Rows.laid_math_bits_deBruijn64tab), ("internal/strconv.uint64pow10", Rows.laid_internal_strconv_uint64pow10), ("unicode/utf8.acceptRanges", Rows.laid_unicode_utf8_acceptRanges), ("strconv.ErrRange", Rows.laid_strconv_ErrRange), ("strconv.ErrSyntax", Rows.laid_strconv_ErrSyntax), ("loop.example/surelywrong/impl.errNoState", Rows.laid_loop_example_surelywrong_impl_errNoState), ("loop.example/surelywrong/impl.errStateOrder", Rows.laid_loop_example_surelywrong_impl_errStateOrder), ("loop.example/surelywrong/impl.comparedWithNumbers", Rows.laid_loop_example_surelywrong_impl_comparedWithNumbers), ("loop.example/surelywrong/impl.comparedVariables", Rows.laid_loop_example_surelywrong_impl_comparedVariables), ("loop.example/surelywrong/impl.errNoProgram", Rows.laid_loop_example_surelywrong_impl_errNoProgram), ("loop.example/surelywrong/impl.assignments", Rows.laid_loop_example_surelywrong_impl_assignments), ("loop.example/surelywrong/impl.errNoExit", Rows.laid_loop_example_surelywrong_impl_errNoExit), ("loop.example/surelywrong/impl.errNoTriple", Rows.laid_loop_example_surelywrong_impl_errNoTriple), ("loop.example/surelywrong/impl.errNoRule", Rows.laid_loop_example_surelywrong_impl_errNoRule), ("loop.example/surelywrong/impl.errNoNumber", Rows.laid_loop_example_surelywrong_impl_errNoNumber), ("loop.example/surelywrong/impl.errNotBefore", Rows.laid_loop_example_surelywrong_impl_errNotBefore), ("loop.example/surelywrong/impl.errProofLines", Rows.laid_loop_example_surelywrong_impl_errProofLines)] [.data, .data, .data, .data, .sentinel, .sentinel, .sentinel, .sentinel, .data, .widerDeep, .sentinel, .widerDeep, .sentinel, .sentinel, .sentinel, .sentinel, .sentinel, .sentinel] true :=
  Program.laidByTextLater.sub seatTie1 ["math/bits.deBruijn32tab", "math/bits.deBruijn64tab", "internal/strconv.uint64pow10", "unicode/utf8.acceptRanges", "strconv.ErrRange", "strconv.ErrSyntax", "loop.example/surelywrong/impl.errNoState", "loop.example/surelywrong/impl.errStateOrder", "loop.example/surelywrong/impl.comparedWithNumbers", "loop.example/surelywrong/impl.comparedVariables", "loop.example/surelywrong/impl.errNoProgram", "loop.example/surelywrong/impl.assignments", "loop.example/surelywrong/impl.errNoExit", "loop.example/surelywrong/impl.errNoTriple", "loop.example/surelywrong/impl.errNoRule", "loop.example/surelywrong/impl.errNoNumber", "loop.example/surelywrong/impl.errNotBefore", "loop.example/surelywrong/impl.errProofLines"] (by kernel_rfl) (by kernel_rfl)
theorem fnProofText_row_tie : Rows.fnProofTextRow.laidByTextAt .later Tryz.pinned [.data, .data, .data, .data, .sentinel, .sentinel, .sentinel, .sentinel, .data, .widerDeep, .sentinel, .widerDeep, .sentinel, .sentinel, .sentinel, .sentinel, .sentinel, .sentinel, .pinned] true :=
  OpenClaim.laidByTextAt_pinned rfl rfl tie3 rfl rfl rfl rfl (fun y hy _e => by
    simp only [Rows.fnProofTextRow, List.zip_cons_cons, List.zip_nil_right, List.mem_cons, List.mem_nil_iff, or_false] at hy
    rcases hy with rfl | rfl | rfl | rfl | rfl | rfl | rfl | rfl | rfl | rfl | rfl | rfl | rfl | rfl | rfl | rfl | rfl | rfl | rfl
    · cases _e
    · cases _e
    · cases _e
    · cases _e
    · cases _e
    · cases _e
    · cases _e
    · cases _e
    · cases _e
    · cases _e
    · cases _e
    · cases _e
    · cases _e
    · cases _e
    · cases _e
    · cases _e
    · cases _e
    · cases _e
    · exact ⟨pin_laid_unicode_utf8_first, by kernel_rfl⟩) fits3
theorem fnExactParseProof_row_tie : Rows.fnExactParseProofRow.laidByTextAt .later Tryz.pinned [.data, .data, .data, .data, .sentinel, .sentinel, .sentinel, .sentinel, .data, .widerDeep, .sentinel, .widerDeep, .sentinel, .sentinel, .sentinel, .sentinel, .sentinel, .sentinel, .pinned] true :=
  OpenClaim.laidByTextAt_pinned rfl rfl tie3 rfl rfl rfl rfl (fun y hy _e => by
    simp only [Rows.fnExactParseProofRow, List.zip_cons_cons, List.zip_nil_right, List.mem_cons, List.mem_nil_iff, or_false] at hy
    rcases hy with rfl | rfl | rfl | rfl | rfl | rfl | rfl | rfl | rfl | rfl | rfl | rfl | rfl | rfl | rfl | rfl | rfl | rfl | rfl
    · cases _e
    · cases _e
    · cases _e
    · cases _e
    · cases _e
    · cases _e
    · cases _e
    · cases _e
    · cases _e
    · cases _e
    · cases _e
    · cases _e
    · cases _e
    · cases _e
    · cases _e
    · cases _e
    · cases _e
    · cases _e
    · exact ⟨pin_laid_unicode_utf8_first, by kernel_rfl⟩) fits3
theorem tie4 : Tryz.prog.laidByTextLater [("math/bits.deBruijn32tab", Rows.laid_math_bits_deBruijn32tab), ("math/bits.deBruijn64tab", Rows.laid_math_bits_deBruijn64tab), ("internal/strconv.uint64pow10", Rows.laid_internal_strconv_uint64pow10), ("loop.example/surelywrong/impl.comparedWithNumbers", Rows.laid_loop_example_surelywrong_impl_comparedWithNumbers), ("loop.example/surelywrong/impl.comparedVariables", Rows.laid_loop_example_surelywrong_impl_comparedVariables), ("loop.example/surelywrong/impl.errNoProgram", Rows.laid_loop_example_surelywrong_impl_errNoProgram), ("loop.example/surelywrong/impl.assignments", Rows.laid_loop_example_surelywrong_impl_assignments), ("loop.example/surelywrong/impl.errNoTriple", Rows.laid_loop_example_surelywrong_impl_errNoTriple), ("loop.example/surelywrong/impl.errNoRule", Rows.laid_loop_example_surelywrong_impl_errNoRule), ("loop.example/surelywrong/impl.errNotBefore", Rows.laid_loop_example_surelywrong_impl_errNotBefore)] [.data, .data, .data, .data, .widerDeep, .sentinel, .widerDeep, .sentinel, .sentinel, .sentinel] true :=
  Program.laidByTextLater.sub seatTie1 ["math/bits.deBruijn32tab", "math/bits.deBruijn64tab", "internal/strconv.uint64pow10", "loop.example/surelywrong/impl.comparedWithNumbers", "loop.example/surelywrong/impl.comparedVariables", "loop.example/surelywrong/impl.errNoProgram", "loop.example/surelywrong/impl.assignments", "loop.example/surelywrong/impl.errNoTriple", "loop.example/surelywrong/impl.errNoRule", "loop.example/surelywrong/impl.errNotBefore"] (by kernel_rfl) (by kernel_rfl)
theorem fnExactFormatProof_row_tie : Rows.fnExactFormatProofRow.laidByTextAt .later Tryz.pinned [.data, .data, .data, .data, .widerDeep, .sentinel, .widerDeep, .sentinel, .sentinel, .sentinel] true :=
  OpenClaim.laidByTextAt_later rfl rfl tie4 noOwnUnsafe
theorem tie5 : Tryz.prog.laidByTextLater [("loop.example/surelywrong/impl.comparedWithNumbers", Rows.laid_loop_example_surelywrong_impl_comparedWithNumbers), ("loop.example/surelywrong/impl.comparedVariables", Rows.laid_loop_example_surelywrong_impl_comparedVariables), ("loop.example/surelywrong/impl.errNoProgram", Rows.laid_loop_example_surelywrong_impl_errNoProgram), ("loop.example/surelywrong/impl.assignments", Rows.laid_loop_example_surelywrong_impl_assignments), ("loop.example/surelywrong/impl.errNoTriple", Rows.laid_loop_example_surelywrong_impl_errNoTriple)] [.data, .widerDeep, .sentinel, .widerDeep, .sentinel] true :=
  Program.laidByTextLater.sub seatTie1 ["loop.example/surelywrong/impl.comparedWithNumbers", "loop.example/surelywrong/impl.comparedVariables", "loop.example/surelywrong/impl.errNoProgram", "loop.example/surelywrong/impl.assignments", "loop.example/surelywrong/impl.errNoTriple"] (by kernel_rfl) (by kernel_rfl)
theorem fnExactRulesUsed_row_tie : Rows.fnExactRulesUsedRow.laidByTextAt .later Tryz.pinned [.data, .widerDeep, .sentinel, .widerDeep, .sentinel] true :=
  OpenClaim.laidByTextAt_later rfl rfl tie5 noOwnUnsafe
theorem fnTripleTextUpto_row_tie : Rows.fnTripleTextUptoRow.laidByTextAt .later Tryz.pinned [.data, .sentinel, .sentinel, .data, .widerDeep, .sentinel, .widerDeep, .sentinel, .sentinel, .pinned] true :=
  OpenClaim.laidByTextAt_pinned rfl rfl tie rfl rfl rfl rfl (fun y hy _e => by
    simp only [Rows.fnTripleTextUptoRow, List.zip_cons_cons, List.zip_nil_right, List.mem_cons, List.mem_nil_iff, or_false] at hy
    rcases hy with rfl | rfl | rfl | rfl | rfl | rfl | rfl | rfl | rfl | rfl
    · cases _e
    · cases _e
    · cases _e
    · cases _e
    · cases _e
    · cases _e
    · cases _e
    · cases _e
    · cases _e
    · exact ⟨pin_laid_unicode_utf8_first, by kernel_rfl⟩) fits1
theorem fnCheckProofUpto_row_tie : Rows.fnCheckProofUptoRow.laidByTextAt .later Tryz.pinned [.data, .widerDeep, .sentinel, .widerDeep, .sentinel, .sentinel] true :=
  OpenClaim.laidByTextAt_later rfl rfl tie2 noOwnUnsafe
theorem fnLineHoldsUpto_row_tie : Rows.fnLineHoldsUptoRow.laidByTextAt .later Tryz.pinned [.data, .widerDeep, .sentinel, .widerDeep, .sentinel, .sentinel] true :=
  OpenClaim.laidByTextAt_later rfl rfl tie2 noOwnUnsafe
theorem fnProofTextUpto_row_tie : Rows.fnProofTextUptoRow.laidByTextAt .later Tryz.pinned [.data, .data, .data, .data, .sentinel, .sentinel, .sentinel, .sentinel, .data, .widerDeep, .sentinel, .widerDeep, .sentinel, .sentinel, .sentinel, .sentinel, .sentinel, .sentinel, .pinned] true :=
  OpenClaim.laidByTextAt_pinned rfl rfl tie3 rfl rfl rfl rfl (fun y hy _e => by
    simp only [Rows.fnProofTextUptoRow, List.zip_cons_cons, List.zip_nil_right, List.mem_cons, List.mem_nil_iff, or_false] at hy
    rcases hy with rfl | rfl | rfl | rfl | rfl | rfl | rfl | rfl | rfl | rfl | rfl | rfl | rfl | rfl | rfl | rfl | rfl | rfl | rfl
    · cases _e
    · cases _e
    · cases _e
    · cases _e
    · cases _e
    · cases _e
    · cases _e
    · cases _e
    · cases _e
    · cases _e
    · cases _e
    · cases _e
    · cases _e
    · cases _e
    · cases _e
    · cases _e
    · cases _e
    · cases _e
    · exact ⟨pin_laid_unicode_utf8_first, by kernel_rfl⟩) fits3
theorem fnNeededUpto_row_tie : Rows.fnNeededUptoRow.laidByTextAt .later Tryz.pinned [.data, .widerDeep, .sentinel, .widerDeep, .sentinel, .sentinel] true :=
  OpenClaim.laidByTextAt_later rfl rfl tie2 noOwnUnsafe
theorem fnExactLineHoldsUpto_row_tie : Rows.fnExactLineHoldsUptoRow.laidByTextAt .later Tryz.pinned [.data, .widerDeep, .sentinel, .widerDeep, .sentinel, .sentinel] true :=
  OpenClaim.laidByTextAt_later rfl rfl tie2 noOwnUnsafe
theorem fnExactCheckProofUpto_row_tie : Rows.fnExactCheckProofUptoRow.laidByTextAt .later Tryz.pinned [.data, .widerDeep, .sentinel, .widerDeep, .sentinel, .sentinel] true :=
  OpenClaim.laidByTextAt_later rfl rfl tie2 noOwnUnsafe
theorem fnExactProvesUpto_row_tie : Rows.fnExactProvesUptoRow.laidByTextAt .later Tryz.pinned [.data, .widerDeep, .sentinel, .widerDeep, .sentinel, .sentinel] true :=
  OpenClaim.laidByTextAt_later rfl rfl tie2 noOwnUnsafe
theorem fnExactFormatProofUpto_row_tie : Rows.fnExactFormatProofUptoRow.laidByTextAt .later Tryz.pinned [.data, .data, .data, .data, .widerDeep, .sentinel, .widerDeep, .sentinel, .sentinel, .sentinel] true :=
  OpenClaim.laidByTextAt_later rfl rfl tie4 noOwnUnsafe
theorem fnExactParseProofUpto_row_tie : Rows.fnExactParseProofUptoRow.laidByTextAt .later Tryz.pinned [.data, .data, .data, .data, .sentinel, .sentinel, .sentinel, .sentinel, .data, .widerDeep, .sentinel, .widerDeep, .sentinel, .sentinel, .sentinel, .sentinel, .sentinel, .sentinel, .pinned] true :=
  OpenClaim.laidByTextAt_pinned rfl rfl tie3 rfl rfl rfl rfl (fun y hy _e => by
    simp only [Rows.fnExactParseProofUptoRow, List.zip_cons_cons, List.zip_nil_right, List.mem_cons, List.mem_nil_iff, or_false] at hy
    rcases hy with rfl | rfl | rfl | rfl | rfl | rfl | rfl | rfl | rfl | rfl | rfl | rfl | rfl | rfl | rfl | rfl | rfl | rfl | rfl
    · cases _e
    · cases _e
    · cases _e
    · cases _e
    · cases _e
    · cases _e
    · cases _e
    · cases _e
    · cases _e
    · cases _e
    · cases _e
    · cases _e
    · cases _e
    · cases _e
    · cases _e
    · cases _e
    · cases _e
    · cases _e
    · exact ⟨pin_laid_unicode_utf8_first, by kernel_rfl⟩) fits3
theorem fnExactRulesUsedUpto_row_tie : Rows.fnExactRulesUsedUptoRow.laidByTextAt .later Tryz.pinned [.data, .widerDeep, .sentinel, .widerDeep, .sentinel] true :=
  OpenClaim.laidByTextAt_later rfl rfl tie5 noOwnUnsafe
theorem fnExactNeededLinesUpto_row_tie : Rows.fnExactNeededLinesUptoRow.laidByTextAt .later Tryz.pinned [.data, .widerDeep, .sentinel, .widerDeep, .sentinel, .sentinel] true :=
  OpenClaim.laidByTextAt_later rfl rfl tie2 noOwnUnsafe
end Go.Proofs.YtcppphjdgpkhcaaGreatDoor
