/- What the condition lays, where the error of choices that are not right is listed ahead. -/
import Derived.Test.YtfoifcbpognjaaaDoorL3
import Derived.Test.YtfoifcbpognjaaaDoorKA
namespace Go.Proofs.YtfoifcbpognjaaaDoor
open Go.ChangeShapes Go.WideShapes Go.ChangeAt Go.RowKit Go.Shelf
set_option maxRecDepth 100000

theorem gNoR : Tryd.prog.globalNamed "loop.example/surelywrong/impl.errNotRight" = some 1 := by kernel_rfl
theorem tNoR : (Tryd.prog.globals[1]?).map (·.type) = some 49 := by kernel_rfl
/-- What the rows list. -/
def laidVR : List (String × DataW Unit) := [("loop.example/surelywrong/impl.errNotRight", Rows.laid_loop_example_surelywrong_impl_errNotRight), ("loop.example/surelywrong/impl.comparedWithNumbers", Rows.laid_loop_example_surelywrong_impl_comparedWithNumbers), ("loop.example/surelywrong/impl.comparedVariables", Rows.laid_loop_example_surelywrong_impl_comparedVariables), ("loop.example/surelywrong/impl.errNoProgram", Rows.laid_loop_example_surelywrong_impl_errNoProgram), ("loop.example/surelywrong/impl.assignments", Rows.laid_loop_example_surelywrong_impl_assignments)]

/-- What the condition gives. -/
theorem of_laidR {W : World} (h : laidMet Tryd.prog laidVR W) : Laid3 W.heap.size W ∧ NotRight W.heap.size W := by
  obtain ⟨an, sn, hn, _, _, _⟩ := laid_sentinel h gNoR tNoR Tryd.underlying49 rowPtr Tryd.underlying128 Tryd.underlying156 rfl rfl Tryd.underlying9 cellsStruct cellsString
  have dn : W.cell? ⟨1, 0, none⟩ = some (.iface 128 (.pointer (some an))) := by simpa using World.var?_cell gNoR hn 0
  exact ⟨of_laid h.tail, ⟨_, dn⟩, lt_of_cell' dn⟩

theorem trodVars_lenR {H : Type} {enc : TypeId × Value → H} {P : Program} {w : World} {sp : Nat → Bool} {n0 n1 n2 n3 n4 : String} {gs : List (DataW H)} {ps : List MemPlace} (h : DataW.TrodVars enc P w sp [n0, n1, n2, n3, n4] gs ps) : ∃ d0 d1 d2 d3 d4, gs = [d0, d1, d2, d3, d4] := by
  have hl := trodVars_len h
  match gs, hl with
  | [d0, d1, d2, d3, d4], _ => exact ⟨d0, d1, d2, d3, d4, rfl⟩
end Go.Proofs.YtfoifcbpognjaaaDoor

