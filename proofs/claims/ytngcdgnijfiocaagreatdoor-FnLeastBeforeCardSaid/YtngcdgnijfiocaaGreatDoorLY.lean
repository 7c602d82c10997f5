/- What the condition lays, where the error of exits that are none is listed besides. -/
import Derived.Test.YtngcdgnijfiocaaGreatDoorL3
namespace Go.Proofs.YtngcdgnijfiocaaGreatDoor
open Go.ChangeShapes Go.WideShapes Go.ChangeAt Go.RowKit Go.Shelf
set_option maxRecDepth 100000

/-- The error of exits that are none. -/
def NoExit (N : Nat) (W : World) : Prop := (∃ T v, W.cell? ⟨2, 0, none⟩ = some (.iface T v)) ∧ 2 < N
theorem NoExit.below {N : Nat} {W W' : World} (h : NoExit N W) {n : Nat} (hb : Below n W W') (hn : N ≤ n) : NoExit N W' := by
  obtain ⟨⟨T, v, e⟩, hl⟩ := h
  exact ⟨⟨T, v, (hb.cell (p := ⟨2, 0, none⟩) (Nat.lt_of_lt_of_le hl hn)).trans e⟩, hl⟩

theorem gNoX : Tryz.prog.globalNamed "loop.example/surelywrong/impl.errNoExit" = some 2 := by kernel_rfl
theorem tNoX : (Tryz.prog.globals[2]?).map (·.type) = some 60 := by kernel_rfl
/-- What the rows list. -/
def laidVX : List (String × DataW Unit) := [("loop.example/surelywrong/impl.comparedWithNumbers", Rows.laid_loop_example_surelywrong_impl_comparedWithNumbers), ("loop.example/surelywrong/impl.comparedVariables", Rows.laid_loop_example_surelywrong_impl_comparedVariables), ("loop.example/surelywrong/impl.errNoProgram", Rows.laid_loop_example_surelywrong_impl_errNoProgram), ("loop.example/surelywrong/impl.assignments", Rows.laid_loop_example_surelywrong_impl_assignments), ("loop.example/surelywrong/impl.errNoExit", Rows.laid_loop_example_surelywrong_impl_errNoExit)]

/-- What the condition gives. -/
theorem of_laidX {W : World} (h : laidMet Tryz.prog laidVX W) : Laid3 W.heap.size W ∧ NoExit W.heap.size W := by
  obtain ⟨an, sn, hn, _, _, _⟩ := laid_sentinel (h.tail.tail.tail.tail) gNoX tNoX Tryz.underlying60 rowPtr Tryz.underlying187 Tryz.underlying205 rfl rfl Tryz.underlying9 cellsStruct cellsString
  have dn : W.cell? ⟨2, 0, none⟩ = some (.iface 187 (.pointer (some an))) := by simpa using World.var?_cell gNoX hn 0
  obtain ⟨ae, se, he, hse, _, _⟩ := laid_sentinel (h.tail.tail) gErr tErr Tryz.underlying60 rowPtr Tryz.underlying187 Tryz.underlying205 rfl rfl Tryz.underlying9 cellsStruct cellsString
  obtain ⟨_, ⟨g0, t0, cs0, f0, p0, q0, hg0, ht0, hv0, hd0, ⟨g1, t1, cs1, f1, p1, q1, hg1, ht1, hv1, hd1, ⟨g2, t2, cs2, f2, p2, q2, hg2, ht2, hv2, hd2, ⟨g3, t3, cs3, f3, p3, q3, hg3, ht3, hv3, hd3, _, _⟩, _⟩, _⟩, _⟩, _, _⟩ := h
  obtain rfl := Option.some.inj (gNums.symm.trans hg0)
  obtain rfl := Option.some.inj (gVars.symm.trans hg1)
  obtain rfl := Option.some.inj (gAsg.symm.trans hg3)
  obtain rfl := Option.some.inj (tNums.symm.trans ht0)
  obtain rfl := Option.some.inj (tVars.symm.trans ht1)
  obtain rfl := Option.some.inj (tAsg.symm.trans ht3)
  obtain ⟨x0, c0, e0, k0⟩ := table_of (bs := tails) Tryz.underlying29 hd0
  obtain ⟨x1, c1, e1, k1⟩ := table_of (bs := both) Tryz.underlying29 hd1
  obtain ⟨x3, c3, e3, k3⟩ := table_of (bs := twos) Tryz.underlying29 hd3
  have d0 : W.cell? ⟨6, 0, none⟩ = some (.slice (some x0) 8 c0) := by rw [World.var?_cell hg0 hv0 0, ← Array.getElem?_toList, e0]; rfl
  have d1 : W.cell? ⟨4, 0, none⟩ = some (.slice (some x1) 4 c1) := by rw [World.var?_cell hg1 hv1 0, ← Array.getElem?_toList, e1]; rfl
  have d3 : W.cell? ⟨3, 0, none⟩ = some (.slice (some x3) 12 c3) := by rw [World.var?_cell hg3 hv3 0, ← Array.getElem?_toList, e3]; rfl
  have de : W.cell? ⟨0, 0, none⟩ = some (.iface 187 (.pointer (some ae))) := by simpa using World.var?_cell gErr he 0
  have b0 := lt_of_cell' (k0 0 _ rfl)
  have b1 := lt_of_cell' (k1 0 _ rfl)
  have b3 := lt_of_cell' (k3 0 _ rfl)
  rw [add_block] at b0 b1 b3
  refine ⟨?_, ⟨187, _, dn⟩, lt_of_cell' dn⟩
  exact ⟨⟨⟨x0, c0, d0, k0, lt_of_cell' d0, b0⟩, ⟨x1, c1, d1, k1, lt_of_cell' d1, b1⟩, Nat.le_refl _⟩, ⟨x3, c3, d3, k3, lt_of_cell' d3, b3⟩, ⟨187, _, de⟩, lt_of_cell' de⟩

theorem trodVars_lenX {H : Type} {enc : TypeId × Value → H} {P : Program} {w : World} {sp : Nat → Bool} {n0 n1 n2 n3 n4 : String} {gs : List (DataW H)} {ps : List MemPlace} (h : DataW.TrodVars enc P w sp [n0, n1, n2, n3, n4] gs ps) : ∃ d0 d1 d2 d3 d4, gs = [d0, d1, d2, d3, d4] := by
  have hl := trodVars_len h
  match gs, hl with
  | [d0, d1, d2, d3, d4], _ => exact ⟨d0, d1, d2, d3, d4, rfl⟩
end Go.Proofs.YtngcdgnijfiocaaGreatDoor

