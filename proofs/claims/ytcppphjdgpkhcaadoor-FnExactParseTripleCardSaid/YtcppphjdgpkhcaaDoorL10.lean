/- What the condition lays, where ten variables are listed: two tables of utf8 and four errors more. -/
import Derived.Test.YtcppphjdgpkhcaaDoorTO
import Derived.Test.YtcppphjdgpkhcaaDoorL3
import Derived.PinnedBridge
namespace Go.Proofs.YtcppphjdgpkhcaaDoor
open Go.ChangeShapes Go.WideShapes Go.ChangeAt Go.RowKit
set_option maxRecDepth 100000

theorem gNs : Tryd.prog.globalNamed "loop.example/surelywrong/impl.errNoState" = some 4 := by kernel_rfl
theorem tNs : (Tryd.prog.globals[4]?).map (·.type) = some 38 := by kernel_rfl
theorem gSo : Tryd.prog.globalNamed "loop.example/surelywrong/impl.errStateOrder" = some 1 := by kernel_rfl
theorem tSo : (Tryd.prog.globals[1]?).map (·.type) = some 38 := by kernel_rfl
theorem gNx : Tryd.prog.globalNamed "loop.example/surelywrong/impl.errNoExit" = some 3 := by kernel_rfl
theorem tNx : (Tryd.prog.globals[3]?).map (·.type) = some 38 := by kernel_rfl
theorem gMt : Tryd.prog.globalNamed "loop.example/surelywrong/impl.errMoreText" = some 0 := by kernel_rfl
theorem tMt : (Tryd.prog.globals[0]?).map (·.type) = some 38 := by kernel_rfl
/-- What the rows list. -/
def laidV10 : List (String × DataW Unit) := [("unicode/utf8.acceptRanges", Rows.laid_unicode_utf8_acceptRanges), ("loop.example/surelywrong/impl.errNoState", Rows.laid_loop_example_surelywrong_impl_errNoState), ("loop.example/surelywrong/impl.errStateOrder", Rows.laid_loop_example_surelywrong_impl_errStateOrder), ("loop.example/surelywrong/impl.comparedWithNumbers", Rows.laid_loop_example_surelywrong_impl_comparedWithNumbers), ("loop.example/surelywrong/impl.comparedVariables", Rows.laid_loop_example_surelywrong_impl_comparedVariables), ("loop.example/surelywrong/impl.errNoProgram", Rows.laid_loop_example_surelywrong_impl_errNoProgram), ("loop.example/surelywrong/impl.assignments", Rows.laid_loop_example_surelywrong_impl_assignments), ("loop.example/surelywrong/impl.errNoExit", Rows.laid_loop_example_surelywrong_impl_errNoExit), ("loop.example/surelywrong/impl.errMoreText", Rows.laid_loop_example_surelywrong_impl_errMoreText), ("unicode/utf8.first", Rows.laid_unicode_utf8_first)]
/-- The error of texts that go on. -/
def MoreText (N : Nat) (W : World) : Prop := (∃ T v, W.cell? ⟨0, 0, none⟩ = some (.iface T v)) ∧ 0 < N
/-- All that a triple's reader reads of the package. -/
structure LaidT (N : Nat) (W : World) : Prop where
  three : Laid3 N W
  set : SetErrs N W
  exit : NoExit N W
  more : MoreText N W
theorem cell_grown {N : Nat} {W W' : World} {g k : Nat} {v : Value} (hg : W.grownBy W' (some g)) (hn : N ≤ g) (hw : N ≤ W.heap.size) (hk : k < N) (e : W.cell? ⟨k, 0, none⟩ = some v) : W'.cell? ⟨k, 0, none⟩ = some v :=
  (World.cell?_of_block (a := ⟨k, 0, none⟩) (hg.block k (Nat.lt_of_lt_of_le hk hw) (by intro q; cases q; exact absurd hk (Nat.not_lt.2 hn)))).trans e
theorem LaidT.grown {N : Nat} {W W' : World} (h : LaidT N W) {g : Nat} (hg : W.grownBy W' (some g)) (hn : N ≤ g) (hw : N ≤ W.heap.size) : LaidT N W' := by
  obtain ⟨h3, hs, ⟨⟨T, v, e⟩, hl⟩, ⟨T', v', e'⟩, hl'⟩ := h
  exact ⟨h3.grown hg hn, hs.grown hg hn hw, ⟨⟨T, v, cell_grown hg hn hw hl e⟩, hl⟩, ⟨T', v', cell_grown hg hn hw hl' e'⟩, hl'⟩
theorem LaidT.below {N : Nat} {W W' : World} (h : LaidT N W) {n : Nat} (hb : Below n W W') (hn : N ≤ n) : LaidT N W' := by
  obtain ⟨h3, ⟨⟨T1, v1, e1⟩, ⟨T2, v2, e2⟩, l1, l2⟩, hx, ⟨T', v', e'⟩, hl'⟩ := h
  refine ⟨h3.below hb hn, ⟨⟨T1, v1, ?_⟩, ⟨T2, v2, ?_⟩, l1, l2⟩, hx.below hb hn, ⟨T', v', ?_⟩, hl'⟩
  · exact (hb.cell (p := ⟨1, 0, none⟩) (Nat.lt_of_lt_of_le l1 hn)).trans e1
  · exact (hb.cell (p := ⟨4, 0, none⟩) (Nat.lt_of_lt_of_le l2 hn)).trans e2
  · exact (hb.cell (p := ⟨0, 0, none⟩) (Nat.lt_of_lt_of_le hl' hn)).trans e'
theorem LaidT.lt {N : Nat} {W : World} (h : LaidT N W) : N ≤ W.heap.size := h.three.lt

set_option maxHeartbeats 1000000 in
/-- What the condition gives. -/
theorem of_laid10 {W : World} (h : laidMet Tryd.prog laidV10 W) : LaidT W.heap.size W := by
  obtain ⟨a1, _, h1, _⟩ := laid_sentinel (h.tail) gNs tNs Tryd.underlying38 rowPtr Tryd.underlying165 Tryd.underlying189 rfl rfl Tryd.underlying9 cellsStruct cellsString
  obtain ⟨a2, _, h2, _⟩ := laid_sentinel (h.tail.tail) gSo tSo Tryd.underlying38 rowPtr Tryd.underlying165 Tryd.underlying189 rfl rfl Tryd.underlying9 cellsStruct cellsString
  obtain ⟨ae, _, he, _⟩ := laid_sentinel (h.tail.tail.tail.tail.tail) gErr tErr Tryd.underlying38 rowPtr Tryd.underlying165 Tryd.underlying189 rfl rfl Tryd.underlying9 cellsStruct cellsString
  obtain ⟨a7, _, h7, _⟩ := laid_sentinel (h.tail.tail.tail.tail.tail.tail.tail) gNx tNx Tryd.underlying38 rowPtr Tryd.underlying165 Tryd.underlying189 rfl rfl Tryd.underlying9 cellsStruct cellsString
  obtain ⟨a8, _, h8, _⟩ := laid_sentinel (h.tail.tail.tail.tail.tail.tail.tail.tail) gMt tMt Tryd.underlying38 rowPtr Tryd.underlying165 Tryd.underlying189 rfl rfl Tryd.underlying9 cellsStruct cellsString
  have q1 : W.cell? ⟨4, 0, none⟩ = some (.iface 165 (.pointer (some a1))) := by simpa using World.var?_cell gNs h1 0
  have q2 : W.cell? ⟨1, 0, none⟩ = some (.iface 165 (.pointer (some a2))) := by simpa using World.var?_cell gSo h2 0
  have qe : W.cell? ⟨2, 0, none⟩ = some (.iface 165 (.pointer (some ae))) := by simpa using World.var?_cell gErr he 0
  have q7 : W.cell? ⟨3, 0, none⟩ = some (.iface 165 (.pointer (some a7))) := by simpa using World.var?_cell gNx h7 0
  have q8 : W.cell? ⟨0, 0, none⟩ = some (.iface 165 (.pointer (some a8))) := by simpa using World.var?_cell gMt h8 0
  have t3 := h.tail.tail.tail
  have t6 := h.tail.tail.tail.tail.tail.tail
  obtain ⟨_, ⟨g0, t0, cs0, f0, p0, q0, hg0, ht0, hv0, hd0, ⟨g1, t1, cs1, f1, p1, _, hg1, ht1, hv1, hd1, _, _⟩, _⟩, _, _⟩ := t3
  obtain ⟨_, ⟨g3, t3, cs3, f3, p3, _, hg3, ht3, hv3, hd3, _, _⟩, _, _⟩ := t6
  obtain rfl := Option.some.inj (gNums.symm.trans hg0)
  obtain rfl := Option.some.inj (gVars.symm.trans hg1)
  obtain rfl := Option.some.inj (gAsg.symm.trans hg3)
  obtain rfl := Option.some.inj (tNums.symm.trans ht0)
  obtain rfl := Option.some.inj (tVars.symm.trans ht1)
  obtain rfl := Option.some.inj (tAsg.symm.trans ht3)
  obtain ⟨x0, c0, e0, k0⟩ := table_of (bs := tails) Tryd.underlying28 hd0
  obtain ⟨x1, c1, e1, k1⟩ := table_of (bs := both) Tryd.underlying28 hd1
  obtain ⟨x3, c3, e3, k3⟩ := table_of (bs := twos) Tryd.underlying28 hd3
  have d0 : W.cell? ⟨11, 0, none⟩ = some (.slice (some x0) 8 c0) := by rw [World.var?_cell hg0 hv0 0, ← Array.getElem?_toList, e0]; rfl
  have d1 : W.cell? ⟨10, 0, none⟩ = some (.slice (some x1) 4 c1) := by rw [World.var?_cell hg1 hv1 0, ← Array.getElem?_toList, e1]; rfl
  have d3 : W.cell? ⟨6, 0, none⟩ = some (.slice (some x3) 12 c3) := by rw [World.var?_cell hg3 hv3 0, ← Array.getElem?_toList, e3]; rfl
  have b0 := lt_of_cell' (k0 0 _ rfl)
  have b1 := lt_of_cell' (k1 0 _ rfl)
  have b3 := lt_of_cell' (k3 0 _ rfl)
  rw [add_block] at b0 b1 b3
  refine ⟨?_, ⟨⟨165, _, q2⟩, ⟨165, _, q1⟩, lt_of_cell' q2, lt_of_cell' q1⟩, ⟨⟨165, _, q7⟩, lt_of_cell' q7⟩, ⟨165, _, q8⟩, lt_of_cell' q8⟩
  exact ⟨⟨⟨x0, c0, d0, k0, lt_of_cell' d0, b0⟩, ⟨x1, c1, d1, k1, lt_of_cell' d1, b1⟩, Nat.le_refl _⟩, ⟨x3, c3, d3, k3, lt_of_cell' d3, b3⟩, ⟨165, _, qe⟩, lt_of_cell' qe⟩
theorem trodVars_len8 {H : Type} {enc : TypeId × Value → H} {P : Program} {w : World} {sp : Nat → Bool} {n0 n1 n2 n3 n4 n5 n6 n7 : String} {gs : List (DataW H)} {ps : List MemPlace} (h : DataW.TrodVars enc P w sp [n0, n1, n2, n3, n4, n5, n6, n7] gs ps) : ∃ d0 d1 d2 d3 d4 d5 d6 d7, gs = [d0, d1, d2, d3, d4, d5, d6, d7] := by
  have hl := trodVars_len h
  match gs, hl with
  | [d0, d1, d2, d3, d4, d5, d6, d7], _ => exact ⟨d0, d1, d2, d3, d4, d5, d6, d7, rfl⟩
end Go.Proofs.YtcppphjdgpkhcaaDoor

