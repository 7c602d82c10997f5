/- Chapter 6, the laws' own helpers: a list of lines copied, two of them compared. -/
import Derived.Test.YtgdgbjnmibkmhaaGreatDoorHS
namespace Go.Proofs.YtgdgbjnmibkmhaaGreatDoor
open Go.ChangeShapes Go.WideShapes Go.ChangeAt Go.RowKit Go.Shelf
attribute [local go_sem] Oper.semAt_some
set_option maxRecDepth 100000

/-! ### A list's own block -/
def BlkAt (W : World) (g n : Nat) : Prop := ∃ arr, W.heap[g]? = some (.cells arr 33 (0, 0)) ∧ arr.size = n
theorem BlkAt.lt {W : World} {g n : Nat} (h : BlkAt W g n) : g < W.heap.size := by obtain ⟨arr, h, _⟩ := h; exact (Array.getElem?_eq_some_iff.1 h).1
theorem BlkAt.below {W W' : World} {g n m : Nat} (h : BlkAt W g n) (hb : Below m W W') (hg : g < m) : BlkAt W' g n := by obtain ⟨arr, h, hs⟩ := h; exact ⟨arr, (hb.block g hg).trans h, hs⟩
theorem BlkAt.set {W : World} {g n : Nat} (h : BlkAt W g n) (i : Nat) (v : Value) : BlkAt (W.setCell ⟨g, i, none⟩ v) g n := by
  obtain ⟨arr, h, hs⟩ := h
  exact ⟨_, heap_setCell_same W g i arr _ v h, by simpa using hs⟩
theorem BlkAt.cell {W : World} {g n i : Nat} (h : BlkAt W g n) (hi : i < n) : ∃ u, W.cell? ⟨g, i, none⟩ = some u := by
  obtain ⟨arr, h, hs⟩ := h
  exact ⟨arr[i]'(by omega), by rw [cell_of_row _ g i _ _ (0, 0) h]; exact Array.getElem?_eq_getElem _⟩
theorem BlkAt.frozen {W : World} {g n : Nat} (h : BlkAt W g n) (i : Nat) : W.frozen? ⟨g, i, none⟩ = false := by
  obtain ⟨arr, h, hs⟩ := h
  unfold World.frozen?
  rw [h]
  rfl
/-- A line of a list of one's own, at o of block g: its references lie in blocks from B on. -/
def OLine (B : Nat) (W : World) (g o : Nat) (l : LineD) : Prop := TripCells W g o l.t ∧ W.cell? ⟨g, o + 4, none⟩ = some (.string l.rule) ∧ ∃ h, W.cell? ⟨g, o + 5, none⟩ = some (.slice (some ⟨h, 0, none⟩) l.refs.length l.refs.length) ∧ IRow W B (.slice (some ⟨h, 0, none⟩) l.refs.length l.refs.length) l.refs
theorem OLine.line {B : Nat} {W : World} {g o : Nat} {l : LineD} (h : OLine B W g o l) : LineCells W g o l := by
  obtain ⟨h1, h2, k, h3, h4⟩ := h
  exact ⟨h1, h2, _, h3, h4.ints⟩
theorem OLine.below {B : Nat} {W W' : World} {g o : Nat} {l : LineD} (h : OLine B W g o l) (hb : Below W.heap.size W W') : OLine B W' g o l := by
  obtain ⟨h1, h2, k, h3, h4⟩ := h
  exact ⟨h1.below hb, cell_below hb h2, k, cell_below hb h3, h4.below hb⟩
theorem OLine.set {B : Nat} {W : World} {g o i : Nat} {l : LineD} (h : OLine B W g o l) (hg : g < B) (hi : i < o ∨ o + 6 ≤ i) (v : Value) : OLine B (W.setCell ⟨g, i, none⟩ v) g o l := by
  have ne : ∀ j, j < 6 → (⟨g, i, none⟩ : Addr) ≠ ⟨g, o + j, none⟩ := fun j hj e => by
    have : i = o + j := congrArg Addr.off e
    omega
  obtain ⟨⟨a0, a1, a2, a3⟩, h2, k, h3, h4⟩ := h
  refine ⟨⟨?_, ?_, ?_, ?_⟩, ?_, k, ?_, h4.set_low hg v⟩
  · exact (World.cell?_setCell_other _ _ _ _ (ne 0 (by omega))).trans a0
  · exact (World.cell?_setCell_other _ _ _ _ (ne 1 (by omega))).trans a1
  · exact (World.cell?_setCell_other _ _ _ _ (ne 2 (by omega))).trans a2
  · exact (World.cell?_setCell_other _ _ _ _ (ne 3 (by omega))).trans a3
  · exact (World.cell?_setCell_other _ _ _ _ (ne 4 (by omega))).trans h2
  · exact (World.cell?_setCell_other _ _ _ _ (ne 5 (by omega))).trans h3
/-- Six cells stored, one behind the other. -/
def six6 (W : World) (g o : Nat) (c0 c1 c2 c3 c4 c5 : Value) : World := (((((W.setCell ⟨g, o, none⟩ c0).setCell ⟨g, o + 1, none⟩ c1).setCell ⟨g, o + 2, none⟩ c2).setCell ⟨g, o + 3, none⟩ c3).setCell ⟨g, o + 4, none⟩ c4).setCell ⟨g, o + 5, none⟩ c5
theorem six6_blk {W : World} {g n : Nat} (h : BlkAt W g n) (o : Nat) (c0 c1 c2 c3 c4 c5 : Value) : BlkAt (six6 W g o c0 c1 c2 c3 c4 c5) g n := (((((h.set _ _).set _ _).set _ _).set _ _).set _ _).set _ _
theorem six6_keep {B : Nat} {W : World} {g o q : Nat} {l : LineD} (h : OLine B W g q l) (hg : g < B) (hi : o + 6 ≤ q ∨ q + 6 ≤ o) (c0 c1 c2 c3 c4 c5 : Value) : OLine B (six6 W g o c0 c1 c2 c3 c4 c5) g q l :=
  (((((h.set (i := o) hg (by omega) c0).set (i := o + 1) hg (by omega) c1).set (i := o + 2) hg (by omega) c2).set (i := o + 3) hg (by omega) c3).set (i := o + 4) hg (by omega) c4).set (i := o + 5) hg (by omega) c5
theorem six6_below {A W : World} {n g : Nat} (h : Below n A W) (hg : n ≤ g) (o : Nat) (c0 c1 c2 c3 c4 c5 : Value) : Below n A (six6 W g o c0 c1 c2 c3 c4 c5) :=
  below_cell (below_cell (below_cell (below_cell (below_cell (below_cell h hg c0) hg c1) hg c2) hg c3) hg c4) hg c5
theorem six6_row {B : Nat} {W : World} {g o : Nat} {v : Value} {zs : List Int} (h : IRow W B v zs) (hg : g < B) (c0 c1 c2 c3 c4 c5 : Value) : IRow (six6 W g o c0 c1 c2 c3 c4 c5) B v zs :=
  (((((h.set_low hg c0).set_low hg c1).set_low hg c2).set_low hg c3).set_low hg c4).set_low hg c5
theorem blk_here {W : World} {g n o : Nat} (h : BlkAt W g n) (ho : o < n) (v : Value) : (W.setCell ⟨g, o, none⟩ v).cell? ⟨g, o, none⟩ = some v := by
  obtain ⟨u, hu⟩ := h.cell ho
  exact World.cell?_setCell_same _ _ _ hu
theorem keep_cell {W : World} {g o i : Nat} {c u : Value} (h : W.cell? ⟨g, o, none⟩ = some c) (hi : i ≠ o) : (W.setCell ⟨g, i, none⟩ u).cell? ⟨g, o, none⟩ = some c :=
  (World.cell?_setCell_other _ _ _ _ (fun e => hi (congrArg Addr.off e))).trans h
theorem six6_line {B : Nat} {W : World} {g n o h : Nat} {l : LineD} (hb : BlkAt W g n) (ho : o + 6 ≤ n) (hr : IRow W B (.slice (some ⟨h, 0, none⟩) l.refs.length l.refs.length) l.refs) (hg : g < B) :
    OLine B (six6 W g o (.int .i64 l.t.b) (.string l.t.p) (.int .i64 l.t.x) (.int .i64 l.t.r) (.string l.rule) (.slice (some ⟨h, 0, none⟩) l.refs.length l.refs.length)) g o l := by
  have b0 := hb.set o (.int .i64 l.t.b)
  have b1 := b0.set (o + 1) (.string l.t.p)
  have b2 := b1.set (o + 2) (.int .i64 l.t.x)
  have b3 := b2.set (o + 3) (.int .i64 l.t.r)
  have b4 := b3.set (o + 4) (.string l.rule)
  refine ⟨⟨?_, ?_, ?_, ?_⟩, ?_, h, ?_, six6_row hr hg _ _ _ _ _ _⟩
  · exact keep_cell (keep_cell (keep_cell (keep_cell (keep_cell (blk_here hb (by omega) _) (by omega)) (by omega)) (by omega)) (by omega)) (by omega)
  · exact keep_cell (keep_cell (keep_cell (keep_cell (blk_here b0 (by omega) _) (by omega)) (by omega)) (by omega)) (by omega)
  · exact keep_cell (keep_cell (keep_cell (blk_here b1 (by omega) _) (by omega)) (by omega)) (by omega)
  · exact keep_cell (keep_cell (blk_here b2 (by omega) _) (by omega)) (by omega)
  · exact keep_cell (blk_here b3 (by omega) _) (by omega)
  · exact blk_here b4 (by omega) _
theorem infoLine : ((Tryz.prog.info? 33).bind fun i => i.zero.map fun z => (z.cells.size, i.size, i.bytes)) = some (6, 6, 80) := by kernel_rfl
set_option maxHeartbeats 4000000 in
theorem toS56 {W : World} {v : Value} {ls : List LineD} (h : LinesAt W v ls) (hn : ls.length ≤ 1048576) (hr : ∀ l ∈ ls, l.refs.length ≤ 1048576) :
    Calls Tryz.prog 19 #[v] W fun e W' => e = .returned (.slice (some ⟨W.heap.size, 0, none⟩) ls.length ls.length) ∧ BlkAt W' W.heap.size (ls.length * 6) ∧ (∀ (j : Nat) l, ls[j]? = some l → OLine (W.heap.size + 1) W' W.heap.size (j * 6) l) ∧ Below W.heap.size W W' := by
  obtain ⟨a, cap, rfl, q1, q2, q3⟩ := h
  unfold maxLen at q2
  obtain ⟨il, z, hi, hz, hzs, his, hby⟩ : ∃ il z, Tryz.prog.info? 33 = some il ∧ il.zero = some z ∧ z.cells.size = 6 ∧ il.size = 6 ∧ il.bytes = 80 := by
    have := infoLine
    cases hi : Tryz.prog.info? 33 with
    | none => rw [hi] at this; cases this
    | some il =>
      rw [hi] at this
      cases hz : il.zero with
      | none => simp [hz] at this
      | some z =>
        simp [hz] at this
        exact ⟨il, z, rfl, hz, this.1, this.2.1, this.2.2⟩
  have hmk := run_make (P := Tryz.prog) W 43 33 il z Tryz.underlying43 hi hz .i64 .i64 (ls.length : Int) (ls.length : Int) (by omega) (Int.le_refl _) (by rw [hby]; omega) (by omega)
  rw [Int.toNat_natCast, his] at hmk
  have hB0 : BlkAt (W.alloc (.cells (madeCells z.cells (ls.length * 6)) 33)) W.heap.size (ls.length * 6) := ⟨_, heap_alloc_new W _, size_madeCells _ _⟩
  have hW0 : Below W.heap.size W (W.alloc (.cells (madeCells z.cells (ls.length * 6)) 33)) := (Below.refl _ W).alloc (Nat.le_refl _) _
  have hni : (ls.length : Int) ≤ 1048576 := by omega
  clear hi hz hzs his hby
  obtain ⟨g, hg⟩ : ∃ g, g = W.heap.size := ⟨_, rfl⟩
  rw [← hg] at hmk hB0 hW0 ⊢
  have HGs := Lib.hid hg
  clear hg
  generalize W.alloc (.cells (madeCells z.cells (ls.length * 6)) 33) = W1 at hmk hB0 hW0
  go_enter Tryz.func19, Tryz.ntmps19
  go_wp2_with fail
  clear hmk
  go_loopw [4] (fun i wr => ∃ k : Nat, k ≤ ls.length ∧ i = .int .i64 (k : Int) ∧ BlkAt wr g (ls.length * 6) ∧ (∀ (j : Nat) l, j < k → ls[j]? = some l → OLine (g + 1) wr g (j * 6) l) ∧ Below g W wr) (fun i _ => ls.length - (intOf i).toNat)
  case atStart => exact ⟨0, by omega, rfl, hB0, fun j l hj => by omega, hW0⟩
  case round =>
    obtain ⟨k, hk, rfl, hBk, hO, hB⟩ := hrel
    by_cases hlt : k < ls.length
    · have hlt2 : (k : Int) < (ls.length : Int) := by omega
      have hl : ls[k]? = some ls[k] := List.getElem?_eq_getElem hlt
      rcases q3 with q3 | ⟨b, off, rfl, q3⟩
      · rw [q3] at hlt; simp at hlt
      have hrl := hr ls[k] (List.getElem_mem hlt)
      have hc := (q3 k _ hl).below (show Below W.heap.size W wr by rw [← HGs.out]; exact hB)
      generalize ls[k] = l at hl hrl hc
      obtain ⟨vr, hI, c0, c1, c2, c3, c4, c5⟩ := line_cells hc
      have hcp : vr.cells = #[vr] := by obtain ⟨a, cap, rfl, _⟩ := hI; rfl
      have hgk := hBk.lt
      go_wp2_with fail
      go_at_call 12
      refine (toL51 l.t.b l.t.p l.t.x l.t.r l.rule vr l.refs _ hI hrl).mono ?_
      rintro e W2 ⟨h2, rfl, hrow, b2⟩
      have hk6 : k * 6 + 6 ≤ ls.length * 6 := by omega
      have hB2 := hBk.below b2 hgk
      have hO2 := fun (j : Nat) l' (hj : j < k) (hl' : ls[j]? = some l') => (hO j l' hj hl').below b2
      have hBW := hB.trans (b2.mono (Nat.le_of_lt hgk))
      have hrow := hrow.mono (B' := g + 1) hgk
      have d0 := hB2.set (k * 6) (.int .i64 l.t.b)
      have d1 := d0.set (k * 6 + 1) (.string l.t.p)
      have d2 := d1.set (k * 6 + 2) (.int .i64 l.t.x)
      have d3 := d2.set (k * 6 + 3) (.int .i64 l.t.r)
      have d4 := d3.set (k * 6 + 4) (.string l.rule)
      obtain ⟨u0, y0⟩ := hB2.cell (i := k * 6) (by omega)
      obtain ⟨u1, y1⟩ := hB2.cell (i := k * 6 + 1) (by omega)
      obtain ⟨u2, y2⟩ := hB2.cell (i := k * 6 + 2) (by omega)
      obtain ⟨u3, y3⟩ := hB2.cell (i := k * 6 + 3) (by omega)
      obtain ⟨u4, y4⟩ := hB2.cell (i := k * 6 + 4) (by omega)
      obtain ⟨u5, y5⟩ := hB2.cell (i := k * 6 + 5) (by omega)
      have f0 := hB2.frozen (k * 6)
      have f1 := hB2.frozen (k * 6 + 1)
      have f2 := hB2.frozen (k * 6 + 2)
      have f3 := hB2.frozen (k * 6 + 3)
      have f4 := hB2.frozen (k * 6 + 4)
      have f5 := hB2.frozen (k * 6 + 5)
      have HX := Lib.hid (And.intro hB2 (And.intro hO2 (And.intro hBW hrow)))
      clear hBk hO hB hrow b2 c0 c1 c2 c3 c4 c5 hI hc d0 d1 d2 d3 d4 hB2 hO2 hBW q3
      go_wp2_with fail
      go_roundw
      case rel =>
        obtain ⟨hB2, hO2, hBW, hrow⟩ := HX.out
        refine ⟨k + 1, by omega, by go_num, six6_blk hB2 _ _ _ _ _ _ _, fun j l' hj hl' => ?_, six6_below hBW (Nat.le_refl _) _ _ _ _ _ _ _⟩
        by_cases he : j = k
        · subst he
          rw [hl] at hl'
          cases hl'
          exact six6_line hB2 hk6 hrow (Nat.lt_succ_self _)
        · exact six6_keep (hO2 j l' (by omega) hl') (Nat.lt_succ_self _) (by omega) _ _ _ _ _ _
      case measure => simp [intOf]; omega
    · have hkn : k = ls.length := by omega
      have hge : ¬ ((k : Int) < (ls.length : Int)) := by omega
      go_wp2_with fail
      go_ret
      exact ⟨rfl, hBk, fun j l hl => hO j l (by have := (List.getElem?_eq_some_iff.1 hl).1; omega) hl, hB⟩
/-! ### Compared -/
set_option maxHeartbeats 2000000 in
theorem eqL53 (b : Int) (p : ByteArray) (x r : Int) (u : ByteArray) (v1 v2 : Value) (zs : List Int) (W : World) (h1 : IntsAt W v1 zs) (h2 : IntsAt W v2 zs) :
    Calls Tryz.prog 15 #[.agg #[.int .i64 b, .string p, .int .i64 x, .int .i64 r, .string u, v1], .agg #[.int .i64 b, .string p, .int .i64 x, .int .i64 r, .string u, v2]] W fun e W' => e = .returned (.bool true) ∧ Below W.heap.size W W' := by
  have a0 := (Six.new W 33 (.int .i64 b) (.string p) (.int .i64 x) (.int .i64 r) (.string u) v1).alloc (.cells #[.int .i64 b, .string p, .int .i64 x, .int .i64 r, .string u, v2] 33)
  have b0 := Six.new (W.alloc (.cells #[.int .i64 b, .string p, .int .i64 x, .int .i64 r, .string u, v1] 33)) 33 (.int .i64 b) (.string p) (.int .i64 x) (.int .i64 r) (.string u) v2
  rw [World.size_alloc] at b0
  have hb0 : Below W.heap.size W ((W.alloc (.cells #[.int .i64 b, .string p, .int .i64 x, .int .i64 r, .string u, v1] 33)).alloc (.cells #[.int .i64 b, .string p, .int .i64 x, .int .i64 r, .string u, v2] 33)) := ((Below.refl _ W).alloc (Nat.le_refl _) _).alloc (by simp) _
  have e1 : v1.cells = #[v1] := by obtain ⟨a, cap, rfl, _⟩ := h1; rfl
  have e2 : v2.cells = #[v2] := by obtain ⟨a, cap, rfl, _⟩ := h2; rfl
  go_enter Tryz.func15, Tryz.ntmps15
  go_wp2_with fail
  go_at_call 49
  refine (eq20 b p x r _).mono ?_
  rintro e W1 ⟨rfl, b1⟩
  have a1 := a0.below b1 a0.lt
  have c1 := b0.below b1 b0.lt
  have hb1 := hb0.trans (b1.mono hb0.size)
  have i1 := h1.below hb1
  have i2 := h2.below hb1
  obtain ⟨_, _, _, _, m4, m5⟩ := a1.cells
  obtain ⟨_, _, _, _, n4, n5⟩ := c1.cells
  clear a0 b0 hb0 b1 h1 h2
  go_wp2_with fail
  go_at_call 28
  refine (ieqI i1 i2).mono ?_
  rintro e W2 ⟨rfl, b2⟩
  have hb2 := hb1.trans (b2.mono hb1.size)
  go_wp2_with fail
  go_ret
  exact ⟨rfl, hb2⟩
set_option maxHeartbeats 2000000 in
theorem eqS57 {W : World} {v1 v2 : Value} {ls : List LineD} (h1 : LinesAt W v1 ls) (h2 : LinesAt W v2 ls) (hn : ls.length ≤ 1048576) :
    Calls Tryz.prog 21 #[v1, v2] W fun e W' => e = .returned (.bool true) ∧ Below W.heap.size W W' := by
  obtain ⟨a, c, rfl, _, _, q3⟩ := h1
  obtain ⟨a', c', rfl, _, _, r3⟩ := h2
  have hni : (ls.length : Int) ≤ 1048576 := by omega
  have hne : ((ls.length : Int) == (ls.length : Int)) = true := by simp
  go_enter Tryz.func21, Tryz.ntmps21
  go_wp2_with fail
  go_loopw [5] (fun i wr => ∃ k : Nat, k ≤ ls.length ∧ i = .int .i64 (k : Int) ∧ Below W.heap.size W wr) (fun i _ => ls.length - (intOf i).toNat)
  case atStart => exact ⟨0, by omega, rfl, Below.refl _ _⟩
  case round =>
    obtain ⟨k, hk, rfl, hB⟩ := hrel
    by_cases hlt : k < ls.length
    · have hlt2 : (k : Int) < (ls.length : Int) := by omega
      have hl : ls[k]? = some ls[k] := List.getElem?_eq_getElem hlt
      rcases q3 with q3 | ⟨g, off, rfl, q3⟩
      · rw [q3] at hlt; simp at hlt
      rcases r3 with r3 | ⟨g', off', rfl, r3⟩
      · rw [r3] at hlt; simp at hlt
      have hc := ((q3 k _ hl).below hB).below ((Below.refl _ wr).drew)
      have hd := ((r3 k _ hl).below hB).below ((Below.refl _ wr).drew)
      generalize ls[k] = l at hl hc hd
      obtain ⟨va, i1, c0, c1, c2, c3, c4, c5⟩ := line_cells hc
      obtain ⟨vb, i2, d0, d1, d2, d3, d4, d5⟩ := line_cells hd
      have e1 : va.cells = #[va] := by obtain ⟨a, cap, rfl, _⟩ := i1; rfl
      have e2 : vb.cells = #[vb] := by obtain ⟨a, cap, rfl, _⟩ := i2; rfl
      have hC := eqL53 l.t.b l.t.p l.t.x l.t.r l.rule va vb l.refs wr.drew i1 i2
      clear q3 r3 hc hd i1 i2
      go_wp2_with fail
      go_region_with (go_at_call 15; refine hC.mono ?_; rintro e W1 ⟨rfl, b1⟩)
      all_goals go_wp2_with fail
      all_goals go_roundw
      all_goals first
        | exact ⟨k + 1, by omega, by go_num, hB.trans (((Below.refl _ wr).drew.trans b1).mono hB.size)⟩
        | (simp [intOf]; omega)
    · have hkn : k = ls.length := by omega
      have hge : ¬ ((k : Int) < (ls.length : Int)) := by omega
      go_wp2_with fail
      go_ret
      exact ⟨rfl, hB⟩
end Go.Proofs.YtgdgbjnmibkmhaaGreatDoor

