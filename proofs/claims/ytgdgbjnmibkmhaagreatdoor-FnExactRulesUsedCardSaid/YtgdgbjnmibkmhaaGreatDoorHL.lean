/- Chapter 6, the laws' own helpers on one line: its size, its copy, two of them compared. -/
import Derived.Test.YtgdgbjnmibkmhaaGreatDoorHI
import Derived.Test.YtgdgbjnmibkmhaaGreatDoorTW0
namespace Go.Proofs.YtgdgbjnmibkmhaaGreatDoor
open Go.ChangeShapes Go.WideShapes Go.ChangeAt Go.RowKit Go.Shelf
attribute [local go_sem] Oper.semAt_some
set_option maxRecDepth 100000

/-! ### Blocks of six cells -/
def Six (W : World) (g : Nat) (t : TypeId) (c0 c1 c2 c3 c4 c5 : Value) : Prop := W.heap[g]? = some (.cells #[c0, c1, c2, c3, c4, c5] t (0, 0))
theorem Six.new (W : World) (t : TypeId) (c0 c1 c2 c3 c4 c5 : Value) : Six (W.alloc (.cells #[c0, c1, c2, c3, c4, c5] t)) W.heap.size t c0 c1 c2 c3 c4 c5 := heap_alloc_new W _
theorem Six.lt {W : World} {g : Nat} {t : TypeId} {c0 c1 c2 c3 c4 c5 : Value} (h : Six W g t c0 c1 c2 c3 c4 c5) : g < W.heap.size := (Array.getElem?_eq_some_iff.1 h).1
theorem Six.below {W W' : World} {g : Nat} {t : TypeId} {c0 c1 c2 c3 c4 c5 : Value} (h : Six W g t c0 c1 c2 c3 c4 c5) {n : Nat} (hb : Below n W W') (hn : g < n) : Six W' g t c0 c1 c2 c3 c4 c5 := (hb.block g hn).trans h
theorem Six.alloc {W : World} {g : Nat} {t : TypeId} {c0 c1 c2 c3 c4 c5 : Value} (h : Six W g t c0 c1 c2 c3 c4 c5) (o : Obj) : Six (W.alloc o) g t c0 c1 c2 c3 c4 c5 := h.below ((Below.refl _ W).alloc (Nat.le_refl _) o) h.lt
theorem Six.other {W : World} {g g' o : Nat} {t : TypeId} {c0 c1 c2 c3 c4 c5 : Value} (h : Six W g t c0 c1 c2 c3 c4 c5) (hne : g ≠ g') (v : Value) : Six (W.setCell ⟨g', o, none⟩ v) g t c0 c1 c2 c3 c4 c5 := by
  unfold Six at *
  rw [heap_setCell_other W ⟨g', o, none⟩ g _ hne]
  exact h
theorem Six.cells {W : World} {g : Nat} {t : TypeId} {c0 c1 c2 c3 c4 c5 : Value} (h : Six W g t c0 c1 c2 c3 c4 c5) :
    W.cell? ⟨g, 0, none⟩ = some c0 ∧ W.cell? ⟨g, 1, none⟩ = some c1 ∧ W.cell? ⟨g, 2, none⟩ = some c2 ∧ W.cell? ⟨g, 3, none⟩ = some c3 ∧ W.cell? ⟨g, 4, none⟩ = some c4 ∧ W.cell? ⟨g, 5, none⟩ = some c5 := by
  refine ⟨?_, ?_, ?_, ?_, ?_, ?_⟩
  · rw [cell_of_row _ g 0 _ _ (0, 0) h]; rfl
  · rw [cell_of_row _ g 1 _ _ (0, 0) h]; rfl
  · rw [cell_of_row _ g 2 _ _ (0, 0) h]; rfl
  · rw [cell_of_row _ g 3 _ _ (0, 0) h]; rfl
  · rw [cell_of_row _ g 4 _ _ (0, 0) h]; rfl
  · rw [cell_of_row _ g 5 _ _ (0, 0) h]; rfl
theorem Six.frozen {W : World} {g : Nat} {t : TypeId} {c0 c1 c2 c3 c4 c5 : Value} (h : Six W g t c0 c1 c2 c3 c4 c5) :
    W.frozen? ⟨g, 0, none⟩ = false ∧ W.frozen? ⟨g, 1, none⟩ = false ∧ W.frozen? ⟨g, 2, none⟩ = false ∧ W.frozen? ⟨g, 3, none⟩ = false ∧ W.frozen? ⟨g, 4, none⟩ = false ∧ W.frozen? ⟨g, 5, none⟩ = false := by
  unfold Six at h
  refine ⟨?_, ?_, ?_, ?_, ?_, ?_⟩ <;> (unfold World.frozen?; rw [h]; rfl)
theorem Six.set0 {W : World} {g : Nat} {t : TypeId} {c0 c1 c2 c3 c4 c5 : Value} (h : Six W g t c0 c1 c2 c3 c4 c5) (v : Value) : Six (W.setCell ⟨g, 0, none⟩ v) g t v c1 c2 c3 c4 c5 := by
  unfold Six at *
  rw [heap_setCell_same W g 0 _ t _ h]
  rfl
theorem Six.set1 {W : World} {g : Nat} {t : TypeId} {c0 c1 c2 c3 c4 c5 : Value} (h : Six W g t c0 c1 c2 c3 c4 c5) (v : Value) : Six (W.setCell ⟨g, 1, none⟩ v) g t c0 v c2 c3 c4 c5 := by
  unfold Six at *
  rw [heap_setCell_same W g 1 _ t _ h]
  rfl
theorem Six.set2 {W : World} {g : Nat} {t : TypeId} {c0 c1 c2 c3 c4 c5 : Value} (h : Six W g t c0 c1 c2 c3 c4 c5) (v : Value) : Six (W.setCell ⟨g, 2, none⟩ v) g t c0 c1 v c3 c4 c5 := by
  unfold Six at *
  rw [heap_setCell_same W g 2 _ t _ h]
  rfl
theorem Six.set3 {W : World} {g : Nat} {t : TypeId} {c0 c1 c2 c3 c4 c5 : Value} (h : Six W g t c0 c1 c2 c3 c4 c5) (v : Value) : Six (W.setCell ⟨g, 3, none⟩ v) g t c0 c1 c2 v c4 c5 := by
  unfold Six at *
  rw [heap_setCell_same W g 3 _ t _ h]
  rfl
theorem Six.set4 {W : World} {g : Nat} {t : TypeId} {c0 c1 c2 c3 c4 c5 : Value} (h : Six W g t c0 c1 c2 c3 c4 c5) (v : Value) : Six (W.setCell ⟨g, 4, none⟩ v) g t c0 c1 c2 c3 v c5 := by
  unfold Six at *
  rw [heap_setCell_same W g 4 _ t _ h]
  rfl
theorem Six.set5 {W : World} {g : Nat} {t : TypeId} {c0 c1 c2 c3 c4 c5 : Value} (h : Six W g t c0 c1 c2 c3 c4 c5) (v : Value) : Six (W.setCell ⟨g, 5, none⟩ v) g t c0 c1 c2 c3 c4 v := by
  unfold Six at *
  rw [heap_setCell_same W g 5 _ t _ h]
  rfl
theorem below_cell {n g o : Nat} {A U : World} (h : Below n A U) (hn : n ≤ g) (v : Value) : Below n A (U.setCell ⟨g, o, none⟩ v) :=
  ⟨h.os, h.tape, h.output, by simpa using h.size, fun i hi => (heap_setCell_other U ⟨g, o, none⟩ i _ (by show i ≠ g; omega)).trans (h.block i hi)⟩
theorem IRow.set_low {W : World} {B g o : Nat} {v : Value} {zs : List Int} (h : IRow W B v zs) (hg : g < B) (u : Value) : IRow (W.setCell ⟨g, o, none⟩ u) B v zs := by
  obtain ⟨h1, h2⟩ := h
  refine ⟨h1, ?_⟩
  rcases h2 with h2 | ⟨k, cap, cur, a, b, c, d⟩
  · exact .inl h2
  · exact .inr ⟨k, cap, cur, a, b, (heap_setCell_other W ⟨g, o, none⟩ k _ (by show k ≠ g; omega)).trans c, d⟩
theorem row_seven {W : World} {n B : Nat} {v : Value} {zs : List Int} (h : IRow W B v zs) (hn : n + 1 + 1 < B) (h0 : n ≤ B) (s : Value) (b : Int) (p : ByteArray) (x r : Int) (u : ByteArray) :
    IRow (((((((W.setCell ⟨n + 1 + 1, 5, none⟩ s).setCell ⟨n + 1, 0, none⟩ (.int .i64 b)).setCell ⟨n + 1, 1, none⟩ (.string p)).setCell ⟨n + 1, 2, none⟩ (.int .i64 x)).setCell ⟨n + 1, 3, none⟩ (.int .i64 r)).setCell ⟨n + 1, 4, none⟩ (.string u)).setCell ⟨n + 1, 5, none⟩ s) n v zs :=
  (((((((h.set_low (o := 5) hn s).set_low (g := n + 1) (o := 0) (by omega) _).set_low (g := n + 1) (o := 1) (by omega) _).set_low (g := n + 1) (o := 2) (by omega) _).set_low (g := n + 1) (o := 3) (by omega) _).set_low (g := n + 1) (o := 4) (by omega) _).set_low (g := n + 1) (o := 5) (by omega) _).mono h0
/-! ### One line -/
set_option maxHeartbeats 2000000 in
theorem toL51 (b : Int) (p : ByteArray) (x r : Int) (u : ByteArray) (v : Value) (zs : List Int) (W : World) (hI : IntsAt W v zs) (hn : zs.length ≤ 1048576) :
    Calls Tryz.prog 12 #[.agg #[.int .i64 b, .string p, .int .i64 x, .int .i64 r, .string u, v]] W fun e W' => ∃ g', e = .returned (.agg #[.int .i64 b, .string p, .int .i64 x, .int .i64 r, .string u, .slice (some ⟨g', 0, none⟩) zs.length zs.length]) ∧ IRow W' W.heap.size (.slice (some ⟨g', 0, none⟩) zs.length zs.length) zs ∧ Below W.heap.size W W' := by
  have a0 := Six.new W 26 (.int .i64 b) (.string p) (.int .i64 x) (.int .i64 r) (.string u) v
  have hb0 : Below W.heap.size W (W.alloc (.cells #[.int .i64 b, .string p, .int .i64 x, .int .i64 r, .string u, v] 26)) := (Below.refl _ W).alloc (Nat.le_refl _) _
  have r0 := Six.new (W.alloc (.cells #[.int .i64 b, .string p, .int .i64 x, .int .i64 r, .string u, v] 26)) 33 (.int .i64 0) (.string ⟨#[]⟩) (.int .i64 0) (.int .i64 0) (.string ⟨#[]⟩) (.slice none 0 0)
  have o0 := Six.new ((W.alloc (.cells #[.int .i64 b, .string p, .int .i64 x, .int .i64 r, .string u, v] 26)).alloc (.cells #[.int .i64 0, .string ⟨#[]⟩, .int .i64 0, .int .i64 0, .string ⟨#[]⟩, .slice none 0 0] 33)) 33 (.int .i64 0) (.string ⟨#[]⟩) (.int .i64 0) (.int .i64 0) (.string ⟨#[]⟩) (.slice none 0 0)
  rw [World.size_alloc] at r0
  rw [World.size_alloc, World.size_alloc] at o0
  have a2 := (a0.alloc (.cells #[.int .i64 0, .string ⟨#[]⟩, .int .i64 0, .int .i64 0, .string ⟨#[]⟩, .slice none 0 0] 33)).alloc (.cells #[.int .i64 0, .string ⟨#[]⟩, .int .i64 0, .int .i64 0, .string ⟨#[]⟩, .slice none 0 0] 33)
  have r2 := r0.alloc (.cells #[.int .i64 0, .string ⟨#[]⟩, .int .i64 0, .int .i64 0, .string ⟨#[]⟩, .slice none 0 0] 33)
  have hb2 := (hb0.alloc hb0.size (.cells #[.int .i64 0, .string ⟨#[]⟩, .int .i64 0, .int .i64 0, .string ⟨#[]⟩, .slice none 0 0] 33)).alloc (by simp; omega) (.cells #[.int .i64 0, .string ⟨#[]⟩, .int .i64 0, .int .i64 0, .string ⟨#[]⟩, .slice none 0 0] 33)
  clear a0 r0
  have hcp : v.cells = #[v] := by obtain ⟨a, cap, rfl, _⟩ := hI; rfl
  go_enter Tryz.func12, Tryz.ntmps12
  go_wp2_with fail
  go_at_call 24
  refine (to14 b p x r _).mono ?_
  rintro e W1 ⟨rfl, b1⟩
  have a3 := a2.below b1 a2.lt
  have r3 := r2.below b1 r2.lt
  have o3 := o0.below b1 o0.lt
  have hb3 := hb2.trans (b1.mono hb2.size)
  have n1 : W.heap.size ≠ W.heap.size + 1 + 1 := by omega
  have n2 : W.heap.size + 1 ≠ W.heap.size + 1 + 1 := by omega
  have n3 : W.heap.size + 1 + 1 ≠ W.heap.size + 1 := by omega
  have q1 : W.heap.size ≤ W.heap.size + 1 + 1 := by omega
  have q2 : W.heap.size ≤ W.heap.size + 1 := by omega
  clear a2 r2 o0 hb2 b1 hb0
  obtain ⟨c0, c1, c2, c3, _, _⟩ := o3.cells
  obtain ⟨f0, f1, f2, f3, _, _⟩ := o3.frozen
  have o4 := (((o3.set0 (.int .i64 b)).set1 (.string p)).set2 (.int .i64 x)).set3 (.int .i64 r)
  have a4 := (((a3.other n1 (o := 0) (.int .i64 b)).other n1 (o := 1) (.string p)).other n1 (o := 2) (.int .i64 x)).other n1 (o := 3) (.int .i64 r)
  have r4 := (((r3.other n2 (o := 0) (.int .i64 b)).other n2 (o := 1) (.string p)).other n2 (o := 2) (.int .i64 x)).other n2 (o := 3) (.int .i64 r)
  have hb4 := below_cell (o := 3) (below_cell (o := 2) (below_cell (o := 1) (below_cell (o := 0) hb3 q1 (.int .i64 b)) q1 (.string p)) q1 (.int .i64 x)) q1 (.int .i64 r)
  obtain ⟨_, _, _, _, d4, _⟩ := a4.cells
  obtain ⟨_, _, _, _, e4, _⟩ := o4.cells
  obtain ⟨_, _, _, _, g4, _⟩ := o4.frozen
  have o5 := o4.set4 (.string u)
  have a5 := a4.other n1 (o := 4) (.string u)
  have r5 := r4.other n2 (o := 4) (.string u)
  have hb5 := below_cell (o := 4) hb4 q1 (.string u)
  obtain ⟨_, _, _, _, _, d5⟩ := a5.cells
  have hI5 := hI.below hb5
  clear a3 r3 hb3 a4 r4 hb4 o3 o4
  go_wp2_with fail
  go_at_call 44
  refine (toI109 hI5 hn).mono ?_
  rintro e W6 ⟨g2, rfl, hrow, b6⟩
  have o6 := o5.below b6 o5.lt
  have r6 := r5.below b6 r5.lt
  have hb6 := hb5.trans (b6.mono hb5.size)
  have hl5 := o5.lt
  have hrow := hrow.mono (B' := W.heap.size + 1 + 1 + 1) (by omega)
  clear a5 r5 o5 hb5 b6 hI5 hI d4 d5 e4 g4 c0 c1 c2 c3 f0 f1 f2 f3 hl5
  obtain ⟨_, _, _, _, _, k5⟩ := o6.cells
  obtain ⟨_, _, _, _, _, l5⟩ := o6.frozen
  have o7 := o6.set5 (.slice (some ⟨g2, 0, none⟩) zs.length zs.length)
  have r7 := r6.other n2 (o := 5) (.slice (some ⟨g2, 0, none⟩) zs.length zs.length)
  have hb7 := below_cell (o := 5) hb6 q1 (.slice (some ⟨g2, 0, none⟩) zs.length zs.length)
  obtain ⟨h0, h1, h2, h3, h4, h5⟩ := o7.cells
  obtain ⟨c0, c1, c2, c3, c4, c5⟩ := r7.cells
  obtain ⟨f0, f1, f2, f3, f4, f5⟩ := r7.frozen
  have r8 := (((((r7.set0 (.int .i64 b)).set1 (.string p)).set2 (.int .i64 x)).set3 (.int .i64 r)).set4 (.string u)).set5 (.slice (some ⟨g2, 0, none⟩) zs.length zs.length)
  have hb8 := below_cell (o := 5) (below_cell (o := 4) (below_cell (o := 3) (below_cell (o := 2) (below_cell (o := 1) (below_cell (o := 0) hb7 q2 (.int .i64 b)) q2 (.string p)) q2 (.int .i64 x)) q2 (.int .i64 r)) q2 (.string u)) q2 (.slice (some ⟨g2, 0, none⟩) zs.length zs.length)
  have HR := Lib.hid (row_seven (n := W.heap.size) hrow (by omega) (by omega) (.slice (some ⟨g2, 0, none⟩) zs.length zs.length) b p x r u)
  clear r6 o6 hb6 hb7 o7 hrow
  go_wp2_with fail
  obtain ⟨d0, d1, d2, d3, d4, d5⟩ := r8.cells
  exact bodyPost_ret (v := .agg #[.int .i64 b, .string p, .int .i64 x, .int .i64 r, .string u, .slice (some ⟨g2, 0, none⟩) zs.length zs.length]) (by simp [results, Tryz.results12, go_sem, d0, d1, d2, d3, d4, d5]) rfl ⟨g2, rfl, HR.out, hb8⟩
end Go.Proofs.YtgdgbjnmibkmhaaGreatDoor

