/- The drawn arguments of chapter 4: a program, a set and an exit; a program and a state; an exit. The drawn arguments of chapter 5: a triple, two. Chapter 8: what is drawn for the law on the least triples. -/
import Derived.Test.YtngcdgnijfiocaaGreatDoorD4
import Derived.Test.YtngcdgnijfiocaaGreatDoorDG
import Derived.Test.YtngcdgnijfiocaaGreatDoorYb
namespace Go.Proofs.YtngcdgnijfiocaaGreatDoor
open Go.ChangeShapes Go.WideShapes Go.ChangeAt Go.RowKit Go.Shelf
set_option maxRecDepth 100000
attribute [local go_sem] Oper.semAt_some

theorem exit24 {B : Nat} {W : World} {rb k : Nat} (h : Rd B W rb k) (hk : k ≤ 900000) :
    Calls Tryz.prog 36 #[.pointer (some ⟨rb, 0, none⟩)] W (Ran B rb (k + 1) W) := by
  go_enter Tryz.func36, Tryz.ntmps36
  go_wp2_with fail
  go_at_call 58
  refine Calls.mono (num38new h (by omega) _ 8 ?_ (by omega) (by omega) ?_) ?_
  · rfl
  · intro v hv
    simp only [List.mem_cons, List.not_mem_nil, or_false] at hv
    rcases hv with rfl | rfl | rfl | rfl | rfl | rfl | rfl | rfl <;> exact ⟨_, rfl⟩
  rintro e W7 ⟨z, rfl, h7, g7⟩
  go_wp2
  go_ret
  exact ⟨z, rfl, ⟨_, by omega, h7⟩, g7⟩



end Go.Proofs.YtngcdgnijfiocaaGreatDoor

namespace Go.Proofs.YtngcdgnijfiocaaGreatDoor
open Go.ChangeShapes Go.WideShapes Go.ChangeAt Go.RowKit Go.Shelf
set_option maxRecDepth 100000
attribute [local go_sem] Oper.semAt_some

theorem TripAt.grown {W W' : World} {g rb : Nat} {b : Int} {p : ByteArray} {x r : Int} (h : TripAt W g b p x r) (hg : W.grownBy W' (some rb)) (hne : g ≠ rb) : TripAt W' g b p x r := (hg.block g h.lt (by simpa using hne)).trans h
theorem TripAt.alloc {W : World} {g : Nat} {b : Int} {p : ByteArray} {x r : Int} (h : TripAt W g b p x r) (o : Obj) : TripAt (W.alloc o) g b p x r := h.below ((Below.refl _ W).alloc (Nat.le_refl _) o) h.lt
theorem grownSet5 {W X : World} {rb g o : Nat} (h : W.grownBy X (some rb)) (hg : W.heap.size ≤ g) (v : Value) : W.grownBy (X.setCell ⟨g, o, none⟩ v) (some rb) :=
  ⟨h.os, h.tape, h.output, by simpa using h.size, fun i hi hne => (heap_setCell_other X ⟨g, o, none⟩ i _ (by show i ≠ g; omega)).trans (h.block i hi hne)⟩
theorem set_behind {W : World} {g : Nat} {b : Int} {p : ByteArray} {x r0 : Int} (h : TripAt W g b p x r0) (r : Int) : TripAt (W.setCell ⟨g, 3, none⟩ (.int .i64 r)) g b p x r := by
  unfold TripAt at *
  rw [heap_setCell_same W g 3 _ 33 _ h]
  rfl
theorem set_before {W : World} {g : Nat} {b0 : Int} {p : ByteArray} {x r : Int} (h : TripAt W g b0 p x r) (b : Int) : TripAt (W.setCell ⟨g, 0, none⟩ (.int .i64 b)) g b p x r := by
  unfold TripAt at *
  rw [heap_setCell_same W g 0 _ 33 _ h]
  rfl
theorem set_exit {W : World} {g : Nat} {b : Int} {p : ByteArray} {x0 r : Int} (h : TripAt W g b p x0 r) (x : Int) : TripAt (W.setCell ⟨g, 2, none⟩ (.int .i64 x)) g b p x r := by
  unfold TripAt at *
  rw [heap_setCell_same W g 2 _ 33 _ h]
  rfl
theorem set_program {W : World} {g : Nat} {b : Int} {p0 : ByteArray} {x r : Int} (h : TripAt W g b p0 x r) (p : ByteArray) : TripAt (W.setCell ⟨g, 1, none⟩ (.string p)) g b p x r := by
  unfold TripAt at *
  rw [heap_setCell_same W g 1 _ 33 _ h]
  rfl
theorem TripAt.other {W : World} {g g' o : Nat} {b : Int} {p : ByteArray} {x r : Int} (h : TripAt W g b p x r) (hne : g ≠ g') (v : Value) : TripAt (W.setCell ⟨g', o, none⟩ v) g b p x r := by
  unfold TripAt at *
  rw [heap_setCell_other W ⟨g', o, none⟩ g _ hne]
  exact h
theorem set4_grown {W X : World} {rb g : Nat} (h : W.grownBy X (some rb)) (hg : W.heap.size ≤ g) (b : Int) (p : ByteArray) (x r : Int) : W.grownBy (set4 X g b p x r) (some rb) :=
  grownSet5 (grownSet5 (grownSet5 (grownSet5 h hg _) hg _) hg _) hg _
theorem Rd.set {B : Nat} {W : World} {rb k g o : Nat} (h : Rd B W rb k) (hg : rb < g) (v : Value) : Rd B (W.setCell ⟨g, o, none⟩ v) rb k := by
  have hlt := h.lt
  obtain ⟨a, len, cap, h1, h2, h3, h4⟩ := h
  refine ⟨a, len, cap, (heap_setCell_other W ⟨g, o, none⟩ rb _ (by show rb ≠ g; omega)).trans h1, h2, h3, fun hl => ?_⟩
  obtain ⟨b, off, e1, e2, e3⟩ := h4 hl
  exact ⟨b, off, e1, e2, fun i hi => by
    obtain ⟨u, hu, hr⟩ := e3 i hi
    exact ⟨u, (World.cell?_of_block (a := ⟨b, off + i, none⟩) (heap_setCell_other W ⟨g, o, none⟩ b _ (by show b ≠ g; omega))).trans hu, hr⟩⟩
theorem set4_rd {B : Nat} {W : World} {rb k g : Nat} (h : Rd B W rb k) (hg : rb < g) (b : Int) (p : ByteArray) (x r : Int) : Rd B (set4 W g b p x r) rb k :=
  (((h.set hg _).set hg _).set hg _).set hg _

/-- A triple is drawn: its program has at most 60 bytes; nothing but the reader's block is written. -/
def DrawnT (B rb k : Nat) (W : World) (e : Ending) (W' : World) : Prop :=
  ∃ (b : Int) (p : ByteArray) (x r : Int), p.size ≤ 60 ∧ e = .returned (.agg #[.int .i64 b, .string p, .int .i64 x, .int .i64 r]) ∧ (∃ j, j ≤ k ∧ Rd B W' rb j) ∧ W.grownBy W' (some rb)
/-- What is held while a triple is drawn: the result's block, the variable's, the reader. -/
structure Mids (B rb k : Nat) (W X : World) (g gt : Nat) (b : Int) (p : ByteArray) (x r : Int) : Prop where
  res : TripAt X g 0 ⟨#[]⟩ 0 0
  var : TripAt X gt b p x r
  rd : Rd B X rb k
  grew : W.grownBy X (some rb)
  hg : W.heap.size ≤ g
  hgt : W.heap.size ≤ gt
  hrb : rb < W.heap.size
  ne : g ≠ gt
theorem Mids.ran {B rb k k' : Nat} {W X Y : World} {g gt : Nat} {b : Int} {p : ByteArray} {x r : Int} (h : Mids B rb k W X g gt b p x r) (hY : Rd B Y rb k') (hgr : X.grownBy Y (some rb)) : Mids B rb k' W Y g gt b p x r :=
  ⟨h.res.grown hgr (by have := h.hg; have := h.hrb; omega), h.var.grown hgr (by have := h.hgt; have := h.hrb; omega), hY, grown_trans h.grew hgr, h.hg, h.hgt, h.hrb, h.ne⟩
theorem Mids.below {B rb k : Nat} {W X Y : World} {g gt : Nat} {b : Int} {p : ByteArray} {x r : Int} (h : Mids B rb k W X g gt b p x r) (hb : Below X.heap.size X Y) : Mids B rb k W Y g gt b p x r :=
  h.ran (h.rd.below hb) (grown_of_belowD hb _)
theorem Mids.behind {B rb k : Nat} {W X : World} {g gt : Nat} {b : Int} {p : ByteArray} {x r : Int} (h : Mids B rb k W X g gt b p x r) (z : Int) : Mids B rb k W (X.setCell ⟨gt, 3, none⟩ (.int .i64 z)) g gt b p x z :=
  ⟨h.res.other h.ne _, set_behind h.var z, h.rd.set (by have := h.hgt; have := h.hrb; omega) _, grownSet5 h.grew h.hgt _, h.hg, h.hgt, h.hrb, h.ne⟩
theorem Mids.before {B rb k : Nat} {W X : World} {g gt : Nat} {b : Int} {p : ByteArray} {x r : Int} (h : Mids B rb k W X g gt b p x r) (z : Int) : Mids B rb k W (X.setCell ⟨gt, 0, none⟩ (.int .i64 z)) g gt z p x r :=
  ⟨h.res.other h.ne _, set_before h.var z, h.rd.set (by have := h.hgt; have := h.hrb; omega) _, grownSet5 h.grew h.hgt _, h.hg, h.hgt, h.hrb, h.ne⟩
theorem Mids.exit {B rb k : Nat} {W X : World} {g gt : Nat} {b : Int} {p : ByteArray} {x r : Int} (h : Mids B rb k W X g gt b p x r) (z : Int) : Mids B rb k W (X.setCell ⟨gt, 2, none⟩ (.int .i64 z)) g gt b p z r :=
  ⟨h.res.other h.ne _, set_exit h.var z, h.rd.set (by have := h.hgt; have := h.hrb; omega) _, grownSet5 h.grew h.hgt _, h.hg, h.hgt, h.hrb, h.ne⟩
theorem Mids.program {B rb k : Nat} {W X : World} {g gt : Nat} {b : Int} {p : ByteArray} {x r : Int} (h : Mids B rb k W X g gt b p x r) (t : ByteArray) : Mids B rb k W (X.setCell ⟨gt, 1, none⟩ (.string t)) g gt b t x r :=
  ⟨h.res.other h.ne _, set_program h.var t, h.rd.set (by have := h.hgt; have := h.hrb; omega) _, grownSet5 h.grew h.hgt _, h.hg, h.hgt, h.hrb, h.ne⟩
theorem Mids.done {B rb k k' : Nat} {W X : World} {g gt : Nat} {b : Int} {p : ByteArray} {x r : Int} (h : Mids B rb k W X g gt b p x r) (hp : p.size ≤ 60) (hk : k ≤ k') :
    DrawnT B rb k' W (.returned (.agg #[.int .i64 b, .string p, .int .i64 x, .int .i64 r])) (set4 X g b p x r) :=
  ⟨b, p, x, r, hp, rfl, ⟨k, hk, set4_rd h.rd (by have := h.hg; have := h.hrb; omega) b p x r⟩, set4_grown h.grew h.hg b p x r⟩
/-- All that the walk reads. -/
theorem Mids.cells {B rb k : Nat} {W X : World} {g gt : Nat} {b : Int} {p : ByteArray} {x r : Int} (h : Mids B rb k W X g gt b p x r) :
    (X.cell? ⟨gt, 0, none⟩ = some (.int .i64 b) ∧ X.cell? ⟨gt, 1, none⟩ = some (.string p) ∧ X.cell? ⟨gt, 2, none⟩ = some (.int .i64 x) ∧ X.cell? ⟨gt, 3, none⟩ = some (.int .i64 r)) ∧
    (X.frozen? ⟨gt, 0, none⟩ = false ∧ X.frozen? ⟨gt, 1, none⟩ = false ∧ X.frozen? ⟨gt, 2, none⟩ = false ∧ X.frozen? ⟨gt, 3, none⟩ = false) ∧
    (X.cell? ⟨g, 0, none⟩ = some (.int .i64 0) ∧ X.cell? ⟨g, 1, none⟩ = some (.string ⟨#[]⟩) ∧ X.cell? ⟨g, 2, none⟩ = some (.int .i64 0) ∧ X.cell? ⟨g, 3, none⟩ = some (.int .i64 0)) ∧
    (X.frozen? ⟨g, 0, none⟩ = false ∧ X.frozen? ⟨g, 1, none⟩ = false ∧ X.frozen? ⟨g, 2, none⟩ = false ∧ X.frozen? ⟨g, 3, none⟩ = false) :=
  ⟨h.var.cells, h.var.frozen, h.res.cells, h.res.frozen⟩

set_option maxHeartbeats 2000000 in
theorem good5 {B : Nat} {W : World} {rb k : Nat} (h : Rd B W rb k) (hk : k ≤ 880000) :
    Calls Tryz.prog 83 #[.pointer (some ⟨rb, 0, none⟩)] W (DrawnT B rb (k + 400) W) := by
  have hrb := h.lt
  have hR0 := TripAt.new W 0 ⟨#[]⟩ 0 0
  have h0 := h.below ((Below.refl _ W).alloc (Nat.le_refl _) (.cells #[.int .i64 0, .string ⟨#[]⟩, .int .i64 0, .int .i64 0] 33))
  have c0 := World.grownBy_alloc W (.cells #[.int .i64 0, .string ⟨#[]⟩, .int .i64 0, .int .i64 0] 33) (some rb)
  go_enter Tryz.func83, Tryz.ntmps83
  go_wp2_with fail
  go_at_call 68
  refine (good37g h0 (by omega)).mono ?_
  rintro e W1 ⟨b, rfl, ⟨j1, hj1, h1⟩, g1⟩
  go_wp2_with fail
  go_at_call 60
  refine (good55g h1 (by omega)).mono ?_
  rintro e W2 ⟨p, hp, rfl, ⟨j2, hj2, h2⟩, g2⟩
  go_wp2_with fail
  go_at_call 34
  refine (pick36 h2 (by omega) (by omega) (by omega)).mono ?_
  rintro e W3 ⟨x, rfl, x0, x1, h3, g3⟩
  have G3 := grown_trans c0 (grown_trans g1 (grown_trans g2 g3))
  have hps := hp.2.2
  have hM : Mids B rb (j2 + 1) W (W3.alloc (.cells #[.int .i64 b, .string p, .int .i64 x, .int .i64 0] 33)) W.heap.size W3.heap.size b p x 0 :=
    ⟨(((hR0.grown g1 (by omega)).grown g2 (by omega)).grown g3 (by omega)).alloc _, TripAt.new W3 b p x 0, h3.below ((Below.refl _ _).alloc (Nat.le_refl _) _), grown_trans G3 (World.grownBy_alloc _ _ _), Nat.le_refl _, G3.size, hrb, by have := (((hR0.grown g1 (by omega)).grown g2 (by omega)).grown g3 (by omega)).lt; omega⟩
  clear hR0 h0 c0 h1 g1 h2 g2 h3 g3 hp
  go_wp2_with fail
  go_at_call 34
  refine (pick36 hM.rd (by omega) (by omega) (by omega)).mono ?_
  rintro e W4 ⟨y, rfl, y0, y1, h4, g4⟩
  have hM4 := hM.ran h4 g4
  clear hM h4 g4
  generalize W3.heap.size = gt at hM4 ⊢
  by_cases q0 : y = 0
  · subst q0
    obtain ⟨⟨c0, c1, c2, c3⟩, ⟨f0, f1, f2, f3⟩, ⟨e0, e1, e2, e3⟩, ⟨k0, k1, k2, k3⟩⟩ := hM4.cells
    go_wp2_with fail
    go_at_call 68
    refine (good37g hM4.rd (by omega)).mono ?_
    rintro e W5 ⟨z, rfl, ⟨j5, hj5, h5⟩, g5⟩
    have hM5 := hM4.ran h5 g5
    have hM6 := hM5.behind z
    obtain ⟨_, ⟨f0, f1, f2, f3⟩, _, _⟩ := hM5.cells
    obtain ⟨⟨c0, c1, c2, c3⟩, _, _, _⟩ := hM5.cells
    obtain ⟨⟨a0, a1, a2, a3⟩, _, ⟨e0, e1, e2, e3⟩, ⟨k0, k1, k2, k3⟩⟩ := hM6.cells
    go_wp2_with fail
    obtain ⟨d0, d1, d2, d3⟩ := (set4_trip hM6.res b p x z).cells
    have hF := hM6.done (k' := k + 400) hps (by omega)
    unfold set4 at d0 d1 d2 d3 hF
    exact bodyPost_ret (v := .agg #[.int .i64 b, .string p, .int .i64 x, .int .i64 z]) (by simp [results, Tryz.results83, go_sem, d0, d1, d2, d3]) rfl hF
  · have n0 : (y == 0) = false := by simpa using q0
    by_cases q1 : y = 1
    · subst q1
      obtain ⟨⟨c0, c1, c2, c3⟩, ⟨f0, f1, f2, f3⟩, ⟨e0, e1, e2, e3⟩, ⟨k0, k1, k2, k3⟩⟩ := hM4.cells
      go_wp2_with fail
      go_at_call 88
      refine (mreached5 b p (by omega) x 0 _).mono ?_
      rintro e W5 ⟨rfl, hb5⟩
      have hM5 := hM4.below hb5
      generalize reachN p b x = z
      have hM6 := hM5.behind z
      obtain ⟨⟨c0, c1, c2, c3⟩, ⟨f0, f1, f2, f3⟩, _, _⟩ := hM5.cells
      obtain ⟨⟨a0, a1, a2, a3⟩, _, ⟨e0, e1, e2, e3⟩, ⟨k0, k1, k2, k3⟩⟩ := hM6.cells
      go_wp2_with fail
      obtain ⟨d0, d1, d2, d3⟩ := (set4_trip hM6.res b p x z).cells
      have hF := hM6.done (k' := k + 400) hps (by omega)
      unfold set4 at d0 d1 d2 d3 hF
      exact bodyPost_ret (v := .agg #[.int .i64 b, .string p, .int .i64 x, .int .i64 z]) (by simp [results, Tryz.results83, go_sem, d0, d1, d2, d3]) rfl hF
    · have n1 : (y == 1) = false := by simpa using q1
      obtain ⟨⟨c0, c1, c2, c3⟩, ⟨f0, f1, f2, f3⟩, ⟨e0, e1, e2, e3⟩, ⟨k0, k1, k2, k3⟩⟩ := hM4.cells
      go_wp2_with fail
      go_at_call 88
      refine (mreached5 b p (by omega) x 0 _).mono ?_
      rintro e W5 ⟨rfl, hb5⟩
      have hM5 := hM4.below hb5
      generalize reachN p b x = z1
      go_wp2_with fail
      go_at_call 68
      refine (good37g hM5.rd (by omega)).mono ?_
      rintro e W6 ⟨z2, rfl, ⟨j6, hj6, h6⟩, g6⟩
      have hM6 := hM5.ran h6 g6
      have hM7 := hM6.behind (bits .and .i64 z1 z2)
      obtain ⟨⟨c0, c1, c2, c3⟩, ⟨f0, f1, f2, f3⟩, _, _⟩ := hM6.cells
      obtain ⟨⟨a0, a1, a2, a3⟩, _, ⟨e0, e1, e2, e3⟩, ⟨k0, k1, k2, k3⟩⟩ := hM7.cells
      go_wp2_with fail
      obtain ⟨d0, d1, d2, d3⟩ := (set4_trip hM7.res b p x (bits .and .i64 z1 z2)).cells
      have hF := hM7.done (k' := k + 400) hps (by omega)
      unfold set4 at d0 d1 d2 d3 hF
      exact bodyPost_ret (v := .agg #[.int .i64 b, .string p, .int .i64 x, .int .i64 (bits .and .i64 z1 z2)]) (by simp [results, Tryz.results83, go_sem, d0, d1, d2, d3]) rfl hF

set_option maxHeartbeats 2000000 in
theorem draw5 {B : Nat} {W : World} {rb k : Nat} (h : Rd B W rb k) (hk : k ≤ 870000) :
    Calls Tryz.prog 46 #[.pointer (some ⟨rb, 0, none⟩)] W (DrawnT B rb (k + 402) W) := by
  have hrb := h.lt
  have hR0 := TripAt.new W 0 ⟨#[]⟩ 0 0
  have h0 := h.below ((Below.refl _ W).alloc (Nat.le_refl _) (.cells #[.int .i64 0, .string ⟨#[]⟩, .int .i64 0, .int .i64 0] 33))
  have c0 := World.grownBy_alloc W (.cells #[.int .i64 0, .string ⟨#[]⟩, .int .i64 0, .int .i64 0] 33) (some rb)
  go_enter Tryz.func46, Tryz.ntmps46
  go_wp2_with fail
  go_at_call 83
  refine (good5 h0 (by omega)).mono ?_
  rintro e W3 ⟨b, p, x, r, hps, rfl, ⟨j3, hj3, h3⟩, g3⟩
  have G3 := grown_trans c0 g3
  have hM : Mids B rb j3 W (W3.alloc (.cells #[.int .i64 b, .string p, .int .i64 x, .int .i64 r] 33)) W.heap.size W3.heap.size b p x r :=
    ⟨(hR0.grown g3 (by omega)).alloc _, TripAt.new W3 b p x r, h3.below ((Below.refl _ _).alloc (Nat.le_refl _) _), grown_trans G3 (World.grownBy_alloc _ _ _), Nat.le_refl _, G3.size, hrb, by have := (hR0.grown g3 (by omega)).lt; omega⟩
  clear hR0 h0 c0 h3 g3
  go_wp2_with fail
  go_at_call 34
  refine (pick36 hM.rd (by omega) (by omega) (by omega)).mono ?_
  rintro e W4 ⟨y, rfl, y0, y1, h4, g4⟩
  have hM4 := hM.ran h4 g4
  clear hM h4 g4
  generalize W3.heap.size = gt at hM4 ⊢
  by_cases q0 : y = 0
  · subst q0
    obtain ⟨⟨c0, c1, c2, c3⟩, ⟨f0, f1, f2, f3⟩, ⟨e0, e1, e2, e3⟩, ⟨k0, k1, k2, k3⟩⟩ := hM4.cells
    go_wp2_with fail
    go_at_call 58
    refine Calls.mono (num38g hM4.rd (by omega) _ 2 ?_ (by omega) (by omega) ?_) ?_
    · rfl
    · intro v hv
      simp only [List.mem_cons, List.not_mem_nil, or_false] at hv
      rcases hv with rfl | rfl <;> exact ⟨_, rfl⟩
    rintro e W5 ⟨z, rfl, h5, g5⟩
    have hM5 := hM4.ran h5 g5
    have hM6 := hM5.before z
    obtain ⟨⟨c0, c1, c2, c3⟩, ⟨f0, f1, f2, f3⟩, _, _⟩ := hM5.cells
    obtain ⟨⟨a0, a1, a2, a3⟩, _, ⟨e0, e1, e2, e3⟩, ⟨k0, k1, k2, k3⟩⟩ := hM6.cells
    go_wp2_with fail
    obtain ⟨d0, d1, d2, d3⟩ := (set4_trip hM6.res z p x r).cells
    have hF := hM6.done (k' := k + 402) hps (by omega)
    unfold set4 at d0 d1 d2 d3 hF
    exact bodyPost_ret (v := .agg #[.int .i64 z, .string p, .int .i64 x, .int .i64 r]) (by simp [results, Tryz.results46, go_sem, d0, d1, d2, d3]) rfl hF
  · have n0 : (y == 0) = false := by simpa using q0
    by_cases q1 : y = 1
    · subst q1
      obtain ⟨⟨c0, c1, c2, c3⟩, ⟨f0, f1, f2, f3⟩, ⟨e0, e1, e2, e3⟩, ⟨k0, k1, k2, k3⟩⟩ := hM4.cells
      go_wp2_with fail
      go_at_call 59
      refine Calls.mono (ofPg (P := fun t => t.size ≤ 60) hM4.rd (by omega) _ 3 ?_ (by omega) (by omega) ?_) ?_
      · rfl
      · intro v hv
        simp only [List.mem_cons, List.not_mem_nil, or_false] at hv
        rcases hv with rfl | rfl | rfl <;> exact ⟨_, by decide, rfl⟩
      rintro e W5 ⟨z, hz, rfl, h5, g5⟩
      have hM5 := hM4.ran h5 g5
      have hM6 := hM5.program z
      obtain ⟨⟨c0, c1, c2, c3⟩, ⟨f0, f1, f2, f3⟩, _, _⟩ := hM5.cells
      obtain ⟨⟨a0, a1, a2, a3⟩, _, ⟨e0, e1, e2, e3⟩, ⟨k0, k1, k2, k3⟩⟩ := hM6.cells
      go_wp2_with fail
      obtain ⟨d0, d1, d2, d3⟩ := (set4_trip hM6.res b z x r).cells
      have hF := hM6.done (k' := k + 402) hz (by omega)
      unfold set4 at d0 d1 d2 d3 hF
      exact bodyPost_ret (v := .agg #[.int .i64 b, .string z, .int .i64 x, .int .i64 r]) (by simp [results, Tryz.results46, go_sem, d0, d1, d2, d3]) rfl hF
    · have n1 : (y == 1) = false := by simpa using q1
      by_cases q2 : y = 2
      · subst q2
        obtain ⟨⟨c0, c1, c2, c3⟩, ⟨f0, f1, f2, f3⟩, ⟨e0, e1, e2, e3⟩, ⟨k0, k1, k2, k3⟩⟩ := hM4.cells
        go_wp2_with fail
        go_at_call 58
        refine Calls.mono (num38g hM4.rd (by omega) _ 2 ?_ (by omega) (by omega) ?_) ?_
        · rfl
        · intro v hv
          simp only [List.mem_cons, List.not_mem_nil, or_false] at hv
          rcases hv with rfl | rfl <;> exact ⟨_, rfl⟩
        rintro e W5 ⟨z, rfl, h5, g5⟩
        have hM5 := hM4.ran h5 g5
        have hM6 := hM5.exit z
        obtain ⟨⟨c0, c1, c2, c3⟩, ⟨f0, f1, f2, f3⟩, _, _⟩ := hM5.cells
        obtain ⟨⟨a0, a1, a2, a3⟩, _, ⟨e0, e1, e2, e3⟩, ⟨k0, k1, k2, k3⟩⟩ := hM6.cells
        go_wp2_with fail
        obtain ⟨d0, d1, d2, d3⟩ := (set4_trip hM6.res b p z r).cells
        have hF := hM6.done (k' := k + 402) hps (by omega)
        unfold set4 at d0 d1 d2 d3 hF
        exact bodyPost_ret (v := .agg #[.int .i64 b, .string p, .int .i64 z, .int .i64 r]) (by simp [results, Tryz.results46, go_sem, d0, d1, d2, d3]) rfl hF
      · have n2 : (y == 2) = false := by simpa using q2
        by_cases q3 : y = 3
        · subst q3
          obtain ⟨⟨c0, c1, c2, c3⟩, ⟨f0, f1, f2, f3⟩, ⟨e0, e1, e2, e3⟩, ⟨k0, k1, k2, k3⟩⟩ := hM4.cells
          go_wp2_with fail
          go_at_call 58
          refine Calls.mono (num38g hM4.rd (by omega) _ 2 ?_ (by omega) (by omega) ?_) ?_
          · rfl
          · intro v hv
            simp only [List.mem_cons, List.not_mem_nil, or_false] at hv
            rcases hv with rfl | rfl <;> exact ⟨_, rfl⟩
          rintro e W5 ⟨z, rfl, h5, g5⟩
          have hM5 := hM4.ran h5 g5
          have hM6 := hM5.behind z
          obtain ⟨⟨c0, c1, c2, c3⟩, ⟨f0, f1, f2, f3⟩, _, _⟩ := hM5.cells
          obtain ⟨⟨a0, a1, a2, a3⟩, _, ⟨e0, e1, e2, e3⟩, ⟨k0, k1, k2, k3⟩⟩ := hM6.cells
          go_wp2_with fail
          obtain ⟨d0, d1, d2, d3⟩ := (set4_trip hM6.res b p x z).cells
          have hF := hM6.done (k' := k + 402) hps (by omega)
          unfold set4 at d0 d1 d2 d3 hF
          exact bodyPost_ret (v := .agg #[.int .i64 b, .string p, .int .i64 x, .int .i64 z]) (by simp [results, Tryz.results46, go_sem, d0, d1, d2, d3]) rfl hF
        · have n3 : (y == 3) = false := by simpa using q3
          obtain ⟨⟨c0, c1, c2, c3⟩, ⟨f0, f1, f2, f3⟩, ⟨e0, e1, e2, e3⟩, ⟨k0, k1, k2, k3⟩⟩ := hM4.cells
          go_wp2_with fail
          obtain ⟨d0, d1, d2, d3⟩ := (set4_trip hM4.res b p x r).cells
          have hF := hM4.done (k' := k + 402) hps (by omega)
          unfold set4 at d0 d1 d2 d3 hF
          exact bodyPost_ret (v := .agg #[.int .i64 b, .string p, .int .i64 x, .int .i64 r]) (by simp [results, Tryz.results46, go_sem, d0, d1, d2, d3]) rfl hF



end Go.Proofs.YtngcdgnijfiocaaGreatDoor

namespace Go.Proofs.YtngcdgnijfiocaaGreatDoor
open Go.ChangeShapes Go.WideShapes Go.ChangeAt Go.RowKit Go.Shelf
set_option maxRecDepth 100000
attribute [local go_sem] Oper.semAt_some

set_option maxHeartbeats 1000000 in
theorem drawLB {B : Nat} {W : World} {a : Option Addr} {len cap : Nat} (h : Code B W a len cap) (hB : B ≤ W.heap.size) :
    Calls Tryz.prog 12 #[.slice a len cap] W fun e W' => ∃ (b : Int) (p : ByteArray) (x r : Int), p.size ≤ 60 ∧ e = .returned (.agg #[.int .i64 b, .string p, .int .i64 x, .int .i64 r]) ∧ Below W.heap.size W W' := by
  have hR0 := TripAt.new W 0 ⟨#[]⟩ 0 0
  have c0 : Below W.heap.size W (W.alloc (.cells #[.int .i64 0, .string ⟨#[]⟩, .int .i64 0, .int .i64 0] 33)) := (Below.refl _ W).alloc (Nat.le_refl _) _
  have hc := h.below (W' := W.alloc (.cells #[.int .i64 0, .string ⟨#[]⟩, .int .i64 0, .int .i64 0] 33)) (c0.mono hB)
  go_enter Tryz.func12, Tryz.ntmps12
  go_wp2_with fail
  go_at_call 31
  have HO := open33 hc (Nat.le_trans hB c0.size)
  rw [World.size_alloc] at HO
  refine HO.mono ?_
  rintro e W1 ⟨rfl, h1, b1, hs1⟩
  have hR1 := hR0.below b1 (Nat.lt_succ_self _)
  go_wp2_with fail
  go_at_call 46
  refine (draw5 h1 (by omega)).mono ?_
  rintro e W2 ⟨b, p, x, r, hp, rfl, _, g2⟩
  have hR2 := hR1.grown g2 (by simp)
  obtain ⟨e0, e1, e2, e3⟩ := hR2.cells
  obtain ⟨k0, k1, k2, k3⟩ := hR2.frozen
  have b2 : Below W.heap.size W W2 := (c0.trans (b1.mono (Nat.le_succ _))).trans (below_of_grown g2 (by have := h1.lt; omega) |>.mono (by simp))
  go_wp2_with fail
  obtain ⟨d0, d1, d2, d3⟩ := (set4_trip hR2 b p x r).cells
  have hF := set4_below b2 (Nat.le_refl _) b p x r
  unfold set4 at d0 d1 d2 d3 hF
  exact bodyPost_ret (v := .agg #[.int .i64 b, .string p, .int .i64 x, .int .i64 r]) (by simp [results, Tryz.results12, go_sem, d0, d1, d2, d3]) rfl ⟨b, p, x, r, hp, rfl, hF⟩

set_option maxHeartbeats 1000000 in
theorem drawEB {B : Nat} {W : World} {a : Option Addr} {len cap : Nat} (h : Code B W a len cap) (hB : B ≤ W.heap.size) :
    Calls Tryz.prog 15 #[.slice a len cap] W fun e W' => ∃ (b : Int) (p : ByteArray) (x r : Int), p.size ≤ 60 ∧ e = .returned (.agg #[.int .i64 b, .string p, .int .i64 x, .int .i64 r]) ∧ Below W.heap.size W W' := by
  have hR0 := TripAt.new W 0 ⟨#[]⟩ 0 0
  have c0 : Below W.heap.size W (W.alloc (.cells #[.int .i64 0, .string ⟨#[]⟩, .int .i64 0, .int .i64 0] 33)) := (Below.refl _ W).alloc (Nat.le_refl _) _
  have hc := h.below (W' := W.alloc (.cells #[.int .i64 0, .string ⟨#[]⟩, .int .i64 0, .int .i64 0] 33)) (c0.mono hB)
  go_enter Tryz.func15, Tryz.ntmps15
  go_wp2_with fail
  go_at_call 31
  have HO := open33 hc (Nat.le_trans hB c0.size)
  rw [World.size_alloc] at HO
  refine HO.mono ?_
  rintro e W1 ⟨rfl, h1, b1, hs1⟩
  have hR1 := hR0.below b1 (Nat.lt_succ_self _)
  go_wp2_with fail
  go_at_call 46
  refine (draw5 h1 (by omega)).mono ?_
  rintro e W2 ⟨b, p, x, r, hp, rfl, ⟨j2, hj2, h2⟩, g2⟩
  have hR2 := hR1.grown g2 (by simp)
  have b2 : Below W.heap.size W W2 := (c0.trans (b1.mono (Nat.le_succ _))).trans (below_of_grown g2 (by have := h1.lt; omega) |>.mono (by simp))
  have hT3 := TripAt.new W2 b p x r
  have hR3 := hR2.alloc (.cells #[.int .i64 b, .string p, .int .i64 x, .int .i64 r] 33)
  have h3 := h2.below ((Below.refl _ W2).alloc (Nat.le_refl _) (.cells #[.int .i64 b, .string p, .int .i64 x, .int .i64 r] 33))
  have b3 := b2.alloc b2.size (.cells #[.int .i64 b, .string p, .int .i64 x, .int .i64 r] 33)
  have hlt2 := h2.lt
  have hle := b2.size
  go_wp2_with fail
  go_at_call 34
  refine (pick36 h3 (by omega) (by omega) (by omega)).mono ?_
  rintro e W4 ⟨x1, rfl, a1, e1, h4, g4⟩
  have hT4 := hT3.grown g4 (by omega)
  have hR4 := hR3.grown g4 (by omega)
  have b4 : Below W.heap.size W W4 := b3.grown g4 b3.size (fun k e => by have := Option.some.inj e; omega)
  have s4 := g4.size
  rw [World.size_alloc] at s4
  clear hT3 hR3 h3 b3 hR2 h2 g2 g4 h1 b1 hR0 hR1 c0 hc HO
  by_cases hx1 : x1 = 0
  · subst hx1
    go_wp2_with fail
    go_at_call 34
    refine (pick36 h4 (by omega) (by omega) (by omega)).mono ?_
    rintro e W5 ⟨x2, rfl, a2, e2, h5, g5⟩
    have hT5 := hT4.grown g5 (by omega)
    have hR5 := hR4.grown g5 (by omega)
    have b5 : Below W.heap.size W W5 := b4.grown g5 b4.size (fun k e => by have := Option.some.inj e; omega)
    obtain ⟨q, rfl⟩ : ∃ q : Nat, x2 = (q : Int) := ⟨x2.toNat, by omega⟩
    have q8 : (q : Int) ≤ 8 := by omega
    have q0 : (0 : Int) ≤ (q : Int) := by omega
    have hsh := shl_state (n := q) (by omega)
    generalize (2 : Nat) ^ q = z at hsh
    have hT6 := set_before hT5 (z : Int)
    have hR6 := hR5.other (o := 0) (show W.heap.size ≠ W2.heap.size by omega) (.int .i64 (z : Int))
    have b6 : Below W.heap.size W (W5.setCell ⟨W2.heap.size, 0, none⟩ (.int .i64 (z : Int))) := b5.setCell (p := ⟨W2.heap.size, 0, none⟩) (by show W.heap.size ≤ W2.heap.size; omega) _
    obtain ⟨c0, c1, c2, c3⟩ := hT6.cells
    obtain ⟨f0, f1, f2, f3⟩ := hT5.frozen
    obtain ⟨u0, u1, u2, u3⟩ := hT5.cells
    obtain ⟨e0, e1, e2, e3⟩ := hR6.cells
    obtain ⟨k0, k1, k2, k3⟩ := hR6.frozen
    clear hT4 hR4 hT5 hR5 h4 h5 g5
    go_wp2_with fail
    obtain ⟨d0, d1, d2, d3⟩ := (set4_trip hR6 (z : Int) p x r).cells
    have hF := set4_below b6 (Nat.le_refl _) (z : Int) p x r
    unfold set4 at d0 d1 d2 d3 hF
    exact bodyPost_ret (v := .agg #[.int .i64 (z : Int), .string p, .int .i64 x, .int .i64 r]) (by simp [results, Tryz.results15, go_sem, d0, d1, d2, d3]) rfl ⟨(z : Int), p, x, r, hp, rfl, hF⟩
  · have n0 : (x1 == 0) = false := by simpa using hx1
    obtain ⟨c0, c1, c2, c3⟩ := hT4.cells
    obtain ⟨k0, k1, k2, k3⟩ := hR4.frozen
    obtain ⟨v0, v1, v2, v3⟩ := hR4.cells
    go_wp2_with fail
    obtain ⟨d0, d1, d2, d3⟩ := (set4_trip hR4 b p x r).cells
    have hF := set4_below b4 (Nat.le_refl _) b p x r
    unfold set4 at d0 d1 d2 d3 hF
    exact bodyPost_ret (v := .agg #[.int .i64 b, .string p, .int .i64 x, .int .i64 r]) (by simp [results, Tryz.results15, go_sem, d0, d1, d2, d3]) rfl ⟨b, p, x, r, hp, rfl, hF⟩
end Go.Proofs.YtngcdgnijfiocaaGreatDoor
