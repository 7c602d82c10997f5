/- The program's running: steps done any number of times, a program from a set. -/
import Derived.Test.YtfoifcbpognjaaaDoorR2
import Derived.Test.YtfoifcbpognjaaaDoorNA
namespace Go.Proofs.YtfoifcbpognjaaaDoor
open Go.ChangeShapes Go.WideShapes Go.ChangeAt Go.RowKit Go.Shelf
attribute [local go_sem] Oper.semAt_some
set_option maxRecDepth 100000

theorem eqOut (a b c e : Int) (w : World) : (Op.equalIn 10000 95 (.agg #[.int .i64 a, .int .i64 b]) (.agg #[.int .i64 c, .int .i64 e])).run Tryd.prog w = .ok (a == c && b == e) w := by
  rw [show (10000 : Nat) = 9999 + 1 from rfl, run_equalIn_struct w 9999 95 _ _ (by kernel_rfl) (by kernel_rfl)]
  have hl : (Tryd.prog.fieldsOf 95).toList = [⟨"ok", 93, 0, false, "", "loop.example/surelywrong/impl", 0⟩, ⟨"failed", 93, 1, false, "", "loop.example/surelywrong/impl", 8⟩] := by kernel_rfl
  have u3 : ∀ (x y : Int) (w : World), (Op.equalIn 9999 93 (.int .i64 x) (.int .i64 y)).run Tryd.prog w = .ok (x == y) w := fun x y w => run_equalIn_int w 9998 93 .i64 .i64 x y Tryd.underlying93
  have p0 : ∀ (x y : Int) (w : World), (part 93 #[.int .i64 x, .int .i64 y] 0).run Tryd.prog w = .ok (.int .i64 x) w := fun x y w => by kernel_rfl
  have p1 : ∀ (x y : Int) (w : World), (part 93 #[.int .i64 x, .int .i64 y] 1).run Tryd.prog w = .ok (.int .i64 y) w := fun x y w => by kernel_rfl
  rw [hl]
  have n1 : "ok" ≠ "_" := by decide
  have n2 : "failed" ≠ "_" := by decide
  simp only [Op.eqFields, if_pos n1, if_pos n2, Sem.run_bind, p0, u3, Result.andThen_ok]
  cases h : (a == c) <;> cases h' : (b == e) <;> simp [p1, u3, h']

/-- Outcomes are the same, or not. -/
theorem same_out (x y : Nat × Nat) : (((x.1 : Int) == (y.1 : Int)) && ((x.2 : Int) == (y.2 : Int))) = decide (x = y) := by
  rw [Bool.eq_iff_iff]
  simp only [Bool.and_eq_true, beq_iff_eq, decide_eq_true_eq]
  constructor
  · rintro ⟨h1, h2⟩; exact Prod.ext (by omega) (by omega)
  · rintro rfl; exact ⟨rfl, rfl⟩
theorem eqOutV (x y : Nat × Nat) (w : World) : (Op.equalIn 10000 95 (.agg #[.int .i64 (x.1 : Int), .int .i64 (x.2 : Int)]) (.agg #[.int .i64 (y.1 : Int), .int .i64 (y.2 : Int)])).run Tryd.prog w = .ok (decide (x = y)) w := by
  rw [eqOut, same_out]

theorem lt_cell {W : World} {a : Addr} {v : Value} (h : W.cell? a = some v) : a.block < W.heap.size := by
  by_cases hlt : a.block < W.heap.size
  · exact hlt
  · exfalso
    have hn : W.heap[a.block]? = none := Array.getElem?_eq_none (by omega)
    unfold World.cell? at h
    rw [hn] at h
    simp at h
theorem keepCell {V W : World} {a : Addr} {v : Value} (hb : Below V.heap.size V W) (h : V.cell? a = some v) : W.cell? a = some v := (hb.cell (p := a) (lt_cell h)).trans h
theorem two_set {W : World} {a b : Addr} {u v p q : Value} {g : Nat} (ha : a.block ≠ g) (hb : b.block ≠ g) (h : W.cell? a = some u) (k : W.cell? b = some v) :
    ((W.setCell ⟨g, 0, none⟩ p).setCell ⟨g, 1, none⟩ q).cell? a = some u ∧ ((W.setCell ⟨g, 0, none⟩ p).setCell ⟨g, 1, none⟩ q).cell? b = some v := by
  have e : ∀ c : Addr, c.block ≠ g → ((W.setCell ⟨g, 0, none⟩ p).setCell ⟨g, 1, none⟩ q).cell? c = W.cell? c := fun c hc =>
    (World.cell?_of_block (heap_setCell_other _ _ c.block _ hc)).trans (World.cell?_of_block (heap_setCell_other _ _ c.block _ hc))
  exact ⟨(e a ha).trans h, (e b hb).trans k⟩
theorem two_then {V W : World} {a b : Addr} {u v : Value} {G : Prop} (hb : Below V.heap.size V W) (h : V.cell? a = some u) (k : V.cell? b = some v) (f : W.cell? a = some u → W.cell? b = some v → G) : G := f (keepCell hb h) (keepCell hb k)
theorem two_kept {V W : World} {a b : Addr} {u v : Value} (hb : Below V.heap.size V W) (h : V.cell? a = some u) (k : V.cell? b = some v) : W.cell? a = some u ∧ W.cell? b = some v := ⟨keepCell hb h, keepCell hb k⟩
theorem lies_kept {X W : World} {b : Nat} {cs : Array Value} {t : TypeId} (hb : Below X.heap.size X W) (h : Lies X b cs t) : Lies W b cs t := h.below hb
theorem drewG {A B : World} {r : Option Nat} (h : A.grownBy B r) : A.grownBy B.drew r := ⟨h.os, h.tape, h.output, h.size, h.block⟩
theorem World_grown_alloc {A B : World} {r : Option Nat} (h : A.grownBy B r) (o : Obj) : A.grownBy (B.alloc o) r := by
  have := World.grownBy_alloc B o none
  exact ⟨this.os.trans h.os, this.tape.trans h.tape, this.output.trans h.output, Nat.le_trans h.size this.size, fun b hb hr => (this.block b (Nat.lt_of_lt_of_le hb h.size) (by simp)).trans (h.block b hb hr)⟩
/-- In a round, behind the step: the new outcome at g, the old one, the result's place. -/
structure Rnd (w Y : World) (g : Nat) (x y : Nat × Nat) : Prop where
  new : Lies Y g #[.int .i64 (y.1 : Int), .int .i64 (y.2 : Int)] 95
  old : Lies Y (w.heap.size + 1) #[.int .i64 (x.1 : Int), .int .i64 (x.2 : Int)] 95
  res : Lies Y w.heap.size #[.int .i64 0, .int .i64 0] 95
  below : Below w.heap.size w Y
  apart : w.heap.size + 1 < g
theorem rnd_new {w W : World} {x : Nat × Nat} (y : Nat × Nat) (h1 : Lies W w.heap.size (cells2 (0, 0)) 95) (h2 : Lies W (w.heap.size + 1) (cells2 x) 95) (h3 : Below w.heap.size w W) :
    Rnd w (W.alloc (.cells #[.int .i64 (y.1 : Int), .int .i64 (y.2 : Int)] 95)) W.heap.size x y :=
  ⟨Lies.new _ _ _, h2.alloc _, h1.alloc _, h3.alloc h3.size _, h2.lt⟩
theorem rnd_set {w W : World} {g : Nat} {u v : Value} {x : Nat × Nat} (h : Lies W g #[u, v] 95) (y : Nat × Nat) (h1 : Lies W w.heap.size (cells2 (0, 0)) 95) (h2 : Lies W (w.heap.size + 1) (cells2 x) 95) (h3 : Below w.heap.size w W) (hg : w.heap.size + 1 < g) :
    Rnd w ((W.setCell ⟨g, 0, none⟩ (.int .i64 (y.1 : Int))).setCell ⟨g, 1, none⟩ (.int .i64 (y.2 : Int))) g x y :=
  ⟨(h.set0 _).set1 _, (h2.other (by omega) _ _).other (by omega) _ _, (h1.other (by omega) _ _).other (by omega) _ _, (h3.setCell (p := ⟨g, 0, none⟩) (by simp; omega) _).setCell (p := ⟨g, 1, none⟩) (by simp; omega) _, hg⟩
theorem readOut_lies {W : World} {b : Nat} {x : Nat × Nat} {t : TypeId} (h : Lies W b (cells2 x) t) : readOut W b = x := by
  obtain ⟨c0, c1, _, _⟩ := Lies.cells (x := .int .i64 (x.1 : Int)) (y := .int .i64 (x.2 : Int)) h
  unfold readOut
  rw [c0, c1]
  rfl

end Go.Proofs.YtfoifcbpognjaaaDoor

