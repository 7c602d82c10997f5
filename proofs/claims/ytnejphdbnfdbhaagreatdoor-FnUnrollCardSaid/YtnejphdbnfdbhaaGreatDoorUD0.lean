/- The program's runs with loops that are gone through at most so many times: a visitor behind a pointer. -/
import Derived.Test.YtnejphdbnfdbhaaGreatDoorR4
import Derived.Test.YtnejphdbnfdbhaaGreatDoorUA
import Derived.Test.YtnejphdbnfdbhaaGreatDoorUE
namespace Go.Proofs.YtnejphdbnfdbhaaGreatDoor
open Go.ChangeShapes Go.WideShapes Go.ChangeAt Go.RowKit Go.Shelf
attribute [local go_sem] Oper.semAt_some
set_option maxRecDepth 100000

/-- Where a run stands. -/
def Box (W : World) (b T : Nat) (x : Nat × Nat) : Prop := W.heap[b]? = some (.cells #[.int .i64 (T : Int), .int .i64 (x.1 : Int), .int .i64 (x.2 : Int)] 116 (0, 0))
theorem Box.lt {W : World} {b T : Nat} {x : Nat × Nat} (h : Box W b T x) : b < W.heap.size := (Array.getElem?_eq_some_iff.1 h).1
theorem Box.cells {W : World} {b T : Nat} {x : Nat × Nat} (h : Box W b T x) : W.cell? ⟨b, 0, none⟩ = some (.int .i64 (T : Int)) ∧ W.cell? ⟨b, 1, none⟩ = some (.int .i64 (x.1 : Int)) ∧ W.cell? ⟨b, 2, none⟩ = some (.int .i64 (x.2 : Int)) ∧ W.frozen? ⟨b, 1, none⟩ = false ∧ W.frozen? ⟨b, 2, none⟩ = false := by
  unfold Box at h
  exact ⟨by simp [World.cell?, h], by simp [World.cell?, h], by simp [World.cell?, h], by simp [World.frozen?, h], by simp [World.frozen?, h]⟩
theorem Box.set1 {W : World} {b T : Nat} {x : Nat × Nat} (h : Box W b T x) (y : Nat) : Box (W.setCell ⟨b, 1, none⟩ (.int .i64 (y : Int))) b T (y, x.2) := by
  unfold Box at *
  rw [heap_setCell_same W b 1 _ 116 _ h]; rfl
theorem Box.set2 {W : World} {b T : Nat} {x : Nat × Nat} (h : Box W b T x) (y : Nat) : Box (W.setCell ⟨b, 2, none⟩ (.int .i64 (y : Int))) b T (x.1, y) := by
  unfold Box at *
  rw [heap_setCell_same W b 2 _ 116 _ h]; rfl
theorem Box.kept {W W' : World} {b T : Nat} {x : Nat × Nat} {row : Option Nat} (h : Box W b T x) (hg : W.grownBy W' row) (hne : some b ≠ row) : Box W' b T x := (hg.block b h.lt hne).trans h
theorem Box.below {W W' : World} {b T : Nat} {x : Nat × Nat} (h : Box W b T x) (hb : Below W.heap.size W W') : Box W' b T x := (hb.block b h.lt).trans h
theorem Box.drew {W : World} {b T : Nat} {x : Nat × Nat} (h : Box W b T x) : Box W.drew b T x := h
theorem Box.alloc {W : World} {b T : Nat} {x : Nat × Nat} (h : Box W b T x) (o : Obj) : Box (W.alloc o) b T x := h.kept (World.grownBy_alloc W o none) (by simp)
/-- What a visit makes of it. -/
def aft (T : Nat) (nd : Node) (x : Nat × Nat) : Nat × Nat := ((runT T nd x.1).1, x.2 ||| (runT T nd x.1).2)
theorem aft_small {T : Nat} {nd : Node} (h : nd.ok) {x : Nat × Nat} (hx : Small x) : Small (aft T nd x) := ⟨(runT_lt T nd h x.1 hx.1).1, or_lt hx.2 (runT_lt T nd h x.1 hx.1).2⟩
/-- A visitor's method leaves the run so. -/
def Left (W : World) (b T : Nat) (y : Nat × Nat) (e : Ending) (W' : World) : Prop := e = .returned (.tuple #[]) ∧ Box W' b T y ∧ W.grownBy W' (some b)
def Visits (T : Nat) (nd : Node) : Prop := ∀ (b : Nat) (x : Nat × Nat) (W : World), Small x → Box W b T x →
  Calls Tryz.prog 52 #[nodeV nd, .iface 114 (.pointer (some ⟨b, 0, none⟩))] W (Left W b T (aft T nd x))

/-- Behind the atom's own run: where the visitor stands, and what has been reached, in a variable. -/
structure BT (W Y : World) (b T g : Nat) (x y : Nat × Nat) : Prop where
  box : Box Y b T x
  beh : Lies Y g #[.int .i64 (y.1 : Int), .int .i64 (y.2 : Int)] 64
  gr : W.grownBy Y none
  ne : b ≠ g
theorem bt_new {W W2 : World} {b T : Nat} {x y : Nat × Nat} (hB : Box W b T x) (hb : Below W.drew.heap.size W.drew W2) : BT W (W2.alloc (.cells #[.int .i64 (y.1 : Int), .int .i64 (y.2 : Int)] 64)) b T W2.heap.size x y := by
  have g := drewG (below_self_grown W none)
  have g2 := grown_trans_b g hb
  exact ⟨(hB.kept g2 (by simp)).alloc _, Lies.new _ _ _, World_grown_alloc g2 _, Nat.ne_of_lt (Nat.lt_of_lt_of_le hB.lt g2.size)⟩
theorem bt_set {W W2 : World} {b T : Nat} {x y : Nat × Nat} {u v : Value} (hB : Box W b T x) (hb : Below (W.alloc (.cells #[.int .i64 0, .int .i64 0] 64)).drew.heap.size (W.alloc (.cells #[.int .i64 0, .int .i64 0] 64)).drew W2) (hN : Lies W2 W.heap.size #[u, v] 64) :
    BT W ((W2.setCell ⟨W.heap.size, 0, none⟩ (.int .i64 (y.1 : Int))).setCell ⟨W.heap.size, 1, none⟩ (.int .i64 (y.2 : Int))) b T W.heap.size x y := by
  have g0 := drewG (World.grownBy_alloc W (.cells #[.int .i64 0, .int .i64 0] 64) none)
  have g2 := grown_trans_b g0 hb
  have hne : b ≠ W.heap.size := Nat.ne_of_lt hB.lt
  have k : ∀ (Z : World) (o : Nat) (z : Value), W.grownBy Z none → W.grownBy (Z.setCell ⟨W.heap.size, o, none⟩ z) none := fun Z o z h =>
    ⟨h.os, h.tape, h.output, by simp; exact h.size, fun c hc hr => (heap_setCell_other _ _ c _ (Nat.ne_of_lt hc)).trans (h.block c hc hr)⟩
  have g4 := k _ 1 (.int .i64 (y.2 : Int)) (k _ 0 (.int .i64 (y.1 : Int)) g2)
  exact ⟨hB.kept g4 (by simp), (hN.set0 _).set1 _, g4, hne⟩
theorem one_then {V W : World} {a : Addr} {u : Value} {G : Prop} (hb : Below V.heap.size V W) (h : V.cell? a = some u) (f : W.cell? a = some u → G) : G := f (keepCell hb h)
theorem cell_put2 {W : World} {a : Addr} {u p q : Value} {o : Nat} (ha : a.block ≠ o) (h : W.cell? a = some u) : ((W.setCell ⟨o, 0, none⟩ p).setCell ⟨o, 1, none⟩ q).cell? a = some u := (two_set ha ha h h).1
theorem bm (b : Nat) (W : World) :
    (method 297 114 (.pointer (some ⟨b, 0, none⟩)) "loop.example/surelywrong/impl.atom").run Tryz.prog W = .ok (158, .pointer (some ⟨b, 0, none⟩)) W ∧
    (method 297 114 (.pointer (some ⟨b, 0, none⟩)) "loop.example/surelywrong/impl.sequence").run Tryz.prog W = .ok (161, .pointer (some ⟨b, 0, none⟩)) W ∧
    (method 297 114 (.pointer (some ⟨b, 0, none⟩)) "loop.example/surelywrong/impl.choice").run Tryz.prog W = .ok (159, .pointer (some ⟨b, 0, none⟩)) W ∧
    (method 297 114 (.pointer (some ⟨b, 0, none⟩)) "loop.example/surelywrong/impl.loop").run Tryz.prog W = .ok (160, .pointer (some ⟨b, 0, none⟩)) W := ⟨by kernel_rfl, by kernel_rfl, by kernel_rfl, by kernel_rfl⟩
theorem aft_seq (T : Nat) (p q : Node) (x : Nat × Nat) : aft T (.pair 59 p q) x = aft T q (aft T p x) := by
  unfold aft
  rw [runT_seq]
  simp only [Nat.or_assoc]
theorem left_trans {W W1 W2 : World} {b : Nat} (h : W.grownBy W1 (some b)) (k : W1.grownBy W2 (some b)) : W.grownBy W2 (some b) :=
  ⟨k.os.trans h.os, k.tape.trans h.tape, k.output.trans h.output, Nat.le_trans h.size k.size, fun c hc hr => (k.block c (Nat.lt_of_lt_of_le hc h.size) hr).trans (h.block c hc hr)⟩
theorem left_none {W W1 : World} {b : Nat} (h : W.grownBy W1 none) : W.grownBy W1 (some b) := ⟨h.os, h.tape, h.output, h.size, fun c hc _ => h.block c hc (by simp)⟩
theorem left_put {W W3 : World} {b T : Nat} {x : Nat × Nat} (h : Box W3 b T x) (hg : W.grownBy W3 (some b)) (y1 y2 : Nat) :
    Box ((W3.setCell ⟨b, 1, none⟩ (.int .i64 (y1 : Int))).setCell ⟨b, 2, none⟩ (.int .i64 (y2 : Int))) b T (y1, y2) ∧ W.grownBy ((W3.setCell ⟨b, 1, none⟩ (.int .i64 (y1 : Int))).setCell ⟨b, 2, none⟩ (.int .i64 (y2 : Int))) (some b) :=
  ⟨(h.set1 y1).set2 y2, grown_set (grown_set hg _) _⟩
end Go.Proofs.YtnejphdbnfdbhaaGreatDoor

