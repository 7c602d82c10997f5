/- Chapter 11, the model: the rules on a sequence: what stays (wip/tools/mkZD3.py). -/
import Derived.Test.YtgkgkaapjljpcaaDoorZDv
namespace Go.Proofs.YtgkgkaapjljpcaaDoor
open Go.ChangeShapes Go.WideShapes Go.ChangeAt Go.RowKit Go.Shelf
attribute [local go_sem] Oper.semAt_some
set_option maxRecDepth 100000

/-- All that was there stays, but for one block. -/
def Keeps (z : Nat) (W W' : World) : Prop := W'.os = W.os ∧ W.heap.size ≤ W'.heap.size ∧ ∀ i, i ≠ z → i < W.heap.size → W'.heap[i]? = W.heap[i]?
theorem Keeps.of_below {z : Nat} {W W' : World} (h : Below W.heap.size W W') : Keeps z W W' := ⟨h.os, h.size, fun i _ hi => h.block i hi⟩
theorem Keeps.set3 {z : Nat} {W W' : World} (h : Keeps z W W') (k : Int) (s : ByteArray) (ad : Option Addr) (n cap : Nat) : Keeps z W (set3 W' z k s ad n cap) :=
  ⟨h.1, by rw [set3_size]; exact h.2.1, fun i hi hl => (set3_block hi _ _ _ _ _).trans (h.2.2 i hi hl)⟩
theorem Keeps.var {z : Nat} {W W' : World} (h : Keeps z W W') {g : Nat} {k : Int} {s : ByteArray} {ad : Option Addr} {m cap : Nat} (v : Var W g k s ad m cap) (hg : g ≠ z) : Var W' g k s ad m cap := (h.2.2 g hg (Array.getElem?_eq_some_iff.1 v).1).trans v
theorem Keeps.cell {z : Nat} {W W' : World} (h : Keeps z W W') {g : Nat} (hg : g ≠ z) (hl : g < W.heap.size) (o : Nat) : W'.cell? ⟨g, o, none⟩ = W.cell? ⟨g, o, none⟩ := World.cell?_of_block (w := W) (w' := W') (a := ⟨g, o, none⟩) (h.2.2 g hg hl)
end Go.Proofs.YtgkgkaapjljpcaaDoor

