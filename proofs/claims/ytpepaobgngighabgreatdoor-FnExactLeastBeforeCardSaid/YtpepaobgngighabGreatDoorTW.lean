/- Chapter 5: the walks of the exact laws on triples. -/
import Derived.Test.YtpepaobgngighabGreatDoorTW0
import Derived.Test.YtpepaobgngighabGreatDoorTH
namespace Go.Proofs.YtpepaobgngighabGreatDoor
open Go.ChangeShapes Go.WideShapes Go.ChangeAt Go.RowKit Go.Shelf Go.Maps
attribute [local go_sem] Oper.semAt_some
set_option maxRecDepth 100000

/-- The cells of the law's own triple. -/
def OwnT (W : World) (g : Nat) (b : Int) (p : ByteArray) (x r : Int) : Prop := W.heap[g]? = some (.cells #[.int .i64 b, .string p, .int .i64 x, .int .i64 r] 23 (0, 0))
theorem OwnT.new (W : World) (b : Int) (p : ByteArray) (x r : Int) : OwnT (W.alloc (.cells #[.int .i64 b, .string p, .int .i64 x, .int .i64 r] 23)) W.heap.size b p x r := heap_alloc_new W _
theorem OwnT.lt {W : World} {g : Nat} {b : Int} {p : ByteArray} {x r : Int} (h : OwnT W g b p x r) : g < W.heap.size := (Array.getElem?_eq_some_iff.1 h).1
theorem OwnT.below {W W' : World} {g : Nat} {b : Int} {p : ByteArray} {x r : Int} (h : OwnT W g b p x r) (hb : Below W.heap.size W W') : OwnT W' g b p x r := (hb.block g h.lt).trans h
theorem OwnT.cells {W : World} {g : Nat} {b : Int} {p : ByteArray} {x r : Int} (h : OwnT W g b p x r) :
    W.cell? ⟨g, 0, none⟩ = some (.int .i64 b) ∧ W.cell? ⟨g, 1, none⟩ = some (.string p) ∧ W.cell? ⟨g, 2, none⟩ = some (.int .i64 x) ∧ W.cell? ⟨g, 3, none⟩ = some (.int .i64 r) :=
  ⟨by rw [cell_of_row _ g 0 _ _ (0, 0) h]; rfl, by rw [cell_of_row _ g 1 _ _ (0, 0) h]; rfl, by rw [cell_of_row _ g 2 _ _ (0, 0) h]; rfl, by rw [cell_of_row _ g 3 _ _ (0, 0) h]; rfl⟩






end Go.Proofs.YtpepaobgngighabGreatDoor

