/- Chapter 5, the program: whether a triple is one, its text, the sure one with most states behind. -/
import Derived.Test.YtpepaobgngighabGreatDoorTD
import Derived.Test.YtpepaobgngighabGreatDoorNB
namespace Go.Proofs.YtpepaobgngighabGreatDoor
open Go.ChangeShapes Go.WideShapes Go.ChangeAt Go.RowKit Go.Shelf
attribute [local go_sem] Oper.semAt_some
set_option maxRecDepth 100000

/-- A triple's four cells in block g. -/
def TripAt (W : World) (g : Nat) (b : Int) (p : ByteArray) (x r : Int) : Prop := W.heap[g]? = some (.cells #[.int .i64 b, .string p, .int .i64 x, .int .i64 r] 25 (0, 0))
theorem TripAt.new (W : World) (b : Int) (p : ByteArray) (x r : Int) : TripAt (W.alloc (.cells #[.int .i64 b, .string p, .int .i64 x, .int .i64 r] 25)) W.heap.size b p x r := heap_alloc_new W _
theorem TripAt.lt {W : World} {g : Nat} {b : Int} {p : ByteArray} {x r : Int} (h : TripAt W g b p x r) : g < W.heap.size := (Array.getElem?_eq_some_iff.1 h).1
theorem TripAt.below {W W' : World} {g : Nat} {b : Int} {p : ByteArray} {x r : Int} (h : TripAt W g b p x r) {n : Nat} (hb : Below n W W') (hn : g < n) : TripAt W' g b p x r := (hb.block g hn).trans h
theorem TripAt.cells {W : World} {g : Nat} {b : Int} {p : ByteArray} {x r : Int} (h : TripAt W g b p x r) :
    W.cell? ⟨g, 0, none⟩ = some (.int .i64 b) ∧ W.cell? ⟨g, 1, none⟩ = some (.string p) ∧ W.cell? ⟨g, 2, none⟩ = some (.int .i64 x) ∧ W.cell? ⟨g, 3, none⟩ = some (.int .i64 r) :=
  ⟨by rw [cell_of_row _ g 0 _ _ (0, 0) h]; rfl, by rw [cell_of_row _ g 1 _ _ (0, 0) h]; rfl, by rw [cell_of_row _ g 2 _ _ (0, 0) h]; rfl, by rw [cell_of_row _ g 3 _ _ (0, 0) h]; rfl⟩

theorem valid_no0 {b : Int} (p : ByteArray) (x r : Int) (h : isSet b = false) : validT b p x r = false := by unfold validT; rw [h]; rfl
theorem valid_no1 (b : Int) {p : ByteArray} (x r : Int) (h : isP p.toList = false) : validT b p x r = false := by unfold validT; rw [h, Bool.and_false]; rfl
theorem valid_no2 (b : Int) (p : ByteArray) {x : Int} (r : Int) (h : inB x 0 1 = false) : validT b p x r = false := by unfold validT; rw [h, Bool.and_false]; rfl
theorem valid_yes3 {b : Int} {p : ByteArray} {x : Int} (r : Int) (h0 : isSet b = true) (h1 : isP p.toList = true) (h2 : inB x 0 1 = true) : validT b p x r = isSet r := by unfold validT; rw [h0, h1, h2]; rfl
theorem name_none {x : Int} (h : inB x 0 1 = false) : nameX x = ⟨#[]⟩ := by
  have := of_decide_eq_false h
  unfold nameX
  rw [if_neg (by omega), if_neg (by omega)]
theorem name_some {x : Int} (h : inB x 0 1 = true) : (nameX x).toList.isEmpty = false := by
  have hx : x = 0 ∨ x = 1 := by have := of_decide_eq_true h; omega
  rcases hx with rfl | rfl <;> (rw [Lib.toList_data]; rfl)

end Go.Proofs.YtpepaobgngighabGreatDoor

