/- Chapter 5, the model: sure, always, missing, surplus, most, the texts. -/
import Derived.Test.YtgdgbjnmibkmhaaGreatDoorTM
import Derived.Deep.RegionHeld3
namespace Go.Proofs.YtgdgbjnmibkmhaaGreatDoor
open Go.ChangeShapes Go.WideShapes Go.ChangeAt Go.RowKit Go.Shelf
attribute [local go_sem] Oper.semAt_some
set_option maxRecDepth 100000

/-- A triple's cells as they are read. -/
def ReadsT (g : Nat) (b : Int) (p : ByteArray) (x r : Int) (W : World) : Prop :=
  W.cell? ⟨g, 0, none⟩ = some (.int .i64 b) ∧ W.cell? ⟨g, 1, none⟩ = some (.string p) ∧ W.cell? ⟨g, 2, none⟩ = some (.int .i64 x) ∧ W.cell? ⟨g, 3, none⟩ = some (.int .i64 r)
theorem ReadsT.below {g : Nat} {b : Int} {p : ByteArray} {x r : Int} {W W' : World} (h : ReadsT g b p x r W) {n : Nat} (hb : Below n W W') (hn : g < n) : ReadsT g b p x r W' := by
  obtain ⟨h0, h1, h2, h3⟩ := h
  exact ⟨(hb.cell (p := ⟨g, 0, none⟩) hn).trans h0, (hb.cell (p := ⟨g, 1, none⟩) hn).trans h1, (hb.cell (p := ⟨g, 2, none⟩) hn).trans h2, (hb.cell (p := ⟨g, 3, none⟩) hn).trans h3⟩
theorem ReadsT.drew {g : Nat} {b : Int} {p : ByteArray} {x r : Int} {W : World} (h : ReadsT g b p x r W) : ReadsT g b p x r W.drew := h








/-- The four stores by which a triple's variable is written. -/
def set4 (U : World) (g : Nat) (b : Int) (p : ByteArray) (x r : Int) : World :=
  (((U.setCell ⟨g, 0, none⟩ (.int .i64 b)).setCell ⟨g, 1, none⟩ (.string p)).setCell ⟨g, 2, none⟩ (.int .i64 x)).setCell ⟨g, 3, none⟩ (.int .i64 r)
theorem TripAt.frozen {W : World} {g : Nat} {b : Int} {p : ByteArray} {x r : Int} (h : TripAt W g b p x r) :
    W.frozen? ⟨g, 0, none⟩ = false ∧ W.frozen? ⟨g, 1, none⟩ = false ∧ W.frozen? ⟨g, 2, none⟩ = false ∧ W.frozen? ⟨g, 3, none⟩ = false := by
  unfold TripAt at h
  exact ⟨by simp [World.frozen?, h], by simp [World.frozen?, h], by simp [World.frozen?, h], by simp [World.frozen?, h]⟩
theorem set4_trip {U : World} {g : Nat} {b0 : Int} {p0 : ByteArray} {x0 r0 : Int} (h : TripAt U g b0 p0 x0 r0) (b : Int) (p : ByteArray) (x r : Int) : TripAt (set4 U g b p x r) g b p x r := by
  unfold TripAt set4 at *
  have h1 := heap_setCell_same U g 0 _ 31 (.int .i64 b) h
  have h2 := heap_setCell_same _ g 1 _ 31 (.string p) h1
  have h3 := heap_setCell_same _ g 2 _ 31 (.int .i64 x) h2
  have h4 := heap_setCell_same _ g 3 _ 31 (.int .i64 r) h3
  rw [h4]
  rfl
theorem set4_below {A U : World} {g n : Nat} (h : Below n A U) (hn : n ≤ g) (b : Int) (p : ByteArray) (x r : Int) : Below n A (set4 U g b p x r) :=
  (((h.setCell (p := ⟨g, 0, none⟩) hn _).setCell (p := ⟨g, 1, none⟩) hn _).setCell (p := ⟨g, 2, none⟩) hn _).setCell (p := ⟨g, 3, none⟩) hn _

end Go.Proofs.YtgdgbjnmibkmhaaGreatDoor

