/- Chapter 8, the program: what is reached turned round (the table of nine sets), and gone back to. -/
import Derived.Test.YtngcdgnijfiocaaGreatDoorBA
import Derived.Test.YtngcdgnijfiocaaGreatDoorR6
namespace Go.Proofs.YtngcdgnijfiocaaGreatDoor
open Go.ChangeShapes Go.WideShapes Go.ChangeAt Go.RowKit Go.Shelf
attribute [local go_sem] Oper.semAt_some
set_option maxRecDepth 100000


/-! ### A table of nine sets -/
def revA (F : Nat → Nat) : Array Value := #[.int .i64 (F 0 : Int), .int .i64 (F 1 : Int), .int .i64 (F 2 : Int), .int .i64 (F 3 : Int), .int .i64 (F 4 : Int), .int .i64 (F 5 : Int), .int .i64 (F 6 : Int), .int .i64 (F 7 : Int), .int .i64 (F 8 : Int)]
theorem nine_cases {P : Nat → Prop} {s : Nat} (hs : s < 9) (h0 : P 0) (h1 : P 1) (h2 : P 2) (h3 : P 3) (h4 : P 4) (h5 : P 5) (h6 : P 6) (h7 : P 7) (h8 : P 8) : P s := by
  rcases (by omega : s = 0 ∨ s = 1 ∨ s = 2 ∨ s = 3 ∨ s = 4 ∨ s = 5 ∨ s = 6 ∨ s = 7 ∨ s = 8) with rfl | rfl | rfl | rfl | rfl | rfl | rfl | rfl | rfl <;> assumption
theorem revA_at (F : Nat → Nat) {s : Nat} (hs : s < 9) : (revA F)[s]? = some (.int .i64 (F s : Int)) := nine_cases (P := fun s => (revA F)[s]? = some (.int .i64 (F s : Int))) hs rfl rfl rfl rfl rfl rfl rfl rfl rfl
theorem revA_size (F : Nat → Nat) : (revA F).size = 9 := rfl
/-- The table with another set at one place. -/
def putF (F : Nat → Nat) (s v : Nat) : Nat → Nat := fun i => if i = s then v else F i
theorem revA_put (F : Nat → Nat) {s : Nat} (hs : s < 9) (v : Nat) : (revA F).setIfInBounds s (.int .i64 (v : Int)) = revA (putF F s v) :=
  nine_cases (P := fun s => (revA F).setIfInBounds s (.int .i64 (v : Int)) = revA (putF F s v)) hs rfl rfl rfl rfl rfl rfl rfl rfl rfl
theorem rev_cell {W : World} {b : Nat} {F : Nat → Nat} {t : TypeId} (h : Lies W b (revA F) t) {s : Nat} (hs : s < 9) : W.cell? ⟨b, s, none⟩ = some (.int .i64 (F s : Int)) ∧ W.frozen? ⟨b, s, none⟩ = false := by
  unfold Lies at h
  refine ⟨?_, by simp [World.frozen?, h]⟩
  rw [cell_of_row _ b s _ t (0, 0) h]
  exact revA_at F hs
theorem rev_set {W : World} {b : Nat} {F : Nat → Nat} {t : TypeId} (h : Lies W b (revA F) t) {s : Nat} (hs : s < 9) (v : Nat) : Lies (W.setCell ⟨b, s, none⟩ (.int .i64 (v : Int))) b (revA (putF F s v)) t := by
  unfold Lies at *
  rw [heap_setCell_same W b s _ t _ h, revA_put F hs]
end Go.Proofs.YtngcdgnijfiocaaGreatDoor

