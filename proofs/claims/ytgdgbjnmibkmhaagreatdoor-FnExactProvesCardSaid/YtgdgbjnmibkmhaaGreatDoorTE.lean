/- Chapter 5, the program: whether a triple is one, its text, the sure one with most states behind. -/
import Derived.Test.YtgdgbjnmibkmhaaGreatDoorTD
import Derived.Test.YtgdgbjnmibkmhaaGreatDoorNB
namespace Go.Proofs.YtgdgbjnmibkmhaaGreatDoor
open Go.ChangeShapes Go.WideShapes Go.ChangeAt Go.RowKit Go.Shelf
attribute [local go_sem] Oper.semAt_some
set_option maxRecDepth 100000

/-- A triple's four cells in block g. -/
def TripAt (W : World) (g : Nat) (b : Int) (p : ByteArray) (x r : Int) : Prop := W.heap[g]? = some (.cells #[.int .i64 b, .string p, .int .i64 x, .int .i64 r] 31 (0, 0))
theorem TripAt.new (W : World) (b : Int) (p : ByteArray) (x r : Int) : TripAt (W.alloc (.cells #[.int .i64 b, .string p, .int .i64 x, .int .i64 r] 31)) W.heap.size b p x r := heap_alloc_new W _
theorem TripAt.lt {W : World} {g : Nat} {b : Int} {p : ByteArray} {x r : Int} (h : TripAt W g b p x r) : g < W.heap.size := (Array.getElem?_eq_some_iff.1 h).1
theorem TripAt.below {W W' : World} {g : Nat} {b : Int} {p : ByteArray} {x r : Int} (h : TripAt W g b p x r) {n : Nat} (hb : Below n W W') (hn : g < n) : TripAt W' g b p x r := (hb.block g hn).trans h
theorem TripAt.cells {W : World} {g : Nat} {b : Int} {p : ByteArray} {x r : Int} (h : TripAt W g b p x r) :
    W.cell? ⟨g, 0, none⟩ = some (.int .i64 b) ∧ W.cell? ⟨g, 1, none⟩ = some (.string p) ∧ W.cell? ⟨g, 2, none⟩ = some (.int .i64 x) ∧ W.cell? ⟨g, 3, none⟩ = some (.int .i64 r) :=
  ⟨by rw [cell_of_row _ g 0 _ _ (0, 0) h]; rfl, by rw [cell_of_row _ g 1 _ _ (0, 0) h]; rfl, by rw [cell_of_row _ g 2 _ _ (0, 0) h]; rfl, by rw [cell_of_row _ g 3 _ _ (0, 0) h]; rfl⟩

theorem valid_no0 {b : Int} (p : ByteArray) (x r : Int) (h : isSet b = false) : validT b p x r = false := by unfold validT; rw [h]; rfl
theorem valid_no1 (b : Int) {p : ByteArray} (x r : Int) (h : isP p.toList = false) : validT b p x r = false := by unfold validT; rw [h, Bool.and_false]; rfl
theorem valid_no2 (b : Int) (p : ByteArray) {x : Int} (r : Int) (h : inB x 0 1 = false) : validT b p x r = false := by unfold validT; rw [h, Bool.and_false]; rfl
theorem valid_yes3 {b : Int} {p : ByteArray} {x : Int} (r : Int) (h0 : isSet b = true) (h1 : isP p.toList = true) (h2 : inB x 0 1 = true) : validT b p x r = isSet r := by unfold validT; rw [h0, h1, h2]; rfl
theorem name_none {x : Int} (h : inB x 0 1 = false) : nameX x = ⟨#[]⟩ := by
  have := of_decide_eq_false h
  unfold nameX
  rw [if_neg (by omega), if_neg (by omega)]
theorem name_some {x : Int} (h : inB x 0 1 = true) : (nameX x).toList.isEmpty = false := by
  have hx : x = 0 ∨ x = 1 := by have := of_decide_eq_true h; omega
  rcases hx with rfl | rfl <;> (rw [Lib.toList_data]; rfl)

set_option maxHeartbeats 2000000 in
theorem ptvalid (b : Int) (p : ByteArray) (x r : Int) (w : World) {N : Nat} (hE : Laid3 N w) :
    Calls Tryz.prog 75 #[.agg #[.int .i64 b, .string p, .int .i64 x, .int .i64 r]] w fun e w' => e = .returned (.bool (validT b p x r)) ∧ Below w.heap.size w w' := by
  have hE0 := hE.below ((Below.refl _ w).alloc (Nat.le_refl _) (.cells #[.int .i64 b, .string p, .int .i64 x, .int .i64 r] 31)) hE.lt
  have hA : Below w.heap.size w (w.alloc (.cells #[.int .i64 b, .string p, .int .i64 x, .int .i64 r] 31)) := (Below.refl _ w).alloc (Nat.le_refl _) _
  have hT := TripAt.new w b p x r
  have hP := fun (X : World) (hX : Laid3 N X) => pvalid20 p X hX
  cases h0 : isSet b with
  | false =>
    rw [valid_no0 p x r h0]
    have H0 := Lib.hid h0
    clear h0 hP
    go_enter Tryz.func75, Tryz.ntmps75
    go_wp2_with (go_at_call 107; refine (sv24 _ _).mono ?_; rintro e w' ⟨rfl, rfl⟩; rw [H0.out])
    go_ret
    exact ⟨rfl, hA⟩
  | true =>
    cases h1 : isP p.toList with
    | false =>
      rw [valid_no1 b x r h1]
      rw [h1] at hP
      have H0 := Lib.hid h0
      clear h0 h1
      go_enter Tryz.func75, Tryz.ntmps75
      go_wp2_with (first
        | (go_at_call 107; refine (sv24 _ _).mono ?_; rintro e w' ⟨rfl, rfl⟩; rw [H0.out])
        | (go_at_call 108; refine (hP _ hE0).mono ?_; rintro e W1 ⟨rfl, hb⟩))
      go_ret
      exact ⟨rfl, hA.trans (hb.mono hA.size)⟩
    | true =>
      rw [h1] at hP
      cases h2 : inB x 0 1 with
      | false =>
        rw [valid_no2 b p r h2]
        have HN := Lib.hid (name_none h2)
        have H0 := Lib.hid h0
        clear h0 h1 h2
        go_enter Tryz.func75, Tryz.ntmps75
        go_wp2_with (first
          | (go_at_call 107; refine (sv24 _ _).mono ?_; rintro e w' ⟨rfl, rfl⟩; rw [H0.out])
          | (go_at_call 108; refine (hP _ hE0).mono ?_; rintro e W1 ⟨rfl, hb⟩; obtain ⟨c0, c1, c2, c3⟩ := (hT.below hb hT.lt).cells)
          | (go_at_call 109; refine (pname26 _ _).mono ?_; rintro e w' ⟨rfl, rfl⟩; rw [HN.out]))
        go_ret
        exact ⟨rfl, hA.trans (hb.mono hA.size)⟩
      | true =>
        rw [valid_yes3 r h0 h1 h2]
        have HN := Lib.hid (name_some h2)
        have H0 := Lib.hid h0
        clear h0 h1 h2
        go_enter Tryz.func75, Tryz.ntmps75
        go_wp2_with (first
          | (go_at_call_of 107 (Value.int IntKind.i64 b); refine (sv24 b _).mono ?_; rintro e w' ⟨rfl, rfl⟩; rw [H0.out])
          | (go_at_call 108; refine (hP _ hE0).mono ?_; rintro e W1 ⟨rfl, hb⟩; obtain ⟨c0, c1, c2, c3⟩ := (hT.below hb hT.lt).cells)
          | (go_at_call 109; refine (pname26 _ _).mono ?_; rintro e w' ⟨rfl, rfl⟩; have hN := HN.out)
          | (go_at_call 107; refine (sv24 r _).mono ?_; rintro e w' ⟨rfl, rfl⟩))
        go_ret
        exact ⟨rfl, hA.trans (hb.mono hA.size)⟩
end Go.Proofs.YtgdgbjnmibkmhaaGreatDoor

