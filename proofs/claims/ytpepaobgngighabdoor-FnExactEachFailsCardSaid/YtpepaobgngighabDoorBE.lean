/- Chapter 8: does a program fail from each state of a set; both sides, and the walk. -/
import Derived.Test.YtpepaobgngighabDoorMB
import Derived.Test.YtpepaobgngighabDoorBQ
import Derived.Test.YtpepaobgngighabDoorE4
import Derived.Test.YtpepaobgngighabDoorTW0
namespace Go.Proofs.YtpepaobgngighabDoor
open Go.ChangeShapes Go.WideShapes Go.ChangeAt Go.RowKit Go.Shelf
attribute [local go_sem] Oper.semAt_some
set_option maxRecDepth 100000

theorem wiM8 (a b : Int) (w : World) :
    Calls Tryd.prog 14 #[.int .i64 a, .int .i64 b] w fun e w' => e = .returned (.bool (within a b)) ∧ w = w' := by
  by_cases h1 : isSet a = true
  · by_cases h2 : isSet b = true
    · by_cases h3 : (bits .andNot .i64 a b == 0) = true
      · have h : within a b = true := by simp [within, h1, h2, h3]
        rw [h]; clear h
        go_enter Tryd.func14, Tryd.ntmps14
        go_wp2_with (go_at_call 20; refine (sv25 _ _).mono ?_; rintro e w' ⟨rfl, rfl⟩)
        go_ret
        exact ⟨rfl, rfl⟩
      · have h : within a b = false := by simp [within, h1, h2, h3]
        rw [h]; clear h
        go_enter Tryd.func14, Tryd.ntmps14
        go_wp2_with (go_at_call 20; refine (sv25 _ _).mono ?_; rintro e w' ⟨rfl, rfl⟩)
        go_ret
        exact ⟨rfl, rfl⟩
    · have h : within a b = false := by simp [within, h2]
      rw [h]; clear h
      go_enter Tryd.func14, Tryd.ntmps14
      go_wp2_with (go_at_call 20; refine (sv25 _ _).mono ?_; rintro e w' ⟨rfl, rfl⟩)
      go_ret
      exact ⟨rfl, rfl⟩
  · have h : within a b = false := by simp [within, h1]
    rw [h]; clear h
    go_enter Tryd.func14, Tryd.ntmps14
    go_wp2_with (go_at_call 20; refine (sv25 _ _).mono ?_; rintro e w' ⟨rfl, rfl⟩)
    go_ret
    exact ⟨rfl, rfl⟩
/-- What both say: the triple is one, and each state of the set is among those from which the other one is reached. -/
def eachZ (b : Int) (p : ByteArray) (x r : Int) : Bool := reachB p r x && within b (canZ p r x)

set_option maxHeartbeats 2000000 in
theorem meach (b : Int) (p : ByteArray) (hp : p.size ≤ 9000000) (x r : Int) (w : World) :
    Calls Tryd.prog 8 #[.agg #[.int .i64 b, .string p, .int .i64 x, .int .i64 r]] w fun e w' => e = .returned (.bool (eachZ b p x r)) ∧ Below w.heap.size w w' := by
  have hA : Below w.heap.size w (w.alloc (.cells #[.int .i64 b, .string p, .int .i64 x, .int .i64 r] 27)) := (Below.refl _ w).alloc (Nat.le_refl _) _
  have hT := TripAt.new w b p x r
  have hcan := mcan p hp r x (w.alloc (.cells #[.int .i64 b, .string p, .int .i64 x, .int .i64 r] 27))
  unfold eachZ
  generalize canZ p r x = z at hcan ⊢
  cases hb : reachB p r x with
  | false =>
    rw [hb] at hcan
    clear hb
    go_enter Tryd.func8, Tryd.ntmps8
    go_wp2_with (go_at_call 13; refine hcan.mono ?_; rintro e W1 ⟨rfl, hb1⟩; obtain ⟨c0, c1, c2, c3⟩ := (hT.below hb1 hT.lt).cells)
    go_ret
    exact ⟨rfl, hA.trans (hb1.mono hA.size)⟩
  | true =>
    rw [hb] at hcan
    clear hb
    rw [Bool.true_and]
    go_enter Tryd.func8, Tryd.ntmps8
    go_wp2_with (first
      | (go_at_call 13; refine hcan.mono ?_; rintro e W1 ⟨rfl, hb1⟩; obtain ⟨c0, c1, c2, c3⟩ := (hT.below hb1 hT.lt).cells)
      | (go_at_call 14; refine (wiM8 _ _ _).mono ?_; rintro e w' ⟨rfl, rfl⟩))
    go_ret
    exact ⟨rfl, hA.trans (hb1.mono hA.size)⟩

set_option maxHeartbeats 2000000 in
theorem peach (b : Int) (p : ByteArray) (x r : Int) (w : World) {N : Nat} (hL : Laid3 N w) (hE : NoExit N w) :
    Calls Tryd.prog 10 #[.agg #[.int .i64 b, .string p, .int .i64 x, .int .i64 r]] w fun e w' => e = .returned (.bool (eachZ b p x r)) ∧ Below w.heap.size w w' := by
  have hA : Below w.heap.size w (w.alloc (.cells #[.int .i64 b, .string p, .int .i64 x, .int .i64 r] 27)) := (Below.refl _ w).alloc (Nat.le_refl _) _
  have hT := TripAt.new w b p x r
  have hcan := pcan p r x _ (hL.below hA hL.lt) (hE.below hA hL.lt)
  unfold eachZ
  generalize canZ p r x = z at hcan ⊢
  cases hb : reachB p r x with
  | false =>
    rw [hb] at hcan
    clear hb
    go_enter Tryd.func10, Tryd.ntmps10
    go_wp2_with (go_at_call 15; refine hcan.mono ?_; rintro e W1 ⟨rfl, hb1⟩; obtain ⟨c0, c1, c2, c3⟩ := (hT.below hb1 hT.lt).cells)
    go_ret
    exact ⟨rfl, hA.trans (hb1.mono hA.size)⟩
  | true =>
    rw [hb] at hcan
    clear hb
    rw [Bool.true_and]
    go_enter Tryd.func10, Tryd.ntmps10
    go_wp2_with (first
      | (go_at_call 15; refine hcan.mono ?_; rintro e W1 ⟨rfl, hb1⟩; obtain ⟨c0, c1, c2, c3⟩ := (hT.below hb1 hT.lt).cells)
      | (go_at_call 16; refine (wi21 _ _ _).mono ?_; rintro e w' ⟨rfl, rfl⟩))
    go_ret
    exact ⟨rfl, hA.trans (hb1.mono hA.size)⟩

/-- The argument's own cells. -/
def OwnU (W : World) (g : Nat) (b : Int) (p : ByteArray) (x r : Int) : Prop := W.heap[g]? = some (.cells #[.int .i64 b, .string p, .int .i64 x, .int .i64 r] 24 (0, 0))
theorem OwnU.new (W : World) (b : Int) (p : ByteArray) (x r : Int) : OwnU (W.alloc (.cells #[.int .i64 b, .string p, .int .i64 x, .int .i64 r] 24)) W.heap.size b p x r := heap_alloc_new W _
theorem OwnU.lt {W : World} {g : Nat} {b : Int} {p : ByteArray} {x r : Int} (h : OwnU W g b p x r) : g < W.heap.size := (Array.getElem?_eq_some_iff.1 h).1
theorem OwnU.below {W W' : World} {g : Nat} {b : Int} {p : ByteArray} {x r : Int} (h : OwnU W g b p x r) (hb : Below W.heap.size W W') : OwnU W' g b p x r := (hb.block g h.lt).trans h
theorem OwnU.cells {W : World} {g : Nat} {b : Int} {p : ByteArray} {x r : Int} (h : OwnU W g b p x r) :
    W.cell? ⟨g, 0, none⟩ = some (.int .i64 b) ∧ W.cell? ⟨g, 1, none⟩ = some (.string p) ∧ W.cell? ⟨g, 2, none⟩ = some (.int .i64 x) ∧ W.cell? ⟨g, 3, none⟩ = some (.int .i64 r) :=
  ⟨by rw [cell_of_row _ g 0 _ _ (0, 0) h]; rfl, by rw [cell_of_row _ g 1 _ _ (0, 0) h]; rfl, by rw [cell_of_row _ g 2 _ _ (0, 0) h]; rfl, by rw [cell_of_row _ g 3 _ _ (0, 0) h]; rfl⟩

set_option maxHeartbeats 2000000 in
theorem walkEachFails (b : Int) (p : ByteArray) (x r : Int) (hm : p.size ≤ maxLen) (w : World) {N : Nat} (hL : Laid3 N w) (hE : NoExit N w) :
    Calls Tryd.prog 4 #[.agg #[.int .i64 b, .string p, .int .i64 x, .int .i64 r]] w fun e w' => e = .returned (.bool true) ∧ Below w.heap.size w w' := by
  unfold maxLen at hm
  have hsz := fun X => sz12 b p x r 1048576 X (by omega) (by omega) hm
  have hcur : Below w.heap.size w (w.alloc (.cells #[.int .i64 b, .string p, .int .i64 x, .int .i64 r] 24)) := (Below.refl _ w).alloc (Nat.le_refl _) _
  have hT := OwnU.new w b p x r
  have hto := fun X => to14 b p x r X
  by_cases hlt : (p.size : Int) ≤ 1048576
  · rw [if_pos hlt] at hsz
    have hn : ¬ (1048576 - (p.size : Int) < 0) := by omega
    have hmod := fun X => meach b p (by omega) x r X
    have hprog := fun (X : World) (hX : Laid3 N X) (hY : NoExit N X) => peach b p x r X hX hY
    generalize eachZ b p x r = s at hmod hprog
    have hlt2 := hlt
    clear hlt
    go_enter Tryd.func4, Tryd.ntmps4
    go_wp2_with (first
      | (go_at_call 7; refine (hsz _).mono ?_; rintro e Wk ⟨rfl, hb⟩; replace hcur := hcur.trans (hb.mono hcur.size); replace hT := hT.below hb; obtain ⟨c0, c1, c2, c3⟩ := hT.cells; clear hb)
      | (go_at_call 9; refine (hto _).mono ?_; rintro e Wk ⟨rfl, hb⟩; replace hcur := hcur.trans (hb.mono hcur.size); replace hT := hT.below hb; obtain ⟨c0, c1, c2, c3⟩ := hT.cells; clear hb)
      | (go_at_call 8; refine (hmod _).mono ?_; rintro e Wk ⟨rfl, hb⟩; replace hcur := hcur.trans (hb.mono hcur.size); replace hT := hT.below hb; obtain ⟨c0, c1, c2, c3⟩ := hT.cells; clear hb)
      | (go_at_call 10; refine (hprog _ (hL.below hcur hL.lt) (hE.below hcur hL.lt)).mono ?_; rintro e Wk ⟨rfl, hb⟩; replace hcur := hcur.trans (hb.mono hcur.size); replace hT := hT.below hb; obtain ⟨c0, c1, c2, c3⟩ := hT.cells; clear hb))
    go_ret
    exact ⟨rfl, hcur⟩
  · rw [if_neg hlt] at hsz
    clear hlt
    go_enter Tryd.func4, Tryd.ntmps4
    go_wp2_with (go_at_call 7; refine (hsz _).mono ?_; rintro e Wk ⟨rfl, hb⟩; replace hcur := hcur.trans (hb.mono hcur.size); replace hT := hT.below hb; obtain ⟨c0, c1, c2, c3⟩ := hT.cells; clear hb)
    go_ret
    exact ⟨rfl, hcur⟩
end Go.Proofs.YtpepaobgngighabDoor

