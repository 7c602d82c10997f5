/- Chapter 8: does a program fail from each state of a set; both sides, and the walk. The program's counts of results, and what it tells of a program by all of them. -/
import Derived.Test.YtngcdgnijfiocaaGreatDoorYf
import Derived.Test.YtngcdgnijfiocaaGreatDoorYg
import Derived.Test.YtngcdgnijfiocaaGreatDoorE4
import Derived.Test.YtngcdgnijfiocaaGreatDoorYd
import Derived.Test.YtngcdgnijfiocaaGreatDoorR6
namespace Go.Proofs.YtngcdgnijfiocaaGreatDoor
open Go.ChangeShapes Go.WideShapes Go.ChangeAt Go.RowKit Go.Shelf
attribute [local go_sem] Oper.semAt_some
set_option maxRecDepth 100000

theorem wiM8 (a b : Int) (w : World) :
    Calls Tryz.prog 53 #[.int .i64 a, .int .i64 b] w fun e w' => e = .returned (.bool (within a b)) ∧ w = w' := by
  by_cases h1 : isSet a = true
  · by_cases h2 : isSet b = true
    · by_cases h3 : (bits .andNot .i64 a b == 0) = true
      · have h : within a b = true := by simp [within, h1, h2, h3]
        rw [h]; clear h
        go_enter Tryz.func53, Tryz.ntmps53
        go_wp2_with (go_at_call 74; refine (sv25 _ _).mono ?_; rintro e w' ⟨rfl, rfl⟩)
        go_ret
        exact ⟨rfl, rfl⟩
      · have h : within a b = false := by simp [within, h1, h2, h3]
        rw [h]; clear h
        go_enter Tryz.func53, Tryz.ntmps53
        go_wp2_with (go_at_call 74; refine (sv25 _ _).mono ?_; rintro e w' ⟨rfl, rfl⟩)
        go_ret
        exact ⟨rfl, rfl⟩
    · have h : within a b = false := by simp [within, h2]
      rw [h]; clear h
      go_enter Tryz.func53, Tryz.ntmps53
      go_wp2_with (go_at_call 74; refine (sv25 _ _).mono ?_; rintro e w' ⟨rfl, rfl⟩)
      go_ret
      exact ⟨rfl, rfl⟩
  · have h : within a b = false := by simp [within, h1]
    rw [h]; clear h
    go_enter Tryz.func53, Tryz.ntmps53
    go_wp2_with (go_at_call 74; refine (sv25 _ _).mono ?_; rintro e w' ⟨rfl, rfl⟩)
    go_ret
    exact ⟨rfl, rfl⟩
/-- What both say: the triple is one, and each state of the set is among those from which the other one is reached. -/
def eachZ (b : Int) (p : ByteArray) (x r : Int) : Bool := reachB p r x && within b (canZ p r x)

set_option maxHeartbeats 2000000 in
theorem meach (b : Int) (p : ByteArray) (hp : p.size ≤ 9000000) (x r : Int) (w : World) :
    Calls Tryz.prog 18 #[.agg #[.int .i64 b, .string p, .int .i64 x, .int .i64 r]] w fun e w' => e = .returned (.bool (eachZ b p x r)) ∧ Below w.heap.size w w' := by
  have hA : Below w.heap.size w (w.alloc (.cells #[.int .i64 b, .string p, .int .i64 x, .int .i64 r] 33)) := (Below.refl _ w).alloc (Nat.le_refl _) _
  have hT := TripAt.new w b p x r
  have hcan := mcan p hp r x (w.alloc (.cells #[.int .i64 b, .string p, .int .i64 x, .int .i64 r] 33))
  unfold eachZ
  generalize canZ p r x = z at hcan ⊢
  cases hb : reachB p r x with
  | false =>
    rw [hb] at hcan
    clear hb
    go_enter Tryz.func18, Tryz.ntmps18
    go_wp2_with (go_at_call 52; refine hcan.mono ?_; rintro e W1 ⟨rfl, hb1⟩; obtain ⟨c0, c1, c2, c3⟩ := (hT.below hb1 hT.lt).cells)
    go_ret
    exact ⟨rfl, hA.trans (hb1.mono hA.size)⟩
  | true =>
    rw [hb] at hcan
    clear hb
    rw [Bool.true_and]
    go_enter Tryz.func18, Tryz.ntmps18
    go_wp2_with (first
      | (go_at_call 52; refine hcan.mono ?_; rintro e W1 ⟨rfl, hb1⟩; obtain ⟨c0, c1, c2, c3⟩ := (hT.below hb1 hT.lt).cells)
      | (go_at_call 53; refine (wiM8 _ _ _).mono ?_; rintro e w' ⟨rfl, rfl⟩))
    go_ret
    exact ⟨rfl, hA.trans (hb1.mono hA.size)⟩

set_option maxHeartbeats 2000000 in
theorem peach (b : Int) (p : ByteArray) (x r : Int) (w : World) {N : Nat} (hL : Laid3 N w) (hE : NoExit N w) :
    Calls Tryz.prog 16 #[.agg #[.int .i64 b, .string p, .int .i64 x, .int .i64 r]] w fun e w' => e = .returned (.bool (eachZ b p x r)) ∧ Below w.heap.size w w' := by
  have hA : Below w.heap.size w (w.alloc (.cells #[.int .i64 b, .string p, .int .i64 x, .int .i64 r] 33)) := (Below.refl _ w).alloc (Nat.le_refl _) _
  have hT := TripAt.new w b p x r
  have hcan := pcan p r x _ (hL.below hA hL.lt) (hE.below hA hL.lt)
  unfold eachZ
  generalize canZ p r x = z at hcan ⊢
  cases hb : reachB p r x with
  | false =>
    rw [hb] at hcan
    clear hb
    go_enter Tryz.func16, Tryz.ntmps16
    go_wp2_with (go_at_call 29; refine hcan.mono ?_; rintro e W1 ⟨rfl, hb1⟩; obtain ⟨c0, c1, c2, c3⟩ := (hT.below hb1 hT.lt).cells)
    go_ret
    exact ⟨rfl, hA.trans (hb1.mono hA.size)⟩
  | true =>
    rw [hb] at hcan
    clear hb
    rw [Bool.true_and]
    go_enter Tryz.func16, Tryz.ntmps16
    go_wp2_with (first
      | (go_at_call 29; refine hcan.mono ?_; rintro e W1 ⟨rfl, hb1⟩; obtain ⟨c0, c1, c2, c3⟩ := (hT.below hb1 hT.lt).cells)
      | (go_at_call 22; refine (wi21 _ _ _).mono ?_; rintro e w' ⟨rfl, rfl⟩))
    go_ret
    exact ⟨rfl, hA.trans (hb1.mono hA.size)⟩


end Go.Proofs.YtngcdgnijfiocaaGreatDoor

namespace Go.Proofs.YtngcdgnijfiocaaGreatDoor
open Go.ChangeShapes Go.WideShapes Go.ChangeAt Go.RowKit Go.Shelf
attribute [local go_sem] Oper.semAt_some
set_option maxRecDepth 100000

/-! ### How many states -/
set_option maxRecDepth 100000 in
set_option maxHeartbeats 2000000 in
theorem cs14_in (n : Nat) (hn : 3 ≤ n) (s : Int) (w : World) (hs : isSet s = true) :
    CallsIn Fence.wide n Tryz.prog 23 #[.int .i64 s] w fun e W' => e = .returned (.int .i64 ((upTo s 9).length : Int)) ∧ Below w.heap.size w W' := by
  have h1 : 1 ≤ n := by omega
  refine callsIn_of_wp_marks Tryz.func23 rfl trivial ?_ rfl
  simp only [Tryz.ntmps23, List.size_toArray, List.length_cons, List.length_nil, Nat.reduceAdd, Nat.reduceSub, Array.replicate_succ, Array.replicate_zero, List.push_toArray, List.append_toArray, List.nil_append, List.cons_append]
  gi_wp2_with (refine ⟨trivial, ?_⟩; first | (gi_at_call 38; refine (callsIn_wide.2 (sv24 _ _)).mono ?_; rintro e w' ⟨rfl, rfl⟩) | (gi_at_call 55; refine (maker_in (n - 1) s _).mono ?_; rintro e w' ⟨rfl, rfl⟩))
  have hs0 := cellNew w (.int .i64 0) 3
  have hb := cellNew (w.alloc (.cells #[.int .i64 0] 3)) (.int .i64 s) 69
  rw [World.size_alloc] at hb
  have hB0 : Below w.heap.size w ((w.alloc (.cells #[.int .i64 0] 3)).alloc (.cells #[.int .i64 s] 69)) := ((Below.refl _ w).alloc (Nat.le_refl _) _).alloc (by simp) _
  refine wpIn_rangeFunc_ownF rfl h1 (gf := 90) (lb := #[.pointer (some ⟨w.heap.size + 1, 0, none⟩)]) rfl trivial (enters_of Tryz.func90 (by kernel_rfl) rfl)
    (states_stops (n - 1) (by omega) (w.heap.size + 1) s _ (by simp) hb.1) kpB_t (kpB_b (by simp)) (Below.refl _ _) (fun _ => rfl)
    (fun pre W => (W.cell? ⟨w.heap.size, 0, none⟩ = some (.int .i64 (pre.length : Int)) ∧ W.frozen? ⟨w.heap.size, 0, none⟩ = false) ∧ Below w.heap.size w W)
    (fun _ _ _ => False)
    (OwnFrom.and (Own.from (fun s A B row hs hg hr => ⟨cell_kept hs.1 hg hr, (frozen_kept hs.1 hg hr).trans hs.2⟩) _) (ownFrom_below (Nat.le_refl _) (by simp; omega)))
    (fun _ _ _ _ _ hs _ _ => hs)
    ⟨⟨cellAlloc _ hs0.1, frozenAlloc _ hs0.1 hs0.2⟩, hB0⟩
    (fun x => { tmps := #[.int .i64 s, undef, .int .i64 0, .pointer (some ⟨w.heap.size, 0, none⟩), .int .i64 s, .bool true, .bool false, .int .i64 s, .func (.func 90) #[] #[.pointer (some ⟨w.heap.size + 1, 0, none⟩)], .int .i64 (x.val : Int), undef, undef, undef], defers := [] }) ?assign ?body ?done ?stop
  case assign =>
    intro l x W K hK
    simp only [encs]
    gi_wp2
    first | (simp; exact hK) | (go_simp; exact hK) | exact (by rfl : _ = _) ▸ hK
  case body =>
    rintro l pre x W ⟨⟨hc, hf⟩, hB⟩ hlt
    have l0 : (0 : Int) ≤ (pre.length : Int) := by omega
    have l9 : (pre.length : Int) ≤ 9 := by omega
    clear hlt
    gi_wp2
    exact ⟨KeepsOthers.setCell _ _ _, Below.heap_setCell W ⟨w.heap.size, 0, none⟩ _ (w.heap.size + 1) (by simp), ⟨by rw [List.length_append]; exact World.cell?_setCell_same' _ _ _ (by rw [hc]; rfl), by rw [World.frozen?_setCell]; exact hf⟩, hB.setCell (p := ⟨w.heap.size, 0, none⟩) (Nat.le_refl _) _⟩
  case done =>
    rintro D ys W hD rfl ⟨⟨hc, _⟩, hB⟩ hK
    gi_wp2
    refine ⟨by simp, .inl ⟨_, _, rfl, run_takeDeferred hK, ?_⟩⟩
    exact ⟨_, results_tmp rfl _ _ _, rfl, hB.trans (belowK_b (w := w) (Nat.le_refl _) W D _ _ (by simp at hD; omega) hK rfl rfl)⟩
  case stop =>
    rintro D c pre W _ _ h _
    exact h.elim

theorem cs14yes (s : Int) (w : World) (hs : isSet s = true) :
    Calls Tryz.prog 23 #[.int .i64 s] w fun e W' => e = .returned (.int .i64 ((upTo s 9).length : Int)) ∧ Below w.heap.size w W' :=
  callsIn_wide.1 (cs14_in 3 (Nat.le_refl _) s w hs)
end Go.Proofs.YtngcdgnijfiocaaGreatDoor
