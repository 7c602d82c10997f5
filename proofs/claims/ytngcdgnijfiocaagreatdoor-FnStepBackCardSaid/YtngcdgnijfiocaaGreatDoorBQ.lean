/- Chapter 8, the program: from where a set can be reached, or is the only one; from where a program fails. -/
import Derived.Test.YtngcdgnijfiocaaGreatDoorBR
namespace Go.Proofs.YtngcdgnijfiocaaGreatDoor
open Go.ChangeShapes Go.WideShapes Go.ChangeAt Go.RowKit Go.Shelf
attribute [local go_sem] Oper.semAt_some
set_option maxRecDepth 100000

set_option maxHeartbeats 2000000 in
theorem pcan_err (t : ByteArray) (s x : Int) (w : World) {N : Nat} (hL : Laid3 N w) (hE : NoExit N w) (h : inB x 0 1 = false ∨ readP t.toList = none) :
    Calls Tryz.prog 29 #[.string t, .int .i64 x, .int .i64 s] w fun e w' => e = .returned (.tuple #[.int .i64 0, .bool false]) ∧ Below w.heap.size w w' := by
  have hr : Calls Tryz.prog 64 #[.string t, .int .i64 x] w fun e w' => (∃ T v, e = .returned (.tuple #[.agg (revA fun _ => 0), .iface T v])) ∧ Below w.heap.size w w' := by
    cases hx : inB x 0 1 with
    | false => exact prev_exit t x w hL hE hx
    | true =>
      have hx2 : x = 0 ∨ x = 1 := by have := of_decide_eq_true hx; omega
      exact prev_none t x w hL hx2 (h.resolve_left (by rw [hx]; simp))
  generalize (fun _ => 0 : Nat → Nat) = F at hr
  unfold revA at hr
  go_enter Tryz.func29, Tryz.ntmps29
  go_wp2_with (go_at_call 64; refine hr.mono ?_; rintro e W1 ⟨⟨T, v, rfl⟩, hb⟩)
  go_ret2
  exact ⟨rfl, hb.alloc hb.size _⟩
set_option maxHeartbeats 2000000 in
theorem pcan_set (t : ByteArray) (s x : Int) (w : World) {N : Nat} (hL : Laid3 N w) (hx : x = 0 ∨ x = 1) {nd : Node} (hP : readP t.toList = some nd) (hs : isSet s = false) :
    Calls Tryz.prog 29 #[.string t, .int .i64 x, .int .i64 s] w fun e w' => e = .returned (.tuple #[.int .i64 0, .bool false]) ∧ Below w.heap.size w w' := by
  have hr := prev_some t x hx w hL hP
  have HS := Lib.hid hs
  clear hs
  generalize (fun s => revN (fun k => exitN x (runR nd (2 ^ k))) s 9) = F at hr
  unfold revA at hr
  go_enter Tryz.func29, Tryz.ntmps29
  go_wp2_with (first
    | (go_at_call 64; refine hr.mono ?_; rintro e W1 ⟨rfl, hb⟩)
    | (go_at_call 38; refine (sv24 _ _).mono ?_; rintro e w' ⟨rfl, rfl⟩; rw [HS.out]))
  go_ret2
  exact ⟨rfl, hb.alloc hb.size _⟩
set_option maxHeartbeats 2000000 in
theorem pcan_ok (t : ByteArray) (m : Nat) (hm : m < 512) (x : Int) (w : World) {N : Nat} (hL : Laid3 N w) (hx : x = 0 ∨ x = 1) {nd : Node} (hP : readP t.toList = some nd) :
    Calls Tryz.prog 29 #[.string t, .int .i64 x, .int .i64 (m : Int)] w fun e w' => e = .returned (.tuple #[.int .i64 ((canN nd x m : Nat) : Int), .bool true]) ∧ Below w.heap.size w w' := by
  have hr := prev_some t x hx w hL hP
  have hs : isSet (m : Int) = true := decide_eq_true (by omega)
  have HS := Lib.hid hs
  clear hs
  have hinto := fun X => pinto (fun s => revN (fun k => exitN x (runR nd (2 ^ k))) s 9) (fun s _ => revN_lt _ s 9 (Nat.le_refl _)) m hm X
  rw [into_back _ hm] at hinto
  change ∀ X, Calls _ _ _ X fun e w' => e = .returned (.int .i64 ((canN nd x m : Nat) : Int)) ∧ Below X.heap.size X w' at hinto
  generalize canN nd x m = c at hinto ⊢
  generalize (fun s => revN (fun k => exitN x (runR nd (2 ^ k))) s 9) = F at hr hinto
  unfold revA at hr hinto
  go_enter Tryz.func29, Tryz.ntmps29
  go_wp2_with (first
    | (go_at_call 64; refine hr.mono ?_; rintro e W1 ⟨rfl, hb⟩)
    | (go_at_call 38; refine (sv24 _ _).mono ?_; rintro e w' ⟨rfl, rfl⟩; rw [HS.out])
    | (go_at_call 65; refine (hinto _).mono ?_; rintro e W2 ⟨rfl, hb2⟩))
  go_ret2
  exact ⟨rfl, (hb.alloc hb.size _).trans (hb2.mono (hb.alloc hb.size _).size)⟩
/-- **THE PROGRAM's CanReach.** -/
theorem pcan (t : ByteArray) (s x : Int) (w : World) {N : Nat} (hL : Laid3 N w) (hE : NoExit N w) :
    Calls Tryz.prog 29 #[.string t, .int .i64 x, .int .i64 s] w fun e w' => e = .returned (.tuple #[.int .i64 (canZ t s x), .bool (reachB t s x)]) ∧ Below w.heap.size w w' := by
  cases hP : readP t.toList with
  | none =>
    have hb := (reach_none hP s x).2
    rw [canZ_no hb, hb]
    exact pcan_err t s x w hL hE (.inr hP)
  | some nd =>
    cases hx : inB x 0 1 with
    | false =>
      have hb := (reach_bad (t := t) (s := s) (x := x) (by rw [hx, Bool.and_false])).2
      rw [canZ_no hb, hb]
      exact pcan_err t s x w hL hE (.inl hx)
    | true =>
      have hx2 : x = 0 ∨ x = 1 := by have := of_decide_eq_true hx; omega
      cases hs : isSet s with
      | false =>
        have hb := reachB_bad (t := t) hs x
        rw [canZ_no hb, hb]
        exact pcan_set t s x w hL hx2 hP hs
      | true =>
        obtain ⟨m, hm, rfl⟩ := set_nat hs
        rw [canZ_ok hP hm hx2, (reach_ok hP hm hx2).2]
        exact pcan_ok t m hm x w hL hx2 hP

theorem pfails (t : ByteArray) (w : World) {N : Nat} (hL : Laid3 N w) (hE : NoExit N w) :
    Calls Tryz.prog 28 #[.string t] w fun e w' => e = .returned (.tuple #[.int .i64 (canZ t 511 1), .bool (reachB t 511 1)]) ∧ Below w.heap.size w w' := by
  have H := pcan t 511 1 w hL hE
  generalize canZ t 511 1 = z at H ⊢
  generalize reachB t 511 1 = b at H ⊢
  go_enter Tryz.func28, Tryz.ntmps28
  go_wp2_with (go_at_call 29; refine H.mono ?_; rintro e w' ⟨rfl, hb1⟩)
  go_ret2
  exact ⟨rfl, hb1⟩
end Go.Proofs.YtngcdgnijfiocaaGreatDoor

