/- Chapter 8, the program: from where a set can be reached, or is the only one; from where a program fails. -/
import Derived.Test.YtpepaobgngighaaGreatDoorBR
namespace Go.Proofs.YtpepaobgngighaaGreatDoor
open Go.ChangeShapes Go.WideShapes Go.ChangeAt Go.RowKit Go.Shelf
attribute [local go_sem] Oper.semAt_some
set_option maxRecDepth 100000

set_option maxHeartbeats 2000000 in
theorem pcan_err (t : ByteArray) (s x : Int) (w : World) {N : Nat} (hL : Laid3 N w) (hE : NoExit N w) (h : inB x 0 1 = false ∨ readP t.toList = none) :
    Calls Tryz.prog 6 #[.string t, .int .i64 x, .int .i64 s] w fun e w' => e = .returned (.tuple #[.int .i64 0, .bool false]) ∧ Below w.heap.size w w' := by
  have hr : Calls Tryz.prog 25 #[.string t, .int .i64 x] w fun e w' => (∃ T v, e = .returned (.tuple #[.agg (revA fun _ => 0), .iface T v])) ∧ Below w.heap.size w w' := by
    cases hx : inB x 0 1 with
    | false => exact prev_exit t x w hL hE hx
    | true =>
      have hx2 : x = 0 ∨ x = 1 := by have := of_decide_eq_true hx; omega
      exact prev_none t x w hL hx2 (h.resolve_left (by rw [hx]; simp))
  generalize (fun _ => 0 : Nat → Nat) = F at hr
  unfold revA at hr
  go_enter Tryz.func6, Tryz.ntmps6
  go_wp2_with (go_at_call 25; refine hr.mono ?_; rintro e W1 ⟨⟨T, v, rfl⟩, hb⟩)
  go_ret2
  exact ⟨rfl, hb.alloc hb.size _⟩
set_option maxHeartbeats 2000000 in
theorem pcan_set (t : ByteArray) (s x : Int) (w : World) {N : Nat} (hL : Laid3 N w) (hx : x = 0 ∨ x = 1) {nd : Node} (hP : readP t.toList = some nd) (hs : isSet s = false) :
    Calls Tryz.prog 6 #[.string t, .int .i64 x, .int .i64 s] w fun e w' => e = .returned (.tuple #[.int .i64 0, .bool false]) ∧ Below w.heap.size w w' := by
  have hr := prev_some t x hx w hL hP
  have HS := Lib.hid hs
  clear hs
  generalize (fun s => revN (fun k => exitN x (runR nd (2 ^ k))) s 9) = F at hr
  unfold revA at hr
  go_enter Tryz.func6, Tryz.ntmps6
  go_wp2_with (first
    | (go_at_call 25; refine hr.mono ?_; rintro e W1 ⟨rfl, hb⟩)
    | (go_at_call 26; refine (sv24 _ _).mono ?_; rintro e w' ⟨rfl, rfl⟩; rw [HS.out]))
  go_ret2
  exact ⟨rfl, hb.alloc hb.size _⟩
set_option maxHeartbeats 2000000 in
theorem pcan_ok (t : ByteArray) (m : Nat) (hm : m < 512) (x : Int) (w : World) {N : Nat} (hL : Laid3 N w) (hx : x = 0 ∨ x = 1) {nd : Node} (hP : readP t.toList = some nd) :
    Calls Tryz.prog 6 #[.string t, .int .i64 x, .int .i64 (m : Int)] w fun e w' => e = .returned (.tuple #[.int .i64 ((canN nd x m : Nat) : Int), .bool true]) ∧ Below w.heap.size w w' := by
  have hr := prev_some t x hx w hL hP
  have hs : isSet (m : Int) = true := decide_eq_true (by omega)
  have HS := Lib.hid hs
  clear hs
  have hinto := fun X => pinto (fun s => revN (fun k => exitN x (runR nd (2 ^ k))) s 9) (fun s _ => revN_lt _ s 9 (Nat.le_refl _)) m hm X
  rw [into_back _ hm] at hinto
  change ∀ X, Calls _ _ _ X fun e w' => e = .returned (.int .i64 ((canN nd x m : Nat) : Int)) ∧ Below X.heap.size X w' at hinto
  generalize canN nd x m = c at hinto ⊢
  generalize (fun s => revN (fun k => exitN x (runR nd (2 ^ k))) s 9) = F at hr hinto
  unfold revA at hr hinto
  go_enter Tryz.func6, Tryz.ntmps6
  go_wp2_with (first
    | (go_at_call 25; refine hr.mono ?_; rintro e W1 ⟨rfl, hb⟩)
    | (go_at_call 26; refine (sv24 _ _).mono ?_; rintro e w' ⟨rfl, rfl⟩; rw [HS.out])
    | (go_at_call 27; refine (hinto _).mono ?_; rintro e W2 ⟨rfl, hb2⟩))
  go_ret2
  exact ⟨rfl, (hb.alloc hb.size _).trans (hb2.mono (hb.alloc hb.size _).size)⟩
/-- **THE PROGRAM's CanReach.** -/
theorem pcan (t : ByteArray) (s x : Int) (w : World) {N : Nat} (hL : Laid3 N w) (hE : NoExit N w) :
    Calls Tryz.prog 6 #[.string t, .int .i64 x, .int .i64 s] w fun e w' => e = .returned (.tuple #[.int .i64 (canZ t s x), .bool (reachB t s x)]) ∧ Below w.heap.size w w' := by
  cases hP : readP t.toList with
  | none =>
    have hb := (reach_none hP s x).2
    rw [canZ_no hb, hb]
    exact pcan_err t s x w hL hE (.inr hP)
  | some nd =>
    cases hx : inB x 0 1 with
    | false =>
      have hb := (reach_bad (t := t) (s := s) (x := x) (by rw [hx, Bool.and_false])).2
      rw [canZ_no hb, hb]
      exact pcan_err t s x w hL hE (.inl hx)
    | true =>
      have hx2 : x = 0 ∨ x = 1 := by have := of_decide_eq_true hx; omega
      cases hs : isSet s with
      | false =>
        have hb := reachB_bad (t := t) hs x
        rw [canZ_no hb, hb]
        exact pcan_set t s x w hL hx2 hP hs
      | true =>
        obtain ⟨m, hm, rfl⟩ := set_nat hs
        rw [canZ_ok hP hm hx2, (reach_ok hP hm hx2).2]
        exact pcan_ok t m hm x w hL hx2 hP

set_option maxHeartbeats 2000000 in
theorem ponly_err (t : ByteArray) (s x : Int) (w : World) {N : Nat} (hL : Laid3 N w) (hE : NoExit N w) (h : inB x 0 1 = false ∨ readP t.toList = none) :
    Calls Tryz.prog 7 #[.string t, .int .i64 x, .int .i64 s] w fun e w' => e = .returned (.tuple #[.int .i64 0, .bool false]) ∧ Below w.heap.size w w' := by
  have hr : Calls Tryz.prog 25 #[.string t, .int .i64 x] w fun e w' => (∃ T v, e = .returned (.tuple #[.agg (revA fun _ => 0), .iface T v])) ∧ Below w.heap.size w w' := by
    cases hx : inB x 0 1 with
    | false => exact prev_exit t x w hL hE hx
    | true =>
      have hx2 : x = 0 ∨ x = 1 := by have := of_decide_eq_true hx; omega
      exact prev_none t x w hL hx2 (h.resolve_left (by rw [hx]; simp))
  generalize (fun _ => 0 : Nat → Nat) = F at hr
  unfold revA at hr
  go_enter Tryz.func7, Tryz.ntmps7
  go_wp2_with (go_at_call 25; refine hr.mono ?_; rintro e W1 ⟨⟨T, v, rfl⟩, hb⟩)
  go_ret2
  exact ⟨rfl, hb.alloc hb.size _⟩
set_option maxHeartbeats 2000000 in
theorem ponly_set (t : ByteArray) (s x : Int) (w : World) {N : Nat} (hL : Laid3 N w) (hx : x = 0 ∨ x = 1) {nd : Node} (hP : readP t.toList = some nd) (hs : isSet s = false) :
    Calls Tryz.prog 7 #[.string t, .int .i64 x, .int .i64 s] w fun e w' => e = .returned (.tuple #[.int .i64 0, .bool false]) ∧ Below w.heap.size w w' := by
  have hr := prev_some t x hx w hL hP
  have HS := Lib.hid hs
  clear hs
  generalize (fun s => revN (fun k => exitN x (runR nd (2 ^ k))) s 9) = F at hr
  unfold revA at hr
  go_enter Tryz.func7, Tryz.ntmps7
  go_wp2_with (first
    | (go_at_call 25; refine hr.mono ?_; rintro e W1 ⟨rfl, hb⟩)
    | (go_at_call 26; refine (sv24 _ _).mono ?_; rintro e w' ⟨rfl, rfl⟩; rw [HS.out]))
  go_ret2
  exact ⟨rfl, hb.alloc hb.size _⟩
set_option maxHeartbeats 2000000 in
theorem ponly_ok (t : ByteArray) (m : Nat) (hm : m < 512) (x : Int) (w : World) {N : Nat} (hL : Laid3 N w) (hx : x = 0 ∨ x = 1) {nd : Node} (hP : readP t.toList = some nd) :
    Calls Tryz.prog 7 #[.string t, .int .i64 x, .int .i64 (m : Int)] w fun e w' => e = .returned (.tuple #[.int .i64 ((511 - canN nd x (511 - m) : Nat) : Int), .bool true]) ∧ Below w.heap.size w w' := by
  have hr := prev_some t x hx w hL hP
  have hs : isSet (m : Int) = true := decide_eq_true (by omega)
  have HS := Lib.hid hs
  clear hs
  have hinto := fun X => pinto (fun s => revN (fun k => exitN x (runR nd (2 ^ k))) s 9) (fun s _ => revN_lt _ s 9 (Nat.le_refl _)) (511 - m) (by omega) X
  rw [into_back _ (show 511 - m < 512 by omega)] at hinto
  change ∀ X, Calls _ _ _ X fun e w' => e = .returned (.int .i64 ((canN nd x (511 - m) : Nat) : Int)) ∧ Below X.heap.size X w' at hinto
  have ho1 := fun X => pothers hm X
  have ho2 := fun X => pothers (canN_lt nd x (511 - m)) X
  generalize canN nd x (511 - m) = c at hinto ho2 ⊢
  generalize 511 - c = d at ho2 ⊢
  generalize 511 - m = q at hinto ho1
  generalize (fun s => revN (fun k => exitN x (runR nd (2 ^ k))) s 9) = F at hr hinto
  unfold revA at hr hinto
  go_enter Tryz.func7, Tryz.ntmps7
  go_wp2_with (first
    | (go_at_call 25; refine hr.mono ?_; rintro e W1 ⟨rfl, hb⟩)
    | (go_at_call 26; refine (sv24 _ _).mono ?_; rintro e w' ⟨rfl, rfl⟩; rw [HS.out])
    | (fail))
  have hB0 := hb.alloc hb.size (.cells (revA F) 40)
  have hR := Lies.new W1 (revA F) 40
  unfold revA at hB0
  change Lies (W1.alloc (.cells #[.int .i64 (F 0 : Int), .int .i64 (F 1 : Int), .int .i64 (F 2 : Int), .int .i64 (F 3 : Int), .int .i64 (F 4 : Int), .int .i64 (F 5 : Int), .int .i64 (F 6 : Int), .int .i64 (F 7 : Int), .int .i64 (F 8 : Int)] 40)) _ _ _ at hR
  generalize W1.alloc (.cells #[.int .i64 (F 0 : Int), .int .i64 (F 1 : Int), .int .i64 (F 2 : Int), .int .i64 (F 3 : Int), .int .i64 (F 4 : Int), .int .i64 (F 5 : Int), .int .i64 (F 6 : Int), .int .i64 (F 7 : Int), .int .i64 (F 8 : Int)] 40) = V at hB0 hR ⊢
  generalize W1.heap.size = g at hR ⊢
  obtain ⟨c0, _⟩ := rev_cell hR (s := 0) (by omega)
  obtain ⟨c1, _⟩ := rev_cell hR (s := 1) (by omega)
  obtain ⟨c2, _⟩ := rev_cell hR (s := 2) (by omega)
  obtain ⟨c3, _⟩ := rev_cell hR (s := 3) (by omega)
  obtain ⟨c4, _⟩ := rev_cell hR (s := 4) (by omega)
  obtain ⟨c5, _⟩ := rev_cell hR (s := 5) (by omega)
  obtain ⟨c6, _⟩ := rev_cell hR (s := 6) (by omega)
  obtain ⟨c7, _⟩ := rev_cell hR (s := 7) (by omega)
  obtain ⟨c8, _⟩ := rev_cell hR (s := 8) (by omega)
  have HB := Lib.hid hB0
  clear hR hB0 hb
  refine wp_region_any (by kernel_rfl) ?_
  change wpAny _ _ _ _ _ _ _ (World.drew _)
  refine wpAny_take (i := 1) (v := .int .i64 (m : Int)) rfl (by kernel_rfl) (by kernel_rfl) (by kernel_rfl) (fun _ _ _ h => h) (Or.inl ⟨by rfl, fun w => by first | rfl | go_simp⟩) ?_
  refine wpAny_ready (rs := [0, 2]) (by kernel_rfl) (by simp) ?_
  refine AllReady.cons rfl (fun K hK => ?_) (AllReady.cons rfl (fun K hK => ?_) AllReady.nil)
  · go_simp
    refine hK _ _ ?_
    clear hK K
    refine wpAny_ready (rs := [2]) (by kernel_rfl) (by simp) ?_
    refine AllReady.cons rfl (fun K hK => ?_) AllReady.nil
    go_simp
    go_wp2_with (go_at_call 28; refine (ho1 _).mono ?_; rintro e w' ⟨rfl, rfl⟩)
    refine wpAny_ready (rs := [3]) (by kernel_rfl) (by simp) ?_
    refine AllReady.cons rfl (fun K hK => ?_) AllReady.nil
    go_simp
    go_wp2_with (go_at_call 27; refine (hinto _).mono ?_; rintro e W2 ⟨rfl, hb2⟩)
    refine wpAny_ready (rs := [4]) (by kernel_rfl) (by simp) ?_
    refine AllReady.cons rfl (fun K hK => ?_) AllReady.nil
    go_simp
    go_wp2_with (go_at_call 28; refine (ho2 _).mono ?_; rintro e w' ⟨rfl, rfl⟩)
    refine wpAny_take (i := 5) (v := .int .i64 (d : Int)) rfl (by kernel_rfl) (by kernel_rfl) (by kernel_rfl) (fun _ _ _ h => h) (Or.inl ⟨by rfl, fun w => by first | rfl | go_simp⟩) ?_
    refine wpAny_take (i := 6) (v := .bool true) rfl (by kernel_rfl) (by kernel_rfl) (by kernel_rfl) (fun _ _ _ h => h) (Or.inl ⟨by rfl, fun w => by first | rfl | go_simp⟩) ?_
    refine wpAny_done (by kernel_rfl) ?_ _
    go_wp2_with fail
    go_ret2
    exact ⟨rfl, HB.out.drew.trans (hb2.mono HB.out.size)⟩
  · go_simp
    go_wp2_with (go_at_call 28; refine (ho1 _).mono ?_; rintro e w' ⟨rfl, rfl⟩)
    refine wpAny_ready (rs := [0]) (by kernel_rfl) (by simp) ?_
    refine AllReady.cons rfl (fun K hK => ?_) AllReady.nil
    go_simp
    refine hK _ _ ?_
    clear hK K
    refine wpAny_ready (rs := [3]) (by kernel_rfl) (by simp) ?_
    refine AllReady.cons rfl (fun K hK => ?_) AllReady.nil
    go_simp
    go_wp2_with (go_at_call 27; refine (hinto _).mono ?_; rintro e W2 ⟨rfl, hb2⟩)
    refine wpAny_ready (rs := [4]) (by kernel_rfl) (by simp) ?_
    refine AllReady.cons rfl (fun K hK => ?_) AllReady.nil
    go_simp
    go_wp2_with (go_at_call 28; refine (ho2 _).mono ?_; rintro e w' ⟨rfl, rfl⟩)
    refine wpAny_take (i := 5) (v := .int .i64 (d : Int)) rfl (by kernel_rfl) (by kernel_rfl) (by kernel_rfl) (fun _ _ _ h => h) (Or.inl ⟨by rfl, fun w => by first | rfl | go_simp⟩) ?_
    refine wpAny_take (i := 6) (v := .bool true) rfl (by kernel_rfl) (by kernel_rfl) (by kernel_rfl) (fun _ _ _ h => h) (Or.inl ⟨by rfl, fun w => by first | rfl | go_simp⟩) ?_
    refine wpAny_done (by kernel_rfl) ?_ _
    go_wp2_with fail
    go_ret2
    exact ⟨rfl, HB.out.drew.trans (hb2.mono HB.out.size)⟩
/-- **THE PROGRAM's OnlyReach.** -/
theorem ponly (t : ByteArray) (s x : Int) (w : World) {N : Nat} (hL : Laid3 N w) (hE : NoExit N w) :
    Calls Tryz.prog 7 #[.string t, .int .i64 x, .int .i64 s] w fun e w' => e = .returned (.tuple #[.int .i64 (onlyZ t s x), .bool (reachB t s x)]) ∧ Below w.heap.size w w' := by
  cases hP : readP t.toList with
  | none =>
    have hb := (reach_none hP s x).2
    rw [onlyZ_no hb, hb]
    exact ponly_err t s x w hL hE (.inr hP)
  | some nd =>
    cases hx : inB x 0 1 with
    | false =>
      have hb := (reach_bad (t := t) (s := s) (x := x) (by rw [hx, Bool.and_false])).2
      rw [onlyZ_no hb, hb]
      exact ponly_err t s x w hL hE (.inl hx)
    | true =>
      have hx2 : x = 0 ∨ x = 1 := by have := of_decide_eq_true hx; omega
      cases hs : isSet s with
      | false =>
        have hb := reachB_bad (t := t) hs x
        rw [onlyZ_no hb, hb]
        exact ponly_set t s x w hL hx2 hP hs
      | true =>
        obtain ⟨m, hm, rfl⟩ := set_nat hs
        rw [onlyZ_ok hP hm hx2, (reach_ok hP hm hx2).2]
        exact ponly_ok t m hm x w hL hx2 hP
theorem pfails (t : ByteArray) (w : World) {N : Nat} (hL : Laid3 N w) (hE : NoExit N w) :
    Calls Tryz.prog 13 #[.string t] w fun e w' => e = .returned (.tuple #[.int .i64 (canZ t 511 1), .bool (reachB t 511 1)]) ∧ Below w.heap.size w w' := by
  have H := pcan t 511 1 w hL hE
  generalize canZ t 511 1 = z at H ⊢
  generalize reachB t 511 1 = b at H ⊢
  go_enter Tryz.func13, Tryz.ntmps13
  go_wp2_with (go_at_call 6; refine H.mono ?_; rintro e w' ⟨rfl, hb1⟩)
  go_ret2
  exact ⟨rfl, hb1⟩
theorem psafe (t : ByteArray) (w : World) {N : Nat} (hL : Laid3 N w) (hE : NoExit N w) :
    Calls Tryz.prog 14 #[.string t] w fun e w' => e = .returned (.tuple #[.int .i64 (onlyZ t 0 1), .bool (reachB t 0 1)]) ∧ Below w.heap.size w w' := by
  have H := ponly t 0 1 w hL hE
  generalize onlyZ t 0 1 = z at H ⊢
  generalize reachB t 0 1 = b at H ⊢
  go_enter Tryz.func14, Tryz.ntmps14
  go_wp2_with (go_at_call 7; refine H.mono ?_; rintro e w' ⟨rfl, hb1⟩)
  go_ret2
  exact ⟨rfl, hb1⟩
theorem pmani (t : ByteArray) (w : World) {N : Nat} (hL : Laid3 N w) (hE : NoExit N w) :
    Calls Tryz.prog 17 #[.string t] w fun e w' => e = .returned (.bool (canZ t 511 1 == 511)) ∧ Below w.heap.size w w' := by
  have H := pfails t w hL hE
  generalize canZ t 511 1 = z at H ⊢
  generalize reachB t 511 1 = b at H
  go_enter Tryz.func17, Tryz.ntmps17
  go_wp2_with (go_at_call 13; refine H.mono ?_; rintro e w' ⟨rfl, hb1⟩)
  go_ret
  exact ⟨rfl, hb1⟩
end Go.Proofs.YtpepaobgngighaaGreatDoor

