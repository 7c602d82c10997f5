/- The program: runs with loops that are gone through at most so many times, what they reach. -/
import Derived.Test.YtnejphdbnfdbhaaGreatDoorUD4
import Derived.Test.YtnejphdbnfdbhaaGreatDoorR5
namespace Go.Proofs.YtnejphdbnfdbhaaGreatDoor
open Go.ChangeShapes Go.WideShapes Go.ChangeAt Go.RowKit Go.Shelf
attribute [local go_sem] Oper.semAt_some
set_option maxRecDepth 100000

theorem ptimes (n : Int) (w : World) :
    Calls Tryz.prog 40 #[.int .i64 n] w fun e w' => e = .returned (.bool (isK n)) ∧ w = w' := by
  by_cases h1 : 0 ≤ n
  · by_cases h2 : n ≤ 12
    · have h : isK n = true := inB_yes ⟨h1, by omega⟩
      rw [h]
      clear h
      go_enter Tryz.func40, Tryz.ntmps40
      go_wp2
      go_ret
      exact ⟨rfl, rfl⟩
    · have h : isK n = false := inB_no (fun h => h2 (by omega))
      rw [h]
      clear h
      go_enter Tryz.func40, Tryz.ntmps40
      go_wp2
      go_ret
      exact ⟨rfl, rfl⟩
  · have h : isK n = false := inB_no (fun h => h1 h.1)
    rw [h]
    clear h
    go_enter Tryz.func40, Tryz.ntmps40
    go_wp2
    go_ret
    exact ⟨rfl, rfl⟩
theorem box_new (w : World) (T m : Nat) : Box (w.alloc (.cells #[.int .i64 (T : Int), .int .i64 (m : Int), .int .i64 0] 116)) w.heap.size T (m, 0) := by
  have h := heap_alloc_new w (.cells #[.int .i64 (T : Int), .int .i64 (m : Int), .int .i64 0] 116)
  unfold Box
  rw [h]
  simp
set_option maxHeartbeats 1000000 in
/-- **A RUN WITH LOOPS THAT ARE GONE THROUGH AT MOST SO MANY TIMES.** -/
theorem prunin (nd : Node) (hok : nd.ok) (m : Nat) (hm : m < 512) (T : Nat) (hT : T ≤ 12) (w : World) :
    Calls Tryz.prog 41 #[nodeV nd, .int .i64 (m : Int), .int .i64 (T : Int)] w (RunsTo w (runT T nd m)) := by
  have hv := bvisit T hT nd hok _ (m, 0) _ ⟨hm, show (0 : Nat) < 512 by decide⟩ (box_new (w.alloc (.cells #[.int .i64 0, .int .i64 0] 64)) T m)
  rw [World.size_alloc] at hv
  have e1 : aft T nd (m, 0) = runT T nd m := by unfold aft; simp
  rw [e1] at hv
  generalize runT T nd m = x at hv ⊢
  rw [nodeV_eq nd hok] at hv ⊢
  go_enter Tryz.func41, Tryz.ntmps41
  go_wp2_with fail
  refine hv.mono ?_
  rintro e W1 ⟨rfl, hB, hG⟩
  obtain ⟨c0, c1, c2, f1, f2⟩ := hB.cells
  have hb : Below w.heap.size w W1 := (((Below.refl _ w).alloc (Nat.le_refl _) _).alloc (by simp) _).grown hG (by simp; omega) (fun i e => by cases e; omega)
  have L := ((Lies.new w #[.int .i64 0, .int .i64 0] 64).alloc (.cells #[.int .i64 (T : Int), .int .i64 (m : Int), .int .i64 0] 116)).kept hG (by simp)
  obtain ⟨q0, q1, q2, q3⟩ := L.cells
  go_wp2_with fail
  have RS := (L.set0 (.int .i64 (x.1 : Int))).set1 (.int .i64 (x.2 : Int))
  obtain ⟨s0, s1, _, _⟩ := RS.cells
  have RB := (hb.setCell (p := ⟨w.heap.size, 0, none⟩) (by simp) (.int .i64 (x.1 : Int))).setCell (p := ⟨w.heap.size, 1, none⟩) (by simp) (.int .i64 (x.2 : Int))
  clear q0 q1 q2 q3 L
  exact bodyPost_ret (v := .agg #[.int .i64 (x.1 : Int), .int .i64 (x.2 : Int)]) (by simp [results, Tryz.results41, go_sem, s0, s1]) rfl ⟨rfl, RB⟩

set_option maxHeartbeats 2000000 in
theorem pin_none (t : ByteArray) (s x k : Int) (w : World) {N : Nat} (hE : Laid3 N w) (hP : readP t.toList = none) :
    Calls Tryz.prog 8 #[.string t, .int .i64 s, .int .i64 x, .int .i64 k] w fun e w' => e = .returned (.tuple #[.int .i64 0, .bool false]) ∧ Below w.heap.size w w' := by
  have hr := pread40 t.toList w hE
  rw [bytes_eta] at hr
  have HP := Lib.hid hP
  clear hP
  go_enter Tryz.func8, Tryz.ntmps8
  go_wp2_with (go_at_call 37; refine hr.mono ?_; rintro e W1 ⟨hb, hm⟩; rw [HP.out] at hm; obtain ⟨T, v, rfl⟩ := hm)
  go_ret2
  exact ⟨rfl, hb⟩

set_option maxHeartbeats 2000000 in
theorem pin_set (t : ByteArray) (s x k : Int) (w : World) {N : Nat} (hE : Laid3 N w) {nd : Node} (hP : readP t.toList = some nd) (hs : isSet s = false) :
    Calls Tryz.prog 8 #[.string t, .int .i64 s, .int .i64 x, .int .i64 k] w fun e w' => e = .returned (.tuple #[.int .i64 0, .bool false]) ∧ Below w.heap.size w w' := by
  have hr := pread40 t.toList w hE
  rw [bytes_eta] at hr
  have HP := Lib.hid hP
  have HS := Lib.hid hs
  clear hP hs
  go_enter Tryz.func8, Tryz.ntmps8
  go_wp2_with (first
    | (go_at_call 37; refine hr.mono ?_; rintro e W1 ⟨hb, hm⟩; rw [HP.out] at hm; obtain rfl := hm)
    | (go_at_call 38; refine (sv24 _ _).mono ?_; rintro e w' ⟨rfl, rfl⟩; rw [HS.out]))
  go_ret2
  exact ⟨rfl, hb⟩

set_option maxHeartbeats 2000000 in
theorem pin_exit (t : ByteArray) (s x k : Int) (w : World) {N : Nat} (hE : Laid3 N w) {nd : Node} (hP : readP t.toList = some nd) (hs : isSet s = true) (hx : inB x 0 1 = false) :
    Calls Tryz.prog 8 #[.string t, .int .i64 s, .int .i64 x, .int .i64 k] w fun e w' => e = .returned (.tuple #[.int .i64 0, .bool false]) ∧ Below w.heap.size w w' := by
  have hr := pread40 t.toList w hE
  rw [bytes_eta] at hr
  have hn : nameX x = ⟨#[]⟩ := by
    have := of_decide_eq_false hx
    unfold nameX
    rw [if_neg (by omega), if_neg (by omega)]
  have HN := Lib.hid hn
  have HP := Lib.hid hP
  have HS := Lib.hid hs
  clear hP hs hx hn
  go_enter Tryz.func8, Tryz.ntmps8
  go_wp2_with (first
    | (go_at_call 37; refine hr.mono ?_; rintro e W1 ⟨hb, hm⟩; rw [HP.out] at hm; obtain rfl := hm)
    | (go_at_call 38; refine (sv24 _ _).mono ?_; rintro e w' ⟨rfl, rfl⟩; rw [HS.out])
    | (go_at_call 39; refine (pname26 _ _).mono ?_; rintro e w' ⟨rfl, rfl⟩; rw [HN.out]))
  go_ret2
  exact ⟨rfl, hb⟩

set_option maxHeartbeats 2000000 in
theorem pin_times (t : ByteArray) (m : Nat) (hm : m < 512) (k : Int) (hK : isK k = false) (x : Int) (hx : x = 0 ∨ x = 1) (w : World) {N : Nat} (hE : Laid3 N w) {nd : Node} (hP : readP t.toList = some nd) :
    Calls Tryz.prog 8 #[.string t, .int .i64 (m : Int), .int .i64 x, .int .i64 k] w fun e w' => e = .returned (.tuple #[.int .i64 0, .bool false]) ∧ Below w.heap.size w w' := by
  have hr := pread40 t.toList w hE
  rw [bytes_eta] at hr
  have hs : isSet (m : Int) = true := decide_eq_true (by omega)
  have hn : (nameX x).toList.isEmpty = false := by rcases hx with rfl | rfl <;> (rw [Lib.toList_data]; rfl)
  have HK := Lib.hid hK
  clear hK
  have HN := Lib.hid hn
  have HP := Lib.hid hP
  have HS := Lib.hid hs
  clear hP hs hn
  go_enter Tryz.func8, Tryz.ntmps8
  go_wp2_with (first
    | (go_at_call 37; refine hr.mono ?_; rintro e W1 ⟨hb, hm⟩; rw [HP.out] at hm; obtain rfl := hm)
    | (go_at_call 38; refine (sv24 _ _).mono ?_; rintro e w' ⟨rfl, rfl⟩; rw [HS.out])
    | (go_at_call 39; refine (pname26 _ _).mono ?_; rintro e w' ⟨rfl, rfl⟩; have hN := HN.out)
    | (go_at_call 40; refine (ptimes _ _).mono ?_; rintro e w' ⟨rfl, rfl⟩; rw [HK.out]))
  go_ret2
  exact ⟨rfl, hb⟩

set_option maxHeartbeats 2000000 in
theorem pin_ok (t : ByteArray) (m : Nat) (hm : m < 512) (T : Nat) (hT : T ≤ 12) (x : Int) (hx : x = 0 ∨ x = 1) (w : World) {N : Nat} (hE : Laid3 N w) {nd : Node} (hP : readP t.toList = some nd) :
    Calls Tryz.prog 8 #[.string t, .int .i64 (m : Int), .int .i64 x, .int .i64 (T : Int)] w fun e w' => e = .returned (.tuple #[.int .i64 ((exitN x (runT T nd m) : Nat) : Int), .bool true]) ∧ Below w.heap.size w w' := by
  have hr := pread40 t.toList w hE
  rw [bytes_eta] at hr
  obtain ⟨hok, _⟩ := readP_iff.1 hP
  have hrun := prunin nd hok m hm T hT
  have hK : isK (T : Int) = true := inB_yes (by omega)
  have hs : isSet (m : Int) = true := decide_eq_true (by omega)
  have hn : (nameX x).toList.isEmpty = false := by rcases hx with rfl | rfl <;> (rw [Lib.toList_data]; rfl)
  have hat := fun w => at28x (runT T nd m).1 (runT T nd m).2 x hx w
  have HN := Lib.hid hn
  have HK := Lib.hid hK
  clear hK
  have HP := Lib.hid hP
  have HS := Lib.hid hs
  clear hP hs hn
  generalize runT T nd m = o at hrun hat ⊢
  go_enter Tryz.func8, Tryz.ntmps8
  go_wp2_with (first
    | (go_at_call 37; refine hr.mono ?_; rintro e W1 ⟨hb, hm⟩; rw [HP.out] at hm; obtain rfl := hm)
    | (go_at_call 38; refine (sv24 _ _).mono ?_; rintro e w' ⟨rfl, rfl⟩; rw [HS.out])
    | (go_at_call 39; refine (pname26 _ _).mono ?_; rintro e w' ⟨rfl, rfl⟩; have hN := HN.out)
    | (go_at_call 40; refine (ptimes _ _).mono ?_; rintro e w' ⟨rfl, rfl⟩; rw [HK.out])
    | (go_at_call 41; refine (hrun _).mono ?_; rintro e W2 ⟨rfl, hb2⟩)
    | (go_at_call 42; refine (hat _).mono ?_; rintro e W3 ⟨rfl, hb3⟩))
  go_ret2
  have h2 := hb.trans (hb2.mono hb.size)
  exact ⟨rfl, h2.trans (hb3.mono h2.size)⟩

theorem in_no {t : ByteArray} {s x k : Int} (h : inOk t s x k = false) : inN t s x k = 0 := by
  unfold inOk at h
  unfold inN
  split
  · rw [h]; rfl
  · rfl
theorem in_yes {t : ByteArray} {nd : Node} (hP : readP t.toList = some nd) {m : Nat} (hm : m < 512) {x : Int} (hx : x = 0 ∨ x = 1) {T : Nat} (hT : T ≤ 12) : inN t (m : Int) x (T : Int) = ((exitN x (runT T nd m) : Nat) : Int) ∧ inOk t (m : Int) x (T : Int) = true := by
  have hK : isK (T : Int) = true := inB_yes (by omega)
  unfold inN inOk
  rw [hP, (reach_ok hP hm hx).2, hK]
  exact ⟨rfl, rfl⟩
/-- **WHAT THE PROGRAM SAYS IS REACHED WITH SO MANY TIMES.** -/
theorem pin (t : ByteArray) (s x k : Int) (w : World) {N : Nat} (hE : Laid3 N w) :
    Calls Tryz.prog 8 #[.string t, .int .i64 s, .int .i64 x, .int .i64 k] w fun e w' => e = .returned (.tuple #[.int .i64 (inN t s x k), .bool (inOk t s x k)]) ∧ Below w.heap.size w w' := by
  cases hP : readP t.toList with
  | none =>
    have h0 : inOk t s x k = false := by unfold inOk; rw [(reach_none hP s x).2]; rfl
    rw [in_no h0, h0]
    exact pin_none t s x k w hE hP
  | some nd =>
    cases hs : isSet s with
    | false =>
      have h0 : inOk t s x k = false := by unfold inOk; rw [(reach_bad (t := t) (s := s) (x := x) (by rw [hs]; rfl)).2]; rfl
      rw [in_no h0, h0]
      exact pin_set t s x k w hE hP hs
    | true =>
      cases hx : inB x 0 1 with
      | false =>
        have h0 : inOk t s x k = false := by unfold inOk; rw [(reach_bad (t := t) (s := s) (x := x) (by rw [hx, Bool.and_false])).2]; rfl
        rw [in_no h0, h0]
        exact pin_exit t s x k w hE hP hs hx
      | true =>
        obtain ⟨m, hm, rfl⟩ := set_nat hs
        have hx2 : x = 0 ∨ x = 1 := by have := of_decide_eq_true hx; omega
        cases hK : isK k with
        | false =>
          have h0 : inOk t (m : Int) x k = false := by unfold inOk; rw [hK, Bool.and_false]
          rw [in_no h0, h0]
          exact pin_times t m hm k hK x hx2 w hE hP
        | true =>
          obtain ⟨T, hT, rfl⟩ : ∃ T : Nat, T ≤ 12 ∧ k = (T : Int) := by
            have := of_decide_eq_true hK
            exact ⟨k.toNat, by omega, by omega⟩
          obtain ⟨h1, h2⟩ := in_yes hP hm hx2 hT
          rw [h1, h2]
          exact pin_ok t m hm T hT x hx2 w hE hP
end Go.Proofs.YtnejphdbnfdbhaaGreatDoor

