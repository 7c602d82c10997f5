/- The program's answers on what is reached: from a set, from a state, from each state. -/
import Derived.Test.YtnejphdbnfdbhaaGreatDoorR4
import Derived.Test.YtnejphdbnfdbhaaGreatDoorNB
namespace Go.Proofs.YtnejphdbnfdbhaaGreatDoor
open Go.ChangeShapes Go.WideShapes Go.ChangeAt Go.RowKit Go.Shelf
attribute [local go_sem] Oper.semAt_some
set_option maxRecDepth 100000

/-! ### The word of an exit -/
def nameX (x : Int) : ByteArray := if x = 0 then ⟨#[111, 107]⟩ else if x = 1 then ⟨#[101, 114, 114, 111, 114]⟩ else ⟨#[]⟩
theorem pname26 (x : Int) (w : World) :
    Calls Tryz.prog 39 #[.int .i64 x] w fun e w' => e = .returned (.string (nameX x)) ∧ w = w' := by
  by_cases h0 : x = 0
  · subst h0
    go_enter Tryz.func39, Tryz.ntmps39
    go_wp2
    go_ret
    exact ⟨rfl, rfl⟩
  · by_cases h1 : x = 1
    · subst h1
      go_enter Tryz.func39, Tryz.ntmps39
      go_wp2
      go_ret
      exact ⟨rfl, rfl⟩
    · have e : nameX x = ⟨#[]⟩ := by unfold nameX; rw [if_neg h0, if_neg h1]
      have b0 : (x == 0) = false := by simpa using h0
      have b1 : (x == 1) = false := by simpa using h1
      rw [e]
      clear h0 h1 e
      go_enter Tryz.func39, Tryz.ntmps39
      go_wp2
      go_ret
      exact ⟨rfl, rfl⟩

/-! ### From a set -/
def exitN (x : Int) (o : Nat × Nat) : Nat := if x = 1 then o.2 else o.1
def reachB (t : ByteArray) (s x : Int) : Bool := (readP t.toList).isSome && isSet s && inB x 0 1
def reachN (t : ByteArray) (s x : Int) : Int := match readP t.toList with
  | some nd => if (isSet s && inB x 0 1) = true then ((exitN x (runR nd s.toNat) : Nat) : Int) else 0
  | none => 0
theorem reach_none {t : ByteArray} (h : readP t.toList = none) (s x : Int) : reachN t s x = 0 ∧ reachB t s x = false := by
  unfold reachN reachB; rw [h]; exact ⟨rfl, rfl⟩
theorem reach_bad {t : ByteArray} {s x : Int} (h : (isSet s && inB x 0 1) = false) : reachN t s x = 0 ∧ reachB t s x = false := by
  unfold reachN reachB
  rw [Bool.and_assoc, h, Bool.and_false]
  refine ⟨?_, rfl⟩
  split
  · rfl
  · rfl
theorem reach_ok {t : ByteArray} {nd : Node} (h : readP t.toList = some nd) {m : Nat} (hm : m < 512) {x : Int} (hx : x = 0 ∨ x = 1) : reachN t (m : Int) x = ((exitN x (runR nd m) : Nat) : Int) ∧ reachB t (m : Int) x = true := by
  have hs : isSet (m : Int) = true := decide_eq_true (by omega)
  have hx' : inB x 0 1 = true := inB_yes (by omega)
  unfold reachN reachB
  rw [h, hs, hx']
  exact ⟨rfl, rfl⟩
theorem set_nat {s : Int} (h : isSet s = true) : ∃ m : Nat, m < 512 ∧ s = (m : Int) := by
  have := of_decide_eq_true h
  exact ⟨s.toNat, by omega, by omega⟩

set_option maxHeartbeats 2000000 in
theorem preach_none (t : ByteArray) (s x : Int) (w : World) {N : Nat} (hE : Laid3 N w) (hP : readP t.toList = none) :
    Calls Tryz.prog 12 #[.string t, .int .i64 s, .int .i64 x] w fun e w' => e = .returned (.tuple #[.int .i64 0, .bool false]) ∧ Below w.heap.size w w' := by
  have hr := pread40 t.toList w hE
  rw [bytes_eta] at hr
  have HP := Lib.hid hP
  clear hP
  go_enter Tryz.func12, Tryz.ntmps12
  go_wp2_with (go_at_call 37; refine hr.mono ?_; rintro e W1 ⟨hb, hm⟩; rw [HP.out] at hm; obtain ⟨T, v, rfl⟩ := hm)
  go_ret2
  exact ⟨rfl, hb⟩
set_option maxHeartbeats 2000000 in
theorem preach_set (t : ByteArray) (s x : Int) (w : World) {N : Nat} (hE : Laid3 N w) {nd : Node} (hP : readP t.toList = some nd) (hs : isSet s = false) :
    Calls Tryz.prog 12 #[.string t, .int .i64 s, .int .i64 x] w fun e w' => e = .returned (.tuple #[.int .i64 0, .bool false]) ∧ Below w.heap.size w w' := by
  have hr := pread40 t.toList w hE
  rw [bytes_eta] at hr
  have HP := Lib.hid hP
  have HS := Lib.hid hs
  clear hP hs
  go_enter Tryz.func12, Tryz.ntmps12
  go_wp2_with (first
    | (go_at_call 37; refine hr.mono ?_; rintro e W1 ⟨hb, hm⟩; rw [HP.out] at hm; obtain rfl := hm)
    | (go_at_call 38; refine (sv24 _ _).mono ?_; rintro e w' ⟨rfl, rfl⟩; rw [HS.out]))
  go_ret2
  exact ⟨rfl, hb⟩
set_option maxHeartbeats 2000000 in
theorem preach_exit (t : ByteArray) (s x : Int) (w : World) {N : Nat} (hE : Laid3 N w) {nd : Node} (hP : readP t.toList = some nd) (hs : isSet s = true) (hx : inB x 0 1 = false) :
    Calls Tryz.prog 12 #[.string t, .int .i64 s, .int .i64 x] w fun e w' => e = .returned (.tuple #[.int .i64 0, .bool false]) ∧ Below w.heap.size w w' := by
  have hr := pread40 t.toList w hE
  rw [bytes_eta] at hr
  have hn : nameX x = ⟨#[]⟩ := by
    have := of_decide_eq_false hx
    unfold nameX
    rw [if_neg (by omega), if_neg (by omega)]
  have HN := Lib.hid hn
  have HP := Lib.hid hP
  have HS := Lib.hid hs
  clear hP hs hx hn
  go_enter Tryz.func12, Tryz.ntmps12
  go_wp2_with (first
    | (go_at_call 37; refine hr.mono ?_; rintro e W1 ⟨hb, hm⟩; rw [HP.out] at hm; obtain rfl := hm)
    | (go_at_call 38; refine (sv24 _ _).mono ?_; rintro e w' ⟨rfl, rfl⟩; rw [HS.out])
    | (go_at_call 39; refine (pname26 _ _).mono ?_; rintro e w' ⟨rfl, rfl⟩; rw [HN.out]))
  go_ret2
  exact ⟨rfl, hb⟩
theorem at28x (a b : Nat) (x : Int) (hx : x = 0 ∨ x = 1) (w : World) :
    Calls Tryz.prog 42 #[.agg #[.int .i64 (a : Int), .int .i64 (b : Int)], .int .i64 x] w fun e w' => e = .returned (.int .i64 ((exitN x (a, b) : Nat) : Int)) ∧ Below w.heap.size w w' := by
  rcases hx with rfl | rfl
  · exact at28ok (a, b) w
  · exact at28err (a, b) w
set_option maxHeartbeats 2000000 in
theorem preach_ok (t : ByteArray) (m : Nat) (hm : m < 512) (x : Int) (hx : x = 0 ∨ x = 1) (w : World) {N : Nat} (hE : Laid3 N w) {nd : Node} (hP : readP t.toList = some nd) :
    Calls Tryz.prog 12 #[.string t, .int .i64 (m : Int), .int .i64 x] w fun e w' => e = .returned (.tuple #[.int .i64 ((exitN x (runR nd m) : Nat) : Int), .bool true]) ∧ Below w.heap.size w w' := by
  have hr := pread40 t.toList w hE
  rw [bytes_eta] at hr
  obtain ⟨hok, _⟩ := readP_iff.1 hP
  have hrun := prun27 nd hok m hm
  have hs : isSet (m : Int) = true := decide_eq_true (by omega)
  have hn : (nameX x).toList.isEmpty = false := by rcases hx with rfl | rfl <;> (rw [Lib.toList_data]; rfl)
  have hat := fun w => at28x (runR nd m).1 (runR nd m).2 x hx w
  have HN := Lib.hid hn
  have HP := Lib.hid hP
  have HS := Lib.hid hs
  clear hP hs hn
  generalize runR nd m = o at hrun hat ⊢
  go_enter Tryz.func12, Tryz.ntmps12
  go_wp2_with (first
    | (go_at_call 37; refine hr.mono ?_; rintro e W1 ⟨hb, hm⟩; rw [HP.out] at hm; obtain rfl := hm)
    | (go_at_call 38; refine (sv24 _ _).mono ?_; rintro e w' ⟨rfl, rfl⟩; rw [HS.out])
    | (go_at_call 39; refine (pname26 _ _).mono ?_; rintro e w' ⟨rfl, rfl⟩; have hN := HN.out)
    | (go_at_call 51; refine (hrun _).mono ?_; rintro e W2 ⟨rfl, hb2⟩)
    | (go_at_call 42; refine (hat _).mono ?_; rintro e W3 ⟨rfl, hb3⟩))
  go_ret2
  have h2 := hb.trans (hb2.mono hb.size)
  exact ⟨rfl, h2.trans (hb3.mono h2.size)⟩
/-- **WHAT THE PROGRAM SAYS IS REACHED FROM A SET.** -/
theorem preach10 (t : ByteArray) (s x : Int) (w : World) {N : Nat} (hE : Laid3 N w) :
    Calls Tryz.prog 12 #[.string t, .int .i64 s, .int .i64 x] w fun e w' => e = .returned (.tuple #[.int .i64 (reachN t s x), .bool (reachB t s x)]) ∧ Below w.heap.size w w' := by
  cases hP : readP t.toList with
  | none =>
    obtain ⟨h1, h2⟩ := reach_none hP s x
    rw [h1, h2]
    exact preach_none t s x w hE hP
  | some nd =>
    cases hs : isSet s with
    | false =>
      obtain ⟨h1, h2⟩ := reach_bad (t := t) (s := s) (x := x) (by rw [hs]; rfl)
      rw [h1, h2]
      exact preach_set t s x w hE hP hs
    | true =>
      cases hx : inB x 0 1 with
      | false =>
        obtain ⟨h1, h2⟩ := reach_bad (t := t) (s := s) (x := x) (by rw [hx, Bool.and_false])
        rw [h1, h2]
        exact preach_exit t s x w hE hP hs hx
      | true =>
        obtain ⟨m, hm, rfl⟩ := set_nat hs
        have hx2 : x = 0 ∨ x = 1 := by have := of_decide_eq_true hx; omega
        obtain ⟨h1, h2⟩ := reach_ok hP hm hx2
        rw [h1, h2]
        exact preach_ok t m hm x hx2 w hE hP

/-! ### From one state -/
def isSt (s : Int) : Bool := inB s 0 8
def fromN (t : ByteArray) (s x : Int) : Int := if isSt s = true then reachN t (((2 : Nat) ^ s.toNat : Nat) : Int) x else 0
def fromB (t : ByteArray) (s x : Int) : Bool := isSt s && reachB t (((2 : Nat) ^ s.toNat : Nat) : Int) x
end Go.Proofs.YtnejphdbnfdbhaaGreatDoor

