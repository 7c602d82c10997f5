/- The exact laws on lists of tests: their walks. -/
import Derived.Test.YtemilnkglkpnjabDoorT10
import Derived.Test.YtemilnkglkpnjabDoorG2
namespace Go.Proofs.YtemilnkglkpnjabDoor
open Go.ChangeShapes Go.WideShapes Go.ChangeAt Go.RowKit Go.Shelf Go.Maps
set_option maxRecDepth 100000
attribute [local go_sem] Oper.semAt_some

theorem trow_tests {W : World} {B : Nat} {v : Value} (h : W.ownsRow B 9 1 v 20 (texts tests)) : TRow W B v tests := h
theorem TRow.mono {W : World} {B B' : Nat} {v : Value} {ws : List (List UInt8)} (h : TRow W B v ws) (hB : B' ≤ B) : TRow W B' v ws := own_base h hB

set_option maxHeartbeats 2000000 in
theorem walkAllTests (w : World) {N : Nat} (hL : Laid N w) :
    Calls Tryd.prog 9 #[] w fun e w' => e = .returned (.bool true) ∧ Below w.heap.size w w' := by
  have L0 : tests.length ≤ 999990 := by decide
  have L1 : (tests.length : Int) ≤ 999990 := by omega
  go_enter Tryd.func9, Tryd.ntmps9
  go_wp2_with fail
  go_at_call 28
  refine (all28 _).mono ?_
  rintro e W1 ⟨v0, rfl, o0, b1⟩
  have r0 := trow_tests o0
  have hL1 := hL.below b1 hL.lt
  clear o0
  go_wp2_with fail
  go_at_call 27
  refine (all27 _ hL1).mono ?_
  rintro e W2 ⟨v1, rfl, o1, b2⟩
  have r1 := trow_tests o1
  have r0a := r0.below b2
  have ap := r0.apart r1
  have B2 := b1.trans (b2.mono b1.size)
  clear o1
  go_wp2_with fail
  go_at_call 29
  refine (teq29 r1 r0a).mono ?_
  rintro e W3 ⟨rfl, b3⟩
  have r0b := r0a.below b3
  have r1b := r1.below b3
  have B3 := B2.trans (b3.mono B2.size)
  go_wp2_with fail
  go_at_call 30
  refine (mk30 r1b L0).mono ?_
  rintro e W4 ⟨rfl, r1c, g4⟩
  have r0c := r0b.kept g4 ap
  have B4 := (r1b.mono b1.size).belowOf g4 B3.size B3
  go_wp2_with fail
  go_at_call 31
  refine (held31 r1c L0).mono ?_
  rintro e W5 ⟨rfl, b5⟩
  have r0d := r0c.below b5
  have r1d := r1c.below b5
  have B5 := B4.trans (b5.mono B4.size)
  have hL5 := hL.below B5 hL.lt
  go_wp2_with fail
  go_at_call 27
  refine (all27 _ hL5).mono ?_
  rintro e W6 ⟨v2, rfl, o2, b6⟩
  have r2 := trow_tests o2
  have r0e := r0d.below b6
  have r1e := r1d.below b6
  have B6 := B5.trans (b6.mono B5.size)
  clear o2
  go_wp2_with fail
  go_at_call 29
  refine (teq29 r2 r0e).mono ?_
  rintro e W7 ⟨rfl, b7⟩
  have r1f := r1e.below b7
  have B7 := B6.trans (b7.mono B6.size)
  go_wp2_with fail
  go_at_call 31
  refine (held31 r1f L0).mono ?_
  rintro e W8 ⟨rfl, b8⟩
  go_wp2
  go_ret
  exact ⟨rfl, B7.trans (b8.mono B7.size)⟩

theorem opp_len (t : ByteArray) : (oppL t).length ≤ 20 := by
  unfold oppL
  split
  · have h1 := List.length_filter_le (isOpp t) tests
    rw [tests_len] at h1
    exact h1
  · simp

set_option maxHeartbeats 2000000 in
theorem walkOppositeOf (t : ByteArray) (hm : t.size ≤ maxLen) (w : World) {N : Nat} (hL : Laid N w) :
    Calls Tryd.prog 8 #[.string t] w fun e w' => e = .returned (.bool true) ∧ Below w.heap.size w w' := by
  have hmm := hm
  unfold maxLen at hm
  have L2 := opp_len t
  have L0 : (oppL t).length ≤ 999990 := by omega
  have L1 : ((oppL t).length : Int) ≤ 999990 := by omega
  by_cases ht : t.size ≤ 1048576
  · have h1 : (t.size : Int) ≤ 1048576 := by omega
    go_enter Tryd.func8, Tryd.ntmps8
    go_wp2_with fail
    go_at_call 23
    refine (opp23 t _).mono ?_
    rintro e W1 ⟨v0, rfl, o0, b1⟩
    have r0 : TRow W1 w.heap.size v0 (oppL t) := o0
    have hL1 := hL.below b1 hL.lt
    clear o0
    go_wp2_with fail
    go_at_call 22
    refine (opp22 t hmm _ hL1).mono ?_
    rintro e W2 ⟨v1, rfl, o1, b2⟩
    have r1 : TRow W2 W1.heap.size v1 (oppL t) := o1
    have r0a := r0.below b2
    have ap := r0.apart r1
    have B2 := b1.trans (b2.mono b1.size)
    clear o1
    go_wp2_with fail
    go_at_call 29
    refine (teq29 r1 r0a).mono ?_
    rintro e W3 ⟨rfl, b3⟩
    have r0b := r0a.below b3
    have r1b := r1.below b3
    have B3 := B2.trans (b3.mono B2.size)
    go_wp2_with fail
    go_at_call 30
    refine (mk30 r1b L0).mono ?_
    rintro e W4 ⟨rfl, r1c, g4⟩
    have r0c := r0b.kept g4 ap
    have B4 := (r1b.mono b1.size).belowOf g4 B3.size B3
    go_wp2_with fail
    go_at_call 31
    refine (held31 r1c L0).mono ?_
    rintro e W5 ⟨rfl, b5⟩
    have r0d := r0c.below b5
    have r1d := r1c.below b5
    have B5 := B4.trans (b5.mono B4.size)
    have hL5 := hL.below B5 hL.lt
    go_wp2_with fail
    go_at_call 22
    refine (opp22 t hmm _ hL5).mono ?_
    rintro e W6 ⟨v2, rfl, o2, b6⟩
    have r2 : TRow W6 W5.heap.size v2 (oppL t) := o2
    have r0e := r0d.below b6
    have r1e := r1d.below b6
    have B6 := B5.trans (b6.mono B5.size)
    clear o2
    go_wp2_with fail
    go_at_call 29
    refine (teq29 r2 r0e).mono ?_
    rintro e W7 ⟨rfl, b7⟩
    have r1f := r1e.below b7
    have B7 := B6.trans (b7.mono B6.size)
    go_wp2_with fail
    go_at_call 31
    refine (held31 r1f L0).mono ?_
    rintro e W8 ⟨rfl, b8⟩
    go_wp2
    go_ret
    exact ⟨rfl, B7.trans (b8.mono B7.size)⟩
  · have h1 : (1048576 : Int) < (t.size : Int) := by omega
    have h2 : (t.size : Int) ≤ 9223372036854775807 := by omega
    clear hm hmm L0 L1 L2
    go_enter Tryd.func8, Tryd.ntmps8
    go_wp2
    go_ret
    exact ⟨rfl, Below.refl _ _⟩
end Go.Proofs.YtemilnkglkpnjabDoor

