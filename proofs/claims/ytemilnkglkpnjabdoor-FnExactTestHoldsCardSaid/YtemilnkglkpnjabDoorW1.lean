/- The exact laws on tests: their walks. -/
import Derived.Test.YtemilnkglkpnjabDoorT10
namespace Go.Proofs.YtemilnkglkpnjabDoor
open Go.ChangeShapes Go.WideShapes Go.ChangeAt Go.RowKit Go.Shelf Go.Maps
set_option maxRecDepth 100000
attribute [local go_sem] Oper.semAt_some

theorem walkTestValid (t : ByteArray) (hm : t.size ≤ maxLen) (w : World) {N : Nat} (hL : Laid N w) :
    Calls Tryd.prog 5 #[.string t] w fun e w' => e = .returned (.bool true) ∧ Below w.heap.size w w' := by
  unfold maxLen at hm
  by_cases ht : t.size ≤ 1048576
  · have h1 : (t.size : Int) ≤ 1048576 := by omega
    clear hm
    go_enter Tryd.func5, Tryd.ntmps5
    go_wp2_with (first | (go_at_call 16; refine (valid16 t _).mono ?_; rintro e W1 ⟨rfl, b1⟩; have hL1 := hL.below b1 hL.lt) | (go_at_call 15; refine (valid15 t _ hL1).mono ?_; rintro e W2 ⟨rfl, b2⟩))
    go_ret
    exact ⟨rfl, b1.trans (b2.mono b1.size)⟩
  · have h1 : (1048576 : Int) < (t.size : Int) := by omega
    have h2 : (t.size : Int) ≤ 9223372036854775807 := by omega
    clear hm
    go_enter Tryd.func5, Tryd.ntmps5
    go_wp2
    go_ret
    exact ⟨rfl, Below.refl _ _⟩

theorem walkTestHolds (t : ByteArray) (s : Int) (hm : t.size ≤ maxLen) (w : World) {N : Nat} (hL : Laid N w) :
    Calls Tryd.prog 6 #[.string t, .int .i64 s] w fun e w' => e = .returned (.bool true) ∧ Below w.heap.size w w' := by
  unfold maxLen at hm
  by_cases ht : t.size ≤ 1048576
  · have h1 : (t.size : Int) ≤ 1048576 := by omega
    clear hm
    go_enter Tryd.func6, Tryd.ntmps6
    go_wp2_with (first | (go_at_call 18; refine (holds18 t s _).mono ?_; rintro e W1 ⟨rfl, b1⟩; have hL1 := hL.below b1 hL.lt) | (go_at_call 17; refine (holds17 t s _ hL1).mono ?_; rintro e W2 ⟨rfl, b2⟩))
    go_ret
    exact ⟨rfl, b1.trans (b2.mono b1.size)⟩
  · have h1 : (1048576 : Int) < (t.size : Int) := by omega
    have h2 : (t.size : Int) ≤ 9223372036854775807 := by omega
    clear hm
    go_enter Tryd.func6, Tryd.ntmps6
    go_wp2
    go_ret
    exact ⟨rfl, Below.refl _ _⟩

theorem walkWhereHolds (t : ByteArray) (hm : t.size ≤ maxLen) (w : World) {N : Nat} (hL : Laid N w) :
    Calls Tryd.prog 7 #[.string t] w fun e w' => e = .returned (.bool true) ∧ Below w.heap.size w w' := by
  unfold maxLen at hm
  by_cases ht : t.size ≤ 1048576
  · have h1 : (t.size : Int) ≤ 1048576 := by omega
    clear hm
    go_enter Tryd.func7, Tryd.ntmps7
    go_wp2_with (first | (go_at_call 13; refine (where13 t _).mono ?_; rintro e W1 ⟨rfl, b1⟩; have hL1 := hL.below b1 hL.lt) | (go_at_call 12; refine (where12 t _ hL1).mono ?_; rintro e W2 ⟨rfl, b2⟩))
    go_ret
    exact ⟨rfl, b1.trans (b2.mono b1.size)⟩
  · have h1 : (1048576 : Int) < (t.size : Int) := by omega
    have h2 : (t.size : Int) ≤ 9223372036854775807 := by omega
    clear hm
    go_enter Tryd.func7, Tryd.ntmps7
    go_wp2
    go_ret
    exact ⟨rfl, Below.refl _ _⟩

theorem walkTestFor (s : Int) (w : World) {N : Nat} (hL : Laid N w) :
    Calls Tryd.prog 10 #[.int .i64 s] w fun e w' => e = .returned (.bool true) ∧ Below w.heap.size w w' := by
  go_enter Tryd.func10, Tryd.ntmps10
  go_wp2_with (first | (go_at_call 25; refine (for25 s _).mono ?_; rintro e W1 ⟨rfl, b1⟩; have hL1 := hL.below b1 hL.lt) | (go_at_call 20; refine (for20 s _ hL1).mono ?_; rintro e W2 ⟨rfl, b2⟩))
  go_ret
  exact ⟨rfl, b1.trans (b2.mono b1.size)⟩
end Go.Proofs.YtemilnkglkpnjabDoor

