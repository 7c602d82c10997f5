/- Chapter 8: the walks of the exact laws on programs, exits and sets. -/
import Derived.Test.YtpepaobgngighaaDoorMB
import Derived.Test.YtpepaobgngighaaDoorBQ
namespace Go.Proofs.YtpepaobgngighaaDoor
open Go.ChangeShapes Go.WideShapes Go.ChangeAt Go.RowKit Go.Shelf
attribute [local go_sem] Oper.semAt_some
set_option maxRecDepth 100000

set_option maxHeartbeats 2000000 in
theorem walkCanReach (t : ByteArray) (x s : Int) (hm : t.size ≤ maxLen) (w : World) {N : Nat} (hL : Laid3 N w) (hE : NoExit N w) :
    Calls Tryd.prog 3 #[.string t, .int .i64 x, .int .i64 s] w fun e w' => e = .returned (.bool true) ∧ Below w.heap.size w w' := by
  unfold maxLen at hm
  by_cases hlt : t.size ≤ 1048576
  · have hlti : (t.size : Int) ≤ 1048576 := by omega
    have hmod := fun W => mcan t (by omega) s x W
    have hprog := fun (X : World) (hX : Laid3 N X) (hY : NoExit N X) => pcan t s x X hX hY
    generalize canZ t s x = z at hmod hprog
    generalize reachB t s x = b at hmod hprog
    go_enter Tryd.func3, Tryd.ntmps3
    go_wp2_with (first
      | (go_at_call 7; refine (hmod _).mono ?_; rintro e W1 ⟨rfl, hb1⟩; have hL1 := hL.below hb1 hL.lt; have hE1 := hE.below hb1 hL.lt)
      | (go_at_call 8; refine (hprog _ hL1 hE1).mono ?_; rintro e W2 ⟨rfl, hb2⟩))
    go_ret
    exact ⟨rfl, hb1.trans (hb2.mono hb1.size)⟩
  · have hlti : (1048576 : Int) < (t.size : Int) := by omega
    go_enter Tryd.func3, Tryd.ntmps3
    go_wp2
    go_ret
    exact ⟨rfl, Below.refl _ _⟩

set_option maxHeartbeats 2000000 in
theorem walkOnlyReach (t : ByteArray) (x s : Int) (hm : t.size ≤ maxLen) (w : World) {N : Nat} (hL : Laid3 N w) (hE : NoExit N w) :
    Calls Tryd.prog 4 #[.string t, .int .i64 x, .int .i64 s] w fun e w' => e = .returned (.bool true) ∧ Below w.heap.size w w' := by
  unfold maxLen at hm
  by_cases hlt : t.size ≤ 1048576
  · have hlti : (t.size : Int) ≤ 1048576 := by omega
    have hmod := fun W => monly t (by omega) s x W
    have hprog := fun (X : World) (hX : Laid3 N X) (hY : NoExit N X) => ponly t s x X hX hY
    generalize onlyZ t s x = z at hmod hprog
    generalize reachB t s x = b at hmod hprog
    go_enter Tryd.func4, Tryd.ntmps4
    go_wp2_with (first
      | (go_at_call 9; refine (hmod _).mono ?_; rintro e W1 ⟨rfl, hb1⟩; have hL1 := hL.below hb1 hL.lt; have hE1 := hE.below hb1 hL.lt)
      | (go_at_call 10; refine (hprog _ hL1 hE1).mono ?_; rintro e W2 ⟨rfl, hb2⟩))
    go_ret
    exact ⟨rfl, hb1.trans (hb2.mono hb1.size)⟩
  · have hlti : (1048576 : Int) < (t.size : Int) := by omega
    go_enter Tryd.func4, Tryd.ntmps4
    go_wp2
    go_ret
    exact ⟨rfl, Below.refl _ _⟩

set_option maxHeartbeats 2000000 in
theorem walkFailsFrom (t : ByteArray) (hm : t.size ≤ maxLen) (w : World) {N : Nat} (hL : Laid3 N w) (hE : NoExit N w) :
    Calls Tryd.prog 5 #[.string t] w fun e w' => e = .returned (.bool true) ∧ Below w.heap.size w w' := by
  unfold maxLen at hm
  by_cases hlt : t.size ≤ 1048576
  · have hlti : (t.size : Int) ≤ 1048576 := by omega
    have hmod := fun W => mfails t (by omega) W
    have hprog := fun (X : World) (hX : Laid3 N X) (hY : NoExit N X) => pfails t X hX hY
    generalize canZ t 511 1 = z at hmod hprog
    generalize reachB t 511 1 = b at hmod hprog
    go_enter Tryd.func5, Tryd.ntmps5
    go_wp2_with (first
      | (go_at_call 11; refine (hmod _).mono ?_; rintro e W1 ⟨rfl, hb1⟩; have hL1 := hL.below hb1 hL.lt; have hE1 := hE.below hb1 hL.lt)
      | (go_at_call 12; refine (hprog _ hL1 hE1).mono ?_; rintro e W2 ⟨rfl, hb2⟩))
    go_ret
    exact ⟨rfl, hb1.trans (hb2.mono hb1.size)⟩
  · have hlti : (1048576 : Int) < (t.size : Int) := by omega
    go_enter Tryd.func5, Tryd.ntmps5
    go_wp2
    go_ret
    exact ⟨rfl, Below.refl _ _⟩

set_option maxHeartbeats 2000000 in
theorem walkSafeFrom (t : ByteArray) (hm : t.size ≤ maxLen) (w : World) {N : Nat} (hL : Laid3 N w) (hE : NoExit N w) :
    Calls Tryd.prog 6 #[.string t] w fun e w' => e = .returned (.bool true) ∧ Below w.heap.size w w' := by
  unfold maxLen at hm
  by_cases hlt : t.size ≤ 1048576
  · have hlti : (t.size : Int) ≤ 1048576 := by omega
    have hmod := fun W => msafe t (by omega) W
    have hprog := fun (X : World) (hX : Laid3 N X) (hY : NoExit N X) => psafe t X hX hY
    generalize onlyZ t 0 1 = z at hmod hprog
    generalize reachB t 0 1 = b at hmod hprog
    go_enter Tryd.func6, Tryd.ntmps6
    go_wp2_with (first
      | (go_at_call 13; refine (hmod _).mono ?_; rintro e W1 ⟨rfl, hb1⟩; have hL1 := hL.below hb1 hL.lt; have hE1 := hE.below hb1 hL.lt)
      | (go_at_call 14; refine (hprog _ hL1 hE1).mono ?_; rintro e W2 ⟨rfl, hb2⟩))
    go_ret
    exact ⟨rfl, hb1.trans (hb2.mono hb1.size)⟩
  · have hlti : (1048576 : Int) < (t.size : Int) := by omega
    go_enter Tryd.func6, Tryd.ntmps6
    go_wp2
    go_ret
    exact ⟨rfl, Below.refl _ _⟩

end Go.Proofs.YtpepaobgngighaaDoor

