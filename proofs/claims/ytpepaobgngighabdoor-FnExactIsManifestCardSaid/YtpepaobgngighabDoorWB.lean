/- Chapter 8: the walks of the exact laws on programs, exits and sets. -/
import Derived.Test.YtpepaobgngighabDoorMB
import Derived.Test.YtpepaobgngighabDoorBQ
namespace Go.Proofs.YtpepaobgngighabDoor
open Go.ChangeShapes Go.WideShapes Go.ChangeAt Go.RowKit Go.Shelf
attribute [local go_sem] Oper.semAt_some
set_option maxRecDepth 100000





set_option maxHeartbeats 2000000 in
theorem walkIsManifest (t : ByteArray) (hm : t.size ≤ maxLen) (w : World) {N : Nat} (hL : Laid3 N w) (hE : NoExit N w) :
    Calls Tryd.prog 3 #[.string t] w fun e w' => e = .returned (.bool true) ∧ Below w.heap.size w w' := by
  unfold maxLen at hm
  by_cases hlt : t.size ≤ 1048576
  · have hlti : (t.size : Int) ≤ 1048576 := by omega
    have hmod := fun W => mmani t (by omega) W
    have hprog := fun (X : World) (hX : Laid3 N X) (hY : NoExit N X) => (show Calls Tryd.prog 6 #[.string t] X fun e w' => e = .returned (.bool (manifestZ t)) ∧ Below X.heap.size X w' from pmani t X hX hY)
    generalize manifestZ t = b at hmod hprog
    go_enter Tryd.func3, Tryd.ntmps3
    go_wp2_with (first
      | (go_at_call 5; refine (hmod _).mono ?_; rintro e W1 ⟨rfl, hb1⟩; have hL1 := hL.below hb1 hL.lt; have hE1 := hE.below hb1 hL.lt)
      | (go_at_call 6; refine (hprog _ hL1 hE1).mono ?_; rintro e W2 ⟨rfl, hb2⟩))
    go_ret
    exact ⟨rfl, hb1.trans (hb2.mono hb1.size)⟩
  · have hlti : (1048576 : Int) < (t.size : Int) := by omega
    go_enter Tryd.func3, Tryd.ntmps3
    go_wp2
    go_ret
    exact ⟨rfl, Below.refl _ _⟩
end Go.Proofs.YtpepaobgngighabDoor

