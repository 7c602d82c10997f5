/- Chapter 11: the walks of exact laws (wip/tools/mkZW.py). -/
import Derived.Test.YtmgfdicmmldjfaaDoorYE
namespace Go.Proofs.YtmgfdicmmldjfaaDoor
open Go.ChangeShapes Go.WideShapes Go.ChangeAt Go.RowKit Go.Shelf
attribute [local go_sem] Oper.semAt_some
set_option maxRecDepth 100000

set_option maxHeartbeats 2000000 in
theorem walkSameResults (p q : ByteArray) (hp : p.size ≤ maxLen) (hq : q.size ≤ maxLen) (w : World) {N : Nat} (hL : Laid3 N w) :
    Calls Tryd.prog 3 #[.string p, .string q] w fun e w' => e = .returned (.bool true) ∧ Below w.heap.size w w' := by
  unfold maxLen at hp hq
  by_cases hlp : p.size ≤ 1048576
  · have hlpi : (p.size : Int) ≤ 1048576 := by omega
    by_cases hlq : q.size ≤ 1048576
    · have hlqi : (q.size : Int) ≤ 1048576 := by omega
      have hmod := fun W => msame p q (by omega) (by omega) W
      have hprog := fun (X : World) (hX : Laid3 N X) => psame p q X hX
      generalize sameZ p q = z at hmod hprog
      go_enter Tryd.func3, Tryd.ntmps3
      go_wp2_with (first
        | (go_at_call 11; refine (hmod _).mono ?_; rintro e W1 ⟨rfl, hb1⟩; have hL1 := hL.below hb1 hL.lt)
        | (go_at_call 12; refine (hprog _ hL1).mono ?_; rintro e W2 ⟨rfl, hb2⟩))
      go_ret
      exact ⟨rfl, hb1.trans (hb2.mono hb1.size)⟩
    · have hlqi : (1048576 : Int) < (q.size : Int) := by omega
      go_enter Tryd.func3, Tryd.ntmps3
      go_wp2
      go_ret
      exact ⟨rfl, Below.refl _ _⟩
  · have hlpi : (1048576 : Int) < (p.size : Int) := by omega
    go_enter Tryd.func3, Tryd.ntmps3
    go_wp2
    go_ret
    exact ⟨rfl, Below.refl _ _⟩

set_option maxHeartbeats 2000000 in
theorem walkDiffers (p q : ByteArray) (hp : p.size ≤ maxLen) (hq : q.size ≤ maxLen) (w : World) {N : Nat} (hL : Laid3 N w) :
    Calls Tryd.prog 5 #[.string p, .string q] w fun e w' => e = .returned (.bool true) ∧ Below w.heap.size w w' := by
  unfold maxLen at hp hq
  by_cases hlp : p.size ≤ 1048576
  · have hlpi : (p.size : Int) ≤ 1048576 := by omega
    by_cases hlq : q.size ≤ 1048576
    · have hlqi : (q.size : Int) ≤ 1048576 := by omega
      have hmod := fun W => mdiff p q (by omega) (by omega) W
      have hprog := fun (X : World) (hX : Laid3 N X) => pdiff p q X hX
      obtain ⟨zs, zb, hv⟩ := diffV_tuple p q
      simp only [hv] at hmod hprog
      clear hv
      go_enter Tryd.func5, Tryd.ntmps5
      go_wp2_with (first
        | (go_at_call 15; refine (hmod _).mono ?_; rintro e W1 ⟨rfl, hb1⟩; have hL1 := hL.below hb1 hL.lt)
        | (go_at_call 16; refine (hprog _ hL1).mono ?_; rintro e W2 ⟨rfl, hb2⟩))
      go_ret
      exact ⟨rfl, hb1.trans (hb2.mono hb1.size)⟩
    · have hlqi : (1048576 : Int) < (q.size : Int) := by omega
      go_enter Tryd.func5, Tryd.ntmps5
      go_wp2
      go_ret
      exact ⟨rfl, Below.refl _ _⟩
  · have hlpi : (1048576 : Int) < (p.size : Int) := by omega
    go_enter Tryd.func5, Tryd.ntmps5
    go_wp2
    go_ret
    exact ⟨rfl, Below.refl _ _⟩

end Go.Proofs.YtmgfdicmmldjfaaDoor

