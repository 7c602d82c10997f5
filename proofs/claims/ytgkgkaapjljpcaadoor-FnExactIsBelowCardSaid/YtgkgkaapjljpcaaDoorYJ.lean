/- Chapter 11: the walks of exact laws (wip/tools/mkZW.py). -/
import Derived.Test.YtgkgkaapjljpcaaDoorYI
namespace Go.Proofs.YtgkgkaapjljpcaaDoor
open Go.ChangeShapes Go.WideShapes Go.ChangeAt Go.RowKit Go.Shelf
attribute [local go_sem] Oper.semAt_some
set_option maxRecDepth 100000

set_option maxHeartbeats 2000000 in
theorem walkIsBelow (p q : ByteArray) (hp : p.size ≤ maxLen) (hq : q.size ≤ maxLen) (w : World) {N : Nat} (hL : Laid3 N w) :
    Calls Tryd.prog 6 #[.string p, .string q] w fun e w' => e = .returned (.bool true) ∧ Below w.heap.size w w' := by
  unfold maxLen at hp hq
  by_cases hlp : p.size ≤ 1048576
  · have hlpi : (p.size : Int) ≤ 1048576 := by omega
    by_cases hlq : q.size ≤ 1048576
    · have hlqi : (q.size : Int) ≤ 1048576 := by omega
      have hmod := fun W => mbelow p q (by omega) (by omega) W
      have hprog := fun (X : World) (hX : Laid3 N X) => pbelow p q X hX
      generalize belowZ p q = z at hmod hprog
      go_enter Tryd.func6, Tryd.ntmps6
      go_wp2_with (first
        | (go_at_call 22; refine (hmod _).mono ?_; rintro e W1 ⟨rfl, hb1⟩; have hL1 := hL.below hb1 hL.lt)
        | (go_at_call 23; refine (hprog _ hL1).mono ?_; rintro e W2 ⟨rfl, hb2⟩))
      go_ret
      exact ⟨rfl, hb1.trans (hb2.mono hb1.size)⟩
    · have hlqi : (1048576 : Int) < (q.size : Int) := by omega
      go_enter Tryd.func6, Tryd.ntmps6
      go_wp2
      go_ret
      exact ⟨rfl, Below.refl _ _⟩
  · have hlpi : (1048576 : Int) < (p.size : Int) := by omega
    go_enter Tryd.func6, Tryd.ntmps6
    go_wp2
    go_ret
    exact ⟨rfl, Below.refl _ _⟩

end Go.Proofs.YtgkgkaapjljpcaaDoor

