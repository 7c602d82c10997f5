/- Chapter 11: the walks of exact laws (wip/tools/mkZW.py). -/
import Derived.Test.YtgkgkaapjljpcaaDoorZT
namespace Go.Proofs.YtgkgkaapjljpcaaDoor
open Go.ChangeShapes Go.WideShapes Go.ChangeAt Go.RowKit Go.Shelf
attribute [local go_sem] Oper.semAt_some
set_option maxRecDepth 100000

set_option maxHeartbeats 2000000 in
theorem walkSimplerTop (t : ByteArray) (hm : t.size ≤ maxLen) (w : World) {N : Nat} (hL : Laid3 N w) :
    Calls Tryd.prog 8 #[.string t] w fun e w' => e = .returned (.bool true) ∧ Below w.heap.size w w' := by
  unfold maxLen at hm
  by_cases hlt : t.size ≤ 1048576
  · have hlti : (t.size : Int) ≤ 1048576 := by omega
    have hmod := fun W => mstop t (by omega) W
    have hprog := fun (X : World) (hX : Laid3 N X) => pstop t X hX
    obtain ⟨zs, zb, hv⟩ := topV_tuple t
    simp only [hv] at hmod hprog
    clear hv
    go_enter Tryd.func8, Tryd.ntmps8
    go_wp2_with (first
      | (go_at_call 26; refine (hmod _).mono ?_; rintro e W1 ⟨rfl, hb1⟩; have hL1 := hL.below hb1 hL.lt)
      | (go_at_call 27; refine (hprog _ hL1).mono ?_; rintro e W2 ⟨rfl, hb2⟩))
    go_ret
    exact ⟨rfl, hb1.trans (hb2.mono hb1.size)⟩
  · have hlti : (1048576 : Int) < (t.size : Int) := by omega
    go_enter Tryd.func8, Tryd.ntmps8
    go_wp2
    go_ret
    exact ⟨rfl, Below.refl _ _⟩

end Go.Proofs.YtgkgkaapjljpcaaDoor

