/- Chapter 9: the walks of the exact laws: what is reached with so many times. -/
import Derived.Test.YtnejphdbnfdbhaaDoorUJ
import Derived.Test.YtnejphdbnfdbhaaDoorUG
namespace Go.Proofs.YtnejphdbnfdbhaaDoor
open Go.ChangeShapes Go.WideShapes Go.ChangeAt Go.RowKit Go.Shelf
attribute [local go_sem] Oper.semAt_some
set_option maxRecDepth 100000

set_option maxHeartbeats 2000000 in
theorem walkReachedIn (t : ByteArray) (s x k : Int) (hm : t.size ≤ maxLen) (w : World) {N : Nat} (hL : Laid3 N w) :
    Calls Tryd.prog 3 #[.string t, .int .i64 s, .int .i64 x, .int .i64 k] w fun e w' => e = .returned (.bool true) ∧ Below w.heap.size w w' := by
  unfold maxLen at hm
  by_cases hlt : t.size ≤ 1048576
  · have hlti : (t.size : Int) ≤ 1048576 := by omega
    have hmod := fun W => mreachin t (by omega) s x k W
    have hprog := fun (X : World) (hX : Laid3 N X) => pin t s x k X hX
    generalize inN t s x k = z at hmod hprog
    generalize inOk t s x k = b at hmod hprog
    go_enter Tryd.func3, Tryd.ntmps3
    go_wp2_with (first
      | (go_at_call 8; refine (hmod _).mono ?_; rintro e W1 ⟨rfl, hb1⟩; have hL1 := hL.below hb1 hL.lt)
      | (go_at_call 9; refine (hprog _ hL1).mono ?_; rintro e W2 ⟨rfl, hb2⟩))
    go_ret
    exact ⟨rfl, hb1.trans (hb2.mono hb1.size)⟩
  · have hlti : (1048576 : Int) < (t.size : Int) := by omega
    go_enter Tryd.func3, Tryd.ntmps3
    go_wp2
    go_ret
    exact ⟨rfl, Below.refl _ _⟩
end Go.Proofs.YtnejphdbnfdbhaaDoor

