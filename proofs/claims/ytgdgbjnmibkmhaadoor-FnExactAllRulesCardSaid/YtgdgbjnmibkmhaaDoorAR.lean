/- Chapter 6: the walk of the exact law on the words of the rules. -/
import Derived.Test.YtgdgbjnmibkmhaaDoorTI
import Derived.Test.YtgdgbjnmibkmhaaDoorGA
import Derived.Test.YtgdgbjnmibkmhaaDoorTF
namespace Go.Proofs.YtgdgbjnmibkmhaaDoor
open Go.ChangeShapes Go.WideShapes Go.ChangeAt Go.RowKit Go.Shelf Go.Maps
set_option maxRecDepth 100000
attribute [local go_sem] Oper.semAt_some

theorem trow_rules {W : World} {B : Nat} {v : Value} (h : W.ownsRow B 9 1 v 11 (texts rulesL)) : TRow W B v rulesL := h
theorem own_baseR {W : World} {B B' : Nat} {v : Value} {ws : List (List UInt8)} (h : TRow W B v ws) (hB : B' ≤ B) : TRow W B' v ws := by
  obtain ⟨h1, h2⟩ := h
  refine ⟨h1, ?_⟩
  rcases h2 with h2 | ⟨g, cap, cur, a, b, c⟩
  · exact .inl h2
  · exact .inr ⟨g, cap, cur, a, Nat.le_trans hB b, c⟩

set_option maxHeartbeats 2000000 in
theorem walkAllRules (w : World) {N : Nat} (_ : Laid3 N w) (_ : NoTrip N w) :
    Calls Tryd.prog 3 #[] w fun e w' => e = .returned (.bool true) ∧ Below w.heap.size w w' := by
  have L0 : rulesL.length ≤ 999990 := by decide
  have L1 : (rulesL.length : Int) ≤ 999990 := by omega
  go_enter Tryd.func3, Tryd.ntmps3
  go_wp2_with fail
  go_at_call 5
  refine (mrules32 _).mono ?_
  rintro e W1 ⟨v0, rfl, o0, b1⟩
  have r0 := trow_rules o0
  clear o0
  go_wp2_with fail
  go_at_call 6
  refine (prules31 _).mono ?_
  rintro e W2 ⟨v1, rfl, o1, b2⟩
  have r1 := trow_rules o1
  have r0a := r0.below b2
  have ap := r0.apart r1
  have B2 := b1.trans (b2.mono b1.size)
  clear o1
  go_wp2_with fail
  go_at_call 7
  refine (teq29 r1 r0a).mono ?_
  rintro e W3 ⟨rfl, b3⟩
  have r0b := r0a.below b3
  have r1b := r1.below b3
  have B3 := B2.trans (b3.mono B2.size)
  go_wp2_with fail
  go_at_call 8
  refine (mk30 r1b L0).mono ?_
  rintro e W4 ⟨rfl, r1c, g4⟩
  have r0c := r0b.kept g4 ap
  have B4 := (own_baseR r1b b1.size).belowOf g4 B3.size B3
  go_wp2_with fail
  go_at_call 9
  refine (held31 r1c L0).mono ?_
  rintro e W5 ⟨rfl, b5⟩
  have r0d := r0c.below b5
  have r1d := r1c.below b5
  have B5 := B4.trans (b5.mono B4.size)
  go_wp2_with fail
  go_at_call 6
  refine (prules31 _).mono ?_
  rintro e W6 ⟨v2, rfl, o2, b6⟩
  have r2 := trow_rules o2
  have r0e := r0d.below b6
  have r1e := r1d.below b6
  have B6 := B5.trans (b6.mono B5.size)
  clear o2
  go_wp2_with fail
  go_at_call 7
  refine (teq29 r2 r0e).mono ?_
  rintro e W7 ⟨rfl, b7⟩
  have r1f := r1e.below b7
  have B7 := B6.trans (b7.mono B6.size)
  go_wp2_with fail
  go_at_call 9
  refine (held31 r1f L0).mono ?_
  rintro e W8 ⟨rfl, b8⟩
  go_wp2
  go_ret
  exact ⟨rfl, B7.trans (b8.mono B7.size)⟩

end Go.Proofs.YtgdgbjnmibkmhaaDoor

