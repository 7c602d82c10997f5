/- The walk of the exact law on the parts of programs. -/
import Derived.Test.YtemilnkglkpnjaaDoorQ18
import Derived.Test.YtemilnkglkpnjaaDoorG2
namespace Go.Proofs.YtemilnkglkpnjaaDoor
open Go.ChangeShapes Go.WideShapes Go.ChangeAt Go.RowKit Go.Shelf
attribute [local go_sem] Oper.semAt_some
set_option maxRecDepth 100000

set_option maxHeartbeats 2000000 in
theorem walkPartsOf (t : ByteArray) (hm : t.size ≤ maxLen) (w : World) {N : Nat} (hL : Laid3 N w) :
    Calls Tryd.prog 7 #[.string t] w fun e w' => e = .returned (.bool true) ∧ Below w.heap.size w w' := by
  unfold maxLen at hm
  have L2 := partsP_len t.toList
  have L0 : (partsP t.toList).length ≤ 999990 := by omega
  have L1 : ((partsP t.toList).length : Int) ≤ 999990 := by omega
  by_cases ht : t.size ≤ 1048576
  · have h1 : (t.size : Int) ≤ 1048576 := by omega
    have hmod := mparts18 t (by omega)
    have hprog := fun (X : World) (hX : Laid3 N X) => pparts15 t X hX
    obtain ⟨ps, hps⟩ : ∃ ps, ps = partsP t.toList := ⟨_, rfl⟩
    rw [← hps] at hmod L0 L1 L2
    simp only [← hps] at hprog
    clear hps
    go_enter Tryd.func7, Tryd.ntmps7
    go_wp2_with fail
    go_at_call 18
    refine (hmod _).mono ?_
    rintro e W1 ⟨v0, rfl, o0, b1⟩
    have r0 : TRow W1 w.heap.size v0 ps := o0
    have hL1 := hL.below b1 hL.lt
    clear o0
    go_wp2_with fail
    go_at_call 15
    refine (hprog _ hL1).mono ?_
    rintro e W2 ⟨v1, rfl, o1, b2⟩
    have r1 : TRow W2 W1.heap.size v1 ps := o1
    have r0a := r0.below b2
    have ap := r0.apart r1
    have B2 := b1.trans (b2.mono b1.size)
    clear o1
    go_wp2_with fail
    go_at_call 35
    refine (teq29 r1 r0a).mono ?_
    rintro e W3 ⟨rfl, b3⟩
    have r0b := r0a.below b3
    have r1b := r1.below b3
    have B3 := B2.trans (b3.mono B2.size)
    go_wp2_with fail
    go_at_call 36
    refine (mk30 r1b L0).mono ?_
    rintro e W4 ⟨rfl, r1c, g4⟩
    have r0c := r0b.kept g4 ap
    have r1m : TRow W3 w.heap.size v1 ps := own_base r1b b1.size
    have B4 := r1m.belowOf g4 B3.size B3
    go_wp2_with fail
    go_at_call 37
    refine (held31 r1c L0).mono ?_
    rintro e W5 ⟨rfl, b5⟩
    have r0d := r0c.below b5
    have r1d := r1c.below b5
    have B5 := B4.trans (b5.mono B4.size)
    have hL5 := hL.below B5 hL.lt
    go_wp2_with fail
    go_at_call 15
    refine (hprog _ hL5).mono ?_
    rintro e W6 ⟨v2, rfl, o2, b6⟩
    have r2 : TRow W6 W5.heap.size v2 ps := o2
    have r0e := r0d.below b6
    have r1e := r1d.below b6
    have B6 := B5.trans (b6.mono B5.size)
    clear o2
    go_wp2_with fail
    go_at_call 35
    refine (teq29 r2 r0e).mono ?_
    rintro e W7 ⟨rfl, b7⟩
    have r1f := r1e.below b7
    have B7 := B6.trans (b7.mono B6.size)
    go_wp2_with fail
    go_at_call 37
    refine (held31 r1f L0).mono ?_
    rintro e W8 ⟨rfl, b8⟩
    go_wp2
    go_ret
    exact ⟨rfl, B7.trans (b8.mono B7.size)⟩
  · have h1 : (1048576 : Int) < (t.size : Int) := by omega
    clear hm L0 L1 L2
    go_enter Tryd.func7, Tryd.ntmps7
    go_wp2
    go_ret
    exact ⟨rfl, Below.refl _ _⟩
end Go.Proofs.YtemilnkglkpnjaaDoor
