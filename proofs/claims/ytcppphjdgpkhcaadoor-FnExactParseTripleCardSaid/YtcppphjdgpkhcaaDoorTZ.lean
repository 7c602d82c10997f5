/- Chapter 5: the walk of the exact law on the reading of triples. -/
import Derived.Test.YtcppphjdgpkhcaaDoorTW
import Derived.Test.YtcppphjdgpkhcaaDoorTV
namespace Go.Proofs.YtcppphjdgpkhcaaDoor
open Go.ChangeShapes Go.WideShapes Go.ChangeAt Go.RowKit Go.Shelf Go.Maps
attribute [local go_sem] Oper.semAt_some
set_option maxRecDepth 100000

set_option maxHeartbeats 2000000 in
theorem walkParseTriple (t : ByteArray) (hm : t.size ≤ maxLen) (w : World) {N : Nat} (hL : LaidT N w) :
    Calls Tryd.prog 3 #[.string t] w fun e w' => e = .returned (.bool true) ∧ Below w.heap.size w w' := by
  unfold maxLen at hm
  by_cases hlt : t.size ≤ 1048576
  · have hti : (t.size : Int) ≤ 1048576 := by omega
    have hmod := fun X => mtry22 t hlt X
    have hprog := fun (X : World) (hX : LaidT N X) => ptry17 t hlt X hX
    generalize gotT t = T at hmod hprog
    generalize okT t = ok at hmod hprog
    obtain ⟨b, p, x, r⟩ := T
    unfold tripV at hmod hprog
    dsimp only at hmod hprog
    have hq := fun X => eq20 b p x r X
    go_enter Tryd.func3, Tryd.ntmps3
    go_wp2_with fail
    go_at_call 5
    refine (hmod _).mono ?_
    rintro e W1 ⟨rfl, b1⟩
    have hT := TripAt.new W1 b p x r
    have hw := b1.alloc b1.size (.cells #[.int .i64 b, .string p, .int .i64 x, .int .i64 r] 23)
    go_wp2_with fail
    go_at_call 6
    refine (hprog _ (hL.below hw hL.lt)).mono ?_
    rintro e W2 ⟨rfl, b2⟩
    have hT2 := hT.below b2 hT.lt
    have B2 := hw.trans (b2.mono hw.size)
    have hX : Below W2.heap.size W2 (W2.alloc (.cells #[.int .i64 b, .string p, .int .i64 x, .int .i64 r] 23)) := (Below.refl _ W2).alloc (Nat.le_refl _) _
    have hT3 := hT2.below hX hT2.lt
    have hU3 := TripAt.new W2 b p x r
    have B3 := B2.trans (hX.mono B2.size)
    obtain ⟨s0, s1, s2, s3⟩ := hT2.cells
    obtain ⟨c0, c1, c2, c3⟩ := hT3.cells
    obtain ⟨d0, d1, d2, d3⟩ := hU3.cells
    clear hT hw hT2 hX B2
    go_wp2_with fail
    go_at_call 7
    refine (hq _).mono ?_
    rintro e W3 ⟨rfl, b3⟩
    have B4 := B3.trans (b3.mono B3.size)
    go_wp2_with fail
    go_ret
    exact ⟨rfl, B4⟩
  · have hti : (1048576 : Int) < (t.size : Int) := by omega
    go_enter Tryd.func3, Tryd.ntmps3
    go_wp2
    go_ret
    exact ⟨rfl, Below.refl _ _⟩
end Go.Proofs.YtcppphjdgpkhcaaDoor

