/- The law on StatesIn: both answers hold the same states, and each answer owns its memory. -/
import Derived.Test.YtopibdhfkemnmaaG
namespace Go.Proofs.Ytopibdhfkemnmaa
open Go.ChangeShapes Go.WideShapes Go.ChangeAt Go.RowKit

set_option maxHeartbeats 1000000 in
theorem walkStatesIn (a0 : Int) (w : World) :
    Calls Try.prog 9 #[.int .i64 a0] w fun e w' => e = .returned (.bool true) ∧ Below w.heap.size w w' := by
  have L0 := stL_len a0
  have L1 : ((stL a0).length : Int) ≤ 1000000 := by omega
  go_enter Try.func9, Try.ntmps9
  go_wp2_with fail
  go_at_call 13
  refine (si13 a0 _).mono ?_
  rintro e W1 ⟨v0, rfl, r0, b1⟩
  go_wp2_with fail
  go_at_call 12
  refine (si12 a0 _).mono ?_
  rintro e W2 ⟨v1, rfl, r1, b2⟩
  have r0a := r0.below b2
  have ap := r0.apart r1
  have B2 := b1.trans (b2.mono b1.size)
  go_wp2_with fail
  go_at_call 29
  refine (eq29 r1 r0a).mono ?_
  rintro e W3 ⟨rfl, b3⟩
  have r0b := r0a.below b3
  have r1b := r1.below b3
  have B3 := B2.trans (b3.mono B2.size)
  go_wp2_with fail
  go_at_call 30
  refine (mk30 r1b L0).mono ?_
  rintro e W4 ⟨rfl, r1c, g4⟩
  have r0c := r0b.kept g4 ap
  have B4 := (r1b.mono b1.size).belowOf g4 B3.size B3
  go_wp2_with fail
  go_at_call 31
  refine (held31 r1c L0).mono ?_
  rintro e W5 ⟨rfl, rfl⟩
  go_wp2_with fail
  go_at_call 12
  refine (si12 a0 _).mono ?_
  rintro e W6 ⟨v2, rfl, r2, b6⟩
  have r0d := r0c.below b6
  have r1d := r1c.below b6
  have B6 := B4.trans (b6.mono B4.size)
  go_wp2_with fail
  go_at_call 29
  refine (eq29 r2 r0d).mono ?_
  rintro e W7 ⟨rfl, b7⟩
  have r1e := r1d.below b7
  have B7 := B6.trans (b7.mono B6.size)
  go_wp2_with fail
  go_at_call 31
  refine (held31 r1e L0).mono ?_
  rintro e W8 ⟨rfl, rfl⟩
  go_wp2
  go_ret
  exact ⟨rfl, B7⟩
end Go.Proofs.Ytopibdhfkemnmaa
