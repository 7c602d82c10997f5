/- The law on FormatSet: both answers are one text. -/
import Derived.Test.YtopibdhfkemnmaaF
namespace Go.Proofs.Ytopibdhfkemnmaa
open Go.ChangeShapes Go.WideShapes Go.ChangeAt Go.RowKit

theorem setL_none {s : Int} (hs : isSet s = false) : setL s = [] := by unfold setL; rw [if_neg (by simp [hs])]
theorem setL_zero : setL 0 = [45] := by unfold setL; rw [if_pos (by decide), if_pos upTo_zero]
theorem setL_some {s : Int} (hs : isSet s = true) (h0 : s ≠ 0) : setL s = fmtL (upTo s 9) := by unfold setL; rw [if_pos hs, if_neg (upTo_ne hs h0)]
theorem setL_len (s : Int) : (setL s).length ≤ 27 := by
  unfold setL
  split
  · split
    · simp
    · have := fmtL_len (upTo s 9); have := upTo_len s 9; omega
  · simp

theorem tx44 (s : Int) (w : World) (hs : isSet s = true) :
    Calls Try.prog 44 #[.int .i64 s] w fun e w' => e = .returned (.string ⟨(setL s).toArray⟩) ∧ Below w.heap.size w w' := by
  by_cases h0 : s = 0
  · subst h0
    rw [setL_zero]
    clear hs
    go_enter Try.func44, Try.ntmps44
    go_wp2
    go_ret
    exact ⟨rfl, Below.refl _ _⟩
  · rw [setL_some hs h0]
    exact callsIn_wide.1 (tx44_in 3 (Nat.le_refl _) s w hs h0)

theorem fs27 (s : Int) (w : World) :
    Calls Try.prog 27 #[.int .i64 s] w fun e w' => e = .returned (.string ⟨(setL s).toArray⟩) ∧ Below w.heap.size w w' := by
  cases hs : isSet s with
  | false =>
    rw [setL_none hs]
    go_enter Try.func27, Try.ntmps27
    go_wp2_with (go_at_call 24; refine (sv24 _ _).mono ?_; rintro e w' ⟨rfl, rfl⟩)
    go_ret
    exact ⟨rfl, Below.refl _ _⟩
  | true =>
    go_enter Try.func27, Try.ntmps27
    go_wp2_with (first | (go_at_call 24; refine (sv24 _ _).mono ?_; rintro e w' ⟨rfl, rfl⟩) | (go_at_call 44; refine (tx44 _ _ hs).mono ?_; rintro e w' ⟨rfl, hb⟩))
    go_ret
    exact ⟨rfl, hb⟩
theorem fs26 (s : Int) (w : World) :
    Calls Try.prog 26 #[.int .i64 s] w fun e w' => e = .returned (.string ⟨(setL s).toArray⟩) ∧ Below w.heap.size w w' := by
  cases hs : isSet s with
  | false =>
    rw [setL_none hs]
    go_enter Try.func26, Try.ntmps26
    go_wp2_with (go_at_call 25; refine (sv25 _ _).mono ?_; rintro e w' ⟨rfl, rfl⟩)
    go_ret
    exact ⟨rfl, Below.refl _ _⟩
  | true => exact fs26yes s w hs

theorem walkFormatSet (a0 : Int) (w : World) :
    Calls Try.prog 5 #[.int .i64 a0] w fun e w' => e = .returned (.bool true) ∧ Below w.heap.size w w' := by
  go_enter Try.func5, Try.ntmps5
  go_wp2_with (first | (go_at_call 26; refine (fs26 _ _).mono ?_; rintro e w1 ⟨rfl, hb1⟩) | (go_at_call 27; refine (fs27 _ _).mono ?_; rintro e w2 ⟨rfl, hb2⟩))
  go_ret
  exact ⟨rfl, hb1.trans (hb2.mono hb1.size)⟩
end Go.Proofs.Ytopibdhfkemnmaa
