/- Chapter 5, the model: whether a triple is one, what it reaches, sure, always, missing, surplus, most. -/
import Derived.Test.YtpepaobgngighabGreatDoorTE
import Derived.Test.YtpepaobgngighabGreatDoorM7
namespace Go.Proofs.YtpepaobgngighabGreatDoor
open Go.ChangeShapes Go.WideShapes Go.ChangeAt Go.RowKit Go.Shelf
attribute [local go_sem] Oper.semAt_some
set_option maxRecDepth 100000

set_option maxHeartbeats 2000000 in
theorem mtvalid (b : Int) (p : ByteArray) (hp : p.size ≤ 9000000) (x r : Int) (w : World) :
    Calls Tryz.prog 29 #[.agg #[.int .i64 b, .string p, .int .i64 x, .int .i64 r]] w fun e w' => e = .returned (.bool (validT b p x r)) ∧ Below w.heap.size w w' := by
  have hA : Below w.heap.size w (w.alloc (.cells #[.int .i64 b, .string p, .int .i64 x, .int .i64 r] 25)) := (Below.refl _ w).alloc (Nat.le_refl _) _
  have hT := TripAt.new w b p x r
  have hP := fun (X : World) => valid21 p hp X
  cases h0 : isSet b with
  | false =>
    rw [valid_no0 p x r h0]
    have H0 := Lib.hid h0
    clear h0 hP
    go_enter Tryz.func29, Tryz.ntmps29
    go_wp2_with (go_at_call 41; refine (sv25 _ _).mono ?_; rintro e w' ⟨rfl, rfl⟩; rw [H0.out])
    go_ret
    exact ⟨rfl, hA⟩
  | true =>
    cases h1 : isP p.toList with
    | false =>
      rw [valid_no1 b x r h1]
      rw [h1] at hP
      have H0 := Lib.hid h0
      clear h0 h1
      go_enter Tryz.func29, Tryz.ntmps29
      go_wp2_with (first
        | (go_at_call 41; refine (sv25 _ _).mono ?_; rintro e w' ⟨rfl, rfl⟩; rw [H0.out])
        | (go_at_call 42; refine (hP _).mono ?_; rintro e W1 ⟨rfl, hb⟩))
      go_ret
      exact ⟨rfl, hA.trans (hb.mono hA.size)⟩
    | true =>
      rw [h1] at hP
      cases h2 : inB x 0 1 with
      | false =>
        rw [valid_no2 b p r h2]
        have HX := Lib.hid h2
        have H0 := Lib.hid h0
        clear h0 h1 h2
        go_enter Tryz.func29, Tryz.ntmps29
        go_wp2_with (first
          | (go_at_call 41; refine (sv25 _ _).mono ?_; rintro e w' ⟨rfl, rfl⟩; rw [H0.out])
          | (go_at_call 42; refine (hP _).mono ?_; rintro e W1 ⟨rfl, hb⟩; obtain ⟨c0, c1, c2, c3⟩ := (hT.below hb hT.lt).cells)
          | (go_at_call 43; refine (inB40 _ _ _ _).mono ?_; rintro e w' ⟨rfl, rfl⟩; rw [show inB x 0 1 = false from HX.out]))
        go_ret
        exact ⟨rfl, hA.trans (hb.mono hA.size)⟩
      | true =>
        rw [valid_yes3 r h0 h1 h2]
        have HX := Lib.hid h2
        have H0 := Lib.hid h0
        clear h0 h1 h2
        go_enter Tryz.func29, Tryz.ntmps29
        go_wp2_with (first
          | (go_at_call_of 41 (Value.int IntKind.i64 b); refine (sv25 b _).mono ?_; rintro e w' ⟨rfl, rfl⟩; rw [H0.out])
          | (go_at_call 42; refine (hP _).mono ?_; rintro e W1 ⟨rfl, hb⟩; obtain ⟨c0, c1, c2, c3⟩ := (hT.below hb hT.lt).cells)
          | (go_at_call 43; refine (inB40 _ _ _ _).mono ?_; rintro e w' ⟨rfl, rfl⟩; rw [show inB x 0 1 = true from HX.out])
          | (go_at_call 41; refine (sv25 r _).mono ?_; rintro e w' ⟨rfl, rfl⟩))
        go_ret
        exact ⟨rfl, hA.trans (hb.mono hA.size)⟩

set_option maxHeartbeats 2000000 in
theorem mreached5 (b : Int) (p : ByteArray) (hp : p.size ≤ 9000000) (x r : Int) (w : World) :
    Calls Tryz.prog 30 #[.agg #[.int .i64 b, .string p, .int .i64 x, .int .i64 r]] w fun e w' => e = .returned (.int .i64 (reachN p b x)) ∧ Below w.heap.size w w' := by
  have hA : Below w.heap.size w (w.alloc (.cells #[.int .i64 b, .string p, .int .i64 x, .int .i64 r] 25)) := (Below.refl _ w).alloc (Nat.le_refl _) _
  have H := fun X => mreach9 p hp b x X
  generalize reachN p b x = z at H ⊢
  generalize reachB p b x = o at H
  go_enter Tryz.func30, Tryz.ntmps30
  go_wp2_with (go_at_call 44; refine (H _).mono ?_; rintro e W1 ⟨rfl, hb⟩)
  go_ret
  exact ⟨rfl, hA.trans (hb.mono hA.size)⟩

theorem sure_no {b : Int} {p : ByteArray} {x r : Int} (h : validT b p x r = false) : sureT b p x r = false ∧ alwaysT b p x r = false ∧ missT b p x r = 0 ∧ surpT b p x r = 0 := by
  unfold sureT alwaysT missT surpT; rw [h]; exact ⟨rfl, rfl, rfl, rfl⟩
theorem sure_yes {b : Int} {p : ByteArray} {x r : Int} (h : validT b p x r = true) : sureT b p x r = (bits .andNot .i64 r (reachN p b x) == 0) ∧ alwaysT b p x r = (bits .andNot .i64 (reachN p b x) r == 0) ∧
    missT b p x r = bits .andNot .i64 r (reachN p b x) ∧ surpT b p x r = bits .andNot .i64 (reachN p b x) r := by
  unfold sureT alwaysT missT surpT; rw [h]; exact ⟨rfl, rfl, rfl, rfl⟩

end Go.Proofs.YtpepaobgngighabGreatDoor

