/- Chapter 5, the program: the answers on one triple. -/
import Derived.Test.YtpepaobgngighabGreatDoorTG
import Derived.Test.YtpepaobgngighabGreatDoorTN
namespace Go.Proofs.YtpepaobgngighabGreatDoor
open Go.ChangeShapes Go.WideShapes Go.ChangeAt Go.RowKit Go.Shelf Go.Maps
attribute [local go_sem] Oper.semAt_some
set_option maxRecDepth 100000

theorem psure22 (b : Int) (p : ByteArray) (x r : Int) (W : World) {N : Nat} (hL : Laid3 N W) (hE : NoTrip N W) :
    Calls Tryz.prog 20 #[.agg #[.int .i64 b, .string p, .int .i64 x, .int .i64 r]] W fun e W' => e = .returned (.bool (sureT b p x r)) ∧ Below W.heap.size W W' := by
  have hA : Below W.heap.size W (W.alloc (.cells #[.int .i64 b, .string p, .int .i64 x, .int .i64 r] 25)) := (Below.refl _ W).alloc (Nat.le_refl _) _
  have hL1 := hL.below hA hL.lt
  have hE1 := hE.below hA hL.lt
  cases hv : validT b p x r with
  | false =>
    rw [(sure_no hv).1]
    have H := fun k => pkind_no b p x r k _ hL1 hE1 hv
    clear hv
    go_enter Tryz.func20, Tryz.ntmps20
    go_wp2_with (go_at_call 31; refine (H _).mono ?_; rintro e W1 ⟨rfl, hb⟩)
    go_ret
    exact ⟨rfl, hA.trans (hb.mono hA.size)⟩
  | true =>
    rw [(sure_yes hv).1]
    have H := pkind_sure b p x r _ hL1 hv
    clear hv
    generalize reachN p b x = z at H ⊢
    go_enter Tryz.func20, Tryz.ntmps20
    go_wp2_with (go_at_call 31; refine H.mono ?_; rintro e W1 ⟨rfl, hb⟩)
    go_ret
    exact ⟨rfl, hA.trans (hb.mono hA.size)⟩




end Go.Proofs.YtpepaobgngighabGreatDoor

