/- Chapter 8: what is drawn for the laws on states backwards. -/
import Derived.Test.YtpepaobgngighaaGreatDoorDR
namespace Go.Proofs.YtpepaobgngighaaGreatDoor
open Go.ChangeShapes Go.WideShapes Go.ChangeAt Go.RowKit Go.Shelf
set_option maxRecDepth 100000
attribute [local go_sem] Oper.semAt_some

theorem drawC8 {B : Nat} {W : World} {a : Option Addr} {len cap : Nat} (h : Code B W a len cap) (hB : B ≤ W.heap.size) :
    Calls Tryz.prog 5 #[.slice a len cap] W fun e W' => ∃ (p : ByteArray) (s x : Int), p.size ≤ 130 ∧ e = .returned (.tuple #[.string p, .int .i64 x, .int .i64 s]) ∧ Below W.heap.size W W' := by
  go_enter Tryz.func5, Tryz.ntmps5
  go_wp2_with fail
  go_at_call 21
  refine (open33 h hB).mono ?_
  rintro e W1 ⟨rfl, h1, b1, _⟩
  go_wp2_with fail
  go_at_call 22
  refine (any38 h1 (by omega)).mono ?_
  rintro e W2 ⟨p, hp, rfl, ⟨j, hj, h2⟩, g2⟩
  go_wp2_with fail
  go_at_call 23
  refine (exit24 h2 (by omega)).mono ?_
  rintro e W3 ⟨x, rfl, ⟨j3, hj3, h3⟩, g3⟩
  go_wp2_with fail
  go_at_call 24
  refine (draw32 h3 (by omega)).mono ?_
  rintro e W4 ⟨s, rfl, _, g4⟩
  go_wp2_with fail
  refine bodyPost_ret (v := .tuple #[.string p, .int .i64 x, .int .i64 s]) (by simp [results, Tryz.results5, go_sem]) rfl ?_
  exact ⟨p, s, x, hp.2, rfl, ((b1.trans g2).trans g3).trans g4⟩
end Go.Proofs.YtpepaobgngighaaGreatDoor

