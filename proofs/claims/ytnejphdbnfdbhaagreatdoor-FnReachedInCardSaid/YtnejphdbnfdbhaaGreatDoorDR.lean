/- The drawn arguments of chapter 4: a program, a set and an exit; a program and a state; an exit. -/
import Derived.Test.YtnejphdbnfdbhaaGreatDoorD4
namespace Go.Proofs.YtnejphdbnfdbhaaGreatDoor
open Go.ChangeShapes Go.WideShapes Go.ChangeAt Go.RowKit Go.Shelf
set_option maxRecDepth 100000
attribute [local go_sem] Oper.semAt_some

theorem exit24 {B : Nat} {W : World} {rb k : Nat} (h : Rd B W rb k) (hk : k ≤ 900000) :
    Calls Tryz.prog 35 #[.pointer (some ⟨rb, 0, none⟩)] W (Ran B rb (k + 1) W) := by
  go_enter Tryz.func35, Tryz.ntmps35
  go_wp2_with fail
  go_at_call 68
  refine Calls.mono (num38new h (by omega) _ 8 ?_ (by omega) (by omega) ?_) ?_
  · rfl
  · intro v hv
    simp only [List.mem_cons, List.not_mem_nil, or_false] at hv
    rcases hv with rfl | rfl | rfl | rfl | rfl | rfl | rfl | rfl <;> exact ⟨_, rfl⟩
  rintro e W7 ⟨z, rfl, h7, g7⟩
  go_wp2
  go_ret
  exact ⟨z, rfl, ⟨_, by omega, h7⟩, g7⟩

theorem drawR5 {B : Nat} {W : World} {a : Option Addr} {len cap : Nat} (h : Code B W a len cap) (hB : B ≤ W.heap.size) :
    Calls Tryz.prog 59 #[.slice a len cap] W fun e W' => ∃ (p : ByteArray) (s x : Int), p.size ≤ 130 ∧ e = .returned (.tuple #[.string p, .int .i64 s, .int .i64 x]) ∧ Below W.heap.size W W' := by
  go_enter Tryz.func59, Tryz.ntmps59
  go_wp2_with fail
  go_at_call 32
  refine (open33 h hB).mono ?_
  rintro e W1 ⟨rfl, h1, b1, _⟩
  go_wp2_with fail
  go_at_call 33
  refine (any38 h1 (by omega)).mono ?_
  rintro e W2 ⟨p, hp, rfl, ⟨j, hj, h2⟩, g2⟩
  go_wp2_with fail
  go_at_call 34
  refine (draw32 h2 (by omega)).mono ?_
  rintro e W3 ⟨s, rfl, ⟨j3, hj3, h3⟩, g3⟩
  go_wp2_with fail
  go_at_call 35
  refine (exit24 h3 (by omega)).mono ?_
  rintro e W4 ⟨x, rfl, _, g4⟩
  go_wp2_with fail
  refine bodyPost_ret (v := .tuple #[.string p, .int .i64 s, .int .i64 x]) (by simp [results, Tryz.results59, go_sem]) rfl ?_
  exact ⟨p, s, x, hp.2, rfl, ((b1.trans g2).trans g3).trans g4⟩


end Go.Proofs.YtnejphdbnfdbhaaGreatDoor

