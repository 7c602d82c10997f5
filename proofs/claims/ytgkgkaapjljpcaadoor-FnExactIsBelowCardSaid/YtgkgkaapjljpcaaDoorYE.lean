/- Chapter 11, the model: SameResults. -/
import Derived.Test.YtgkgkaapjljpcaaDoorYD
namespace Go.Proofs.YtgkgkaapjljpcaaDoor
open Go.ChangeShapes Go.WideShapes Go.ChangeAt Go.RowKit Go.Shelf
attribute [local go_sem] Oper.semAt_some
set_option maxRecDepth 100000

theorem diffV_tuple (p q : ByteArray) : ∃ s b, diffV p q = .tuple #[.int .i64 s, .bool b] := by
  unfold diffV diffR
  split
  · split <;> exact ⟨_, _, rfl⟩
  · exact ⟨_, _, rfl⟩
theorem diffR_same {r u : Nat → Nat × Nat} : ∃ s, diffR r u = .tuple #[.int .i64 s, .bool (!((List.range 9).all (sameAt r u)))] := by
  cases h : (List.range 9).all (sameAt r u) with
  | true =>
    have hall : ∀ j, j < 9 → sameAt r u j = true := fun j hj => List.all_eq_true.1 h j (List.mem_range.2 hj)
    exact ⟨0, by unfold diffR; rw [firstD_none hall]; rfl⟩
  | false =>
    unfold diffR
    cases hf : firstD r u with
    | some s => exact ⟨_, rfl⟩
    | none =>
      exfalso
      unfold firstD at hf
      rw [List.find?_eq_none] at hf
      have : (List.range 9).all (sameAt r u) = true := List.all_eq_true.2 fun x hx => by have := hf x hx; simpa using this
      rw [h] at this; cases this
set_option maxHeartbeats 2000000 in
theorem msame (p q : ByteArray) (hp : p.size ≤ 9000000) (hq : q.size ≤ 9000000) (w : World) :
    Calls Tryd.prog 53 #[.string p, .string q] w fun e w' => e = .returned (.bool (sameZ p q)) ∧ Below w.heap.size w w' := by
  have hd := mdiff p q hp hq
  have h1 := valid21 p hp
  have h2 := valid21 q hq
  have key : ∃ s b, diffV p q = .tuple #[.int .i64 s, .bool b] ∧ sameZ p q = (isP p.toList && (isP q.toList && !b)) := by
    unfold diffV sameZ isP
    cases hP : readP p.toList with
    | none => exact ⟨_, _, rfl, rfl⟩
    | some a =>
      cases hQ : readP q.toList with
      | none => exact ⟨_, _, rfl, rfl⟩
      | some b =>
        obtain ⟨s, hs⟩ := @diffR_same (runR a) (runR b)
        exact ⟨s, _, hs, by simp⟩
  obtain ⟨s, b, e1, e2⟩ := key
  rw [e2]
  simp only [e1] at hd
  clear e1 e2
  generalize isP p.toList = v1 at h1 ⊢
  generalize isP q.toList = v2 at h2 ⊢
  cases v1 with
  | false =>
    go_enter Tryd.func53, Tryd.ntmps53
    go_wp2_with (first
      | (go_at_call 83; refine (hd _).mono ?_; rintro e W1 ⟨rfl, b1⟩)
      | (go_at_call_of 84 (Value.string p); refine (h1 _).mono ?_; rintro e W2 ⟨rfl, b2⟩))
    go_ret
    exact ⟨rfl, b1.trans (b2.mono b1.size)⟩
  | true =>
    cases v2 with
    | false =>
      go_enter Tryd.func53, Tryd.ntmps53
      go_wp2_with (first
        | (go_at_call 83; refine (hd _).mono ?_; rintro e W1 ⟨rfl, b1⟩)
        | (go_at_call_of 84 (Value.string p); refine (h1 _).mono ?_; rintro e W2 ⟨rfl, b2⟩)
        | (go_at_call_of 84 (Value.string q); refine (h2 _).mono ?_; rintro e W3 ⟨rfl, b3⟩))
      go_ret
      have c2 := b1.trans (b2.mono b1.size)
      exact ⟨rfl, c2.trans (b3.mono c2.size)⟩
    | true =>
      go_enter Tryd.func53, Tryd.ntmps53
      go_wp2_with (first
        | (go_at_call 83; refine (hd _).mono ?_; rintro e W1 ⟨rfl, b1⟩)
        | (go_at_call_of 84 (Value.string p); refine (h1 _).mono ?_; rintro e W2 ⟨rfl, b2⟩)
        | (go_at_call_of 84 (Value.string q); refine (h2 _).mono ?_; rintro e W3 ⟨rfl, b3⟩))
      go_ret
      have c2 := b1.trans (b2.mono b1.size)
      exact ⟨rfl, c2.trans (b3.mono c2.size)⟩
end Go.Proofs.YtgkgkaapjljpcaaDoor

