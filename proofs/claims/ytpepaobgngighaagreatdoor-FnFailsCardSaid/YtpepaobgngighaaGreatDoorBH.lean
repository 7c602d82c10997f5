/- Chapter 8, plain words: from where programs fail and are safe; what is drawn for the law. -/
import Derived.Test.YtpepaobgngighaaGreatDoorBC
import Derived.Test.YtpepaobgngighaaGreatDoorDC
import Derived.Test.YtpepaobgngighaaGreatDoorR7
namespace Go.Proofs.YtpepaobgngighaaGreatDoor
open Go.ChangeShapes Go.WideShapes Go.ChangeAt Go.RowKit Go.Shelf
set_option maxRecDepth 100000
attribute [local go_sem] Oper.semAt_some

theorem and511 : ∀ z : Fin 512, z.val &&& 511 = z.val := by decide +kernel
theorem and_all {z : Nat} (h : z < 512) : z &&& 511 = z := and511 ⟨z, h⟩
theorem compl9o : ∀ c : Fin 512, (bits .or .i64 (c.val : Int) ((511 - c.val : Nat) : Int) = 511) ∧ (bits .and .i64 (c.val : Int) ((511 - c.val : Nat) : Int) = 0) := by decide +kernel
theorem compl_or {c : Nat} (h : c < 512) : bits .or .i64 (c : Int) ((511 - c : Nat) : Int) = 511 ∧ bits .and .i64 (c : Int) ((511 - c : Nat) : Int) = 0 := compl9o ⟨c, h⟩
/-- Does a program fail from a state: is the state among those from which it does. -/
theorem fail_bit (nd : Node) (hok : nd.ok) {s : Nat} (hs : s < 9) : (canN nd 1 511).testBit s = (exitN 1 (runR nd (2 ^ s)) != 0) := by
  rw [can_bit nd 1 511 hs, and_all (exit_lt nd hok 1 (pow9 hs))]
theorem fail_some (nd : Node) (hok : nd.ok) : (canN nd 1 511 != 0) = failsP nd := by
  have hl := canN_lt nd 1 511
  have hm := meet_bit (canN nd 1 511) (m := 511) (by omega)
  rw [and_all hl] at hm
  rw [Bool.eq_iff_iff, hm]
  unfold failsP
  rw [List.any_eq_true]
  constructor
  · rintro ⟨s, hs, _, h⟩
    refine ⟨s, List.mem_range.2 hs, ?_⟩
    rw [fail_bit nd hok hs] at h
    exact h
  · rintro ⟨s, hs, h⟩
    have hs := List.mem_range.1 hs
    refine ⟨s, hs, ?_, ?_⟩
    · have := compl_bit (m := 0) (by omega) s
      rw [show 511 - 0 = 511 from rfl, decide_eq_true hs, Nat.zero_testBit] at this
      exact this
    · rw [fail_bit nd hok hs]; exact h
/-- From safe states there is no error. -/
theorem safe_none (nd : Node) (hok : nd.ok) : exitN 1 (runR nd (511 - canN nd 1 511)) = 0 := by
  have h := only_all nd hok 1 (m := 0) (by omega)
  rw [show 511 - 0 = 511 from rfl, Nat.or_zero] at h
  exact h

theorem drawM8 {B : Nat} {W : World} {a : Option Addr} {len cap : Nat} (h : Code B W a len cap) (hB : B ≤ W.heap.size) :
    Calls Tryz.prog 12 #[.slice a len cap] W fun e W' => ∃ p : ByteArray, p.size ≤ 130 ∧ e = .returned (.string p) ∧ Below W.heap.size W W' := by
  go_enter Tryz.func12, Tryz.ntmps12
  go_wp2_with fail
  go_at_call 21
  refine (open33 h hB).mono ?_
  rintro e W1 ⟨rfl, h1, b1, _⟩
  go_wp2_with fail
  go_at_call 37
  refine (pick36 h1 (by omega) (by omega) (by omega)).mono ?_
  rintro e W3 ⟨y, rfl, a1, e1, h3, g3⟩
  have hG := below_of_grown g3 (by have := h1.lt; omega)
  clear g3
  by_cases q0 : y = 0
  · subst q0
    go_wp2_with fail
    go_at_call 38
    refine Calls.mono (ofPnew (P := fun t => t.size ≤ 130) h3 (by omega) _ 5 ?_ (by omega) (by omega) ?_) ?_
    · rfl
    · intro v hv
      simp at hv
      rcases hv with rfl | rfl | rfl | rfl | rfl <;> exact ⟨_, by decide, rfl⟩
    rintro e W4 ⟨t, ht, rfl, h4, g4⟩
    go_wp2_with fail
    go_ret
    exact ⟨t, ht, rfl, (b1.trans hG).trans g4⟩
  · have n0 : (y == 0) = false := by simpa using q0
    go_wp2_with fail
    go_at_call 22
    refine (any38 h3 (by omega)).mono ?_
    rintro e W4 ⟨p, hp, rfl, ⟨j, hj, h4⟩, g4⟩
    go_wp2_with fail
    go_ret
    exact ⟨p, hp.2, rfl, (b1.trans hG).trans g4⟩
end Go.Proofs.YtpepaobgngighaaGreatDoor

