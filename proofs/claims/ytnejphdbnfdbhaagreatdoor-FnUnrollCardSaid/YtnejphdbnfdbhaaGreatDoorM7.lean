/- The model's answers on what is reached: from a set, from a state; does it fail, stick, have one result. -/
import Derived.Test.YtnejphdbnfdbhaaGreatDoorM6
namespace Go.Proofs.YtnejphdbnfdbhaaGreatDoor
open Go.ChangeShapes Go.WideShapes Go.ChangeAt Go.RowKit Go.Shelf
attribute [local go_sem] Oper.semAt_some
set_option maxRecDepth 100000

theorem reach_true {t : ByteArray} {s x : Int} (h : reachB t s x = true) : ∃ nd m, readP t.toList = some nd ∧ m < 512 ∧ s = ((m : Nat) : Int) ∧ (x = 0 ∨ x = 1) ∧ reachN t s x = ((exitN x (runR nd m) : Nat) : Int) := by
  unfold reachB at h
  simp only [Bool.and_eq_true] at h
  obtain ⟨⟨h1, h2⟩, h3⟩ := h
  obtain ⟨nd, hP⟩ := Option.isSome_iff_exists.1 h1
  obtain ⟨m, hm, rfl⟩ := set_nat h2
  have hx : x = 0 ∨ x = 1 := by have := of_decide_eq_true h3; omega
  exact ⟨nd, m, hP, hm, rfl, hx, (reach_ok hP hm hx).1⟩
theorem reach_false {t : ByteArray} {s x : Int} (h : reachB t s x = false) : reachN t s x = 0 := by
  cases hP : readP t.toList with
  | none => exact (reach_none hP s x).1
  | some nd =>
    refine (reach_bad ?_).1
    unfold reachB at h
    rw [hP] at h
    simpa using h

theorem shl_state {n : Nat} (hn : n ≤ 8) : wrap64 (2 ^ n) = ((2 ^ n : Nat) : Int) := shl_nat n hn
theorem from_false {t : ByteArray} {s : Int} (h : isSt s = false) (x : Int) : fromN t s x = 0 ∧ fromB t s x = false := by unfold fromN fromB; rw [h]; exact ⟨rfl, rfl⟩
theorem from_true {t : ByteArray} {n : Nat} (h : n ≤ 8) (x : Int) : fromN t (n : Int) x = reachN t (((2 : Nat) ^ n : Nat) : Int) x ∧ fromB t (n : Int) x = reachB t (((2 : Nat) ^ n : Nat) : Int) x := by
  have hs : isSt (n : Int) = true := inB_yes (by omega)
  unfold fromN fromB
  rw [hs, Int.toNat_natCast]
  exact ⟨rfl, rfl⟩

end Go.Proofs.YtnejphdbnfdbhaaGreatDoor

