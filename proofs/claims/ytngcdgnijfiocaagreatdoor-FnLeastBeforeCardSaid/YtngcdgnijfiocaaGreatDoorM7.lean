/- The model's answers on what is reached: from a set, from a state; does it fail, stick, have one result. -/
import Derived.Test.YtngcdgnijfiocaaGreatDoorM6
namespace Go.Proofs.YtngcdgnijfiocaaGreatDoor
open Go.ChangeShapes Go.WideShapes Go.ChangeAt Go.RowKit Go.Shelf
attribute [local go_sem] Oper.semAt_some
set_option maxRecDepth 100000

theorem reach_true {t : ByteArray} {s x : Int} (h : reachB t s x = true) : ∃ nd m, readP t.toList = some nd ∧ m < 512 ∧ s = ((m : Nat) : Int) ∧ (x = 0 ∨ x = 1) ∧ reachN t s x = ((exitN x (runR nd m) : Nat) : Int) := by
  unfold reachB at h
  simp only [Bool.and_eq_true] at h
  obtain ⟨⟨h1, h2⟩, h3⟩ := h
  obtain ⟨nd, hP⟩ := Option.isSome_iff_exists.1 h1
  obtain ⟨m, hm, rfl⟩ := set_nat h2
  have hx : x = 0 ∨ x = 1 := by have := of_decide_eq_true h3; omega
  exact ⟨nd, m, hP, hm, rfl, hx, (reach_ok hP hm hx).1⟩
theorem reach_false {t : ByteArray} {s x : Int} (h : reachB t s x = false) : reachN t s x = 0 := by
  cases hP : readP t.toList with
  | none => exact (reach_none hP s x).1
  | some nd =>
    refine (reach_bad ?_).1
    unfold reachB at h
    rw [hP] at h
    simpa using h

set_option maxHeartbeats 4000000 in
theorem mreach9 (t : ByteArray) (ht : t.size ≤ 9000000) (s x : Int) (w : World) :
    Calls Tryz.prog 107 #[.string t, .int .i64 s, .int .i64 x] w fun e w' => e = .returned (.tuple #[.int .i64 (reachN t s x), .bool (reachB t s x)]) ∧ Below w.heap.size w w' := by
  have hask := masked21 t ht s x
  cases hb : reachB t s x with
  | false =>
    rw [reach_false hb]
    rw [hb] at hask
    clear hb
    go_enter Tryz.func107, Tryz.ntmps107
    go_wp2_with (go_at_call 41; refine (hask _).mono ?_; rintro e W1 ⟨hb1, k, s1, ad, n, cap, rfl, hnd⟩)
    go_ret2
    exact ⟨rfl, hb1.alloc hb1.size _⟩
  | true =>
    obtain ⟨nd, m, hP, hm, rfl, hx, hn⟩ := reach_true hb
    rw [hn]
    rw [hb] at hask
    obtain ⟨hok, _⟩ := readP_iff.1 hP
    have hrun := fun W lo hi k s ad n cap h h2 => mrun23 nd hok W lo hi k s ad n cap m h h2 hm
    have hex := fun w => mexit22 (runR nd m).1 (runR nd m).2 x hx w
    have HP := Lib.hid hP
    clear hb hn hP
    generalize runR nd m = o at hrun hex ⊢
    go_enter Tryz.func107, Tryz.ntmps107
    go_wp2_with (go_at_call 41; refine (hask _).mono ?_; rintro e W1 ⟨hb1, k, s1, ad, n, cap, rfl, hnd⟩)
    have hN := (hnd nd HP.out).below ((Below.refl _ W1).alloc (Nat.le_refl _) (.cells #[.int .u8 k, .string s1, .slice ad n cap] 72)) (Nat.le_refl _)
    have H2 := hrun _ _ _ k s1 ad n cap hN (by simp)
    go_wp2_with (first
      | (go_at_call 78; refine H2.mono ?_; rintro e W2 ⟨rfl, hb2⟩)
      | (go_at_call 77; refine (hex _).mono ?_; rintro e W3 ⟨rfl, hb3⟩))
    go_ret2
    have h1 := hb1.alloc hb1.size (.cells #[.int .u8 k, .string s1, .slice ad n cap] 72)
    have h2 := h1.trans (hb2.mono h1.size)
    exact ⟨rfl, h2.trans (hb3.mono h2.size)⟩
theorem shl_state {n : Nat} (hn : n ≤ 8) : wrap64 (2 ^ n) = ((2 ^ n : Nat) : Int) := shl_nat n hn
theorem from_false {t : ByteArray} {s : Int} (h : isSt s = false) (x : Int) : fromN t s x = 0 ∧ fromB t s x = false := by unfold fromN fromB; rw [h]; exact ⟨rfl, rfl⟩
theorem from_true {t : ByteArray} {n : Nat} (h : n ≤ 8) (x : Int) : fromN t (n : Int) x = reachN t (((2 : Nat) ^ n : Nat) : Int) x ∧ fromB t (n : Int) x = reachB t (((2 : Nat) ^ n : Nat) : Int) x := by
  have hs : isSt (n : Int) = true := inB_yes (by omega)
  unfold fromN fromB
  rw [hs, Int.toNat_natCast]
  exact ⟨rfl, rfl⟩

end Go.Proofs.YtngcdgnijfiocaaGreatDoor

