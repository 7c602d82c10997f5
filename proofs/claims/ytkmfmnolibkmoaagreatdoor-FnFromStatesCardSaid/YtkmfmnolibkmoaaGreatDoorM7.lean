/- The model's answers on what is reached: from a set, from a state; does it fail, stick, have one result. -/
import Derived.Test.YtkmfmnolibkmoaaGreatDoorM6
namespace Go.Proofs.YtkmfmnolibkmoaaGreatDoor
open Go.ChangeShapes Go.WideShapes Go.ChangeAt Go.RowKit Go.Shelf
attribute [local go_sem] Oper.semAt_some
set_option maxRecDepth 100000

theorem reach_true {t : ByteArray} {s x : Int} (h : reachB t s x = true) : ∃ nd m, readP t.toList = some nd ∧ m < 512 ∧ s = ((m : Nat) : Int) ∧ (x = 0 ∨ x = 1) ∧ reachN t s x = ((exitN x (runR nd m) : Nat) : Int) := by
  unfold reachB at h
  simp only [Bool.and_eq_true] at h
  obtain ⟨⟨h1, h2⟩, h3⟩ := h
  obtain ⟨nd, hP⟩ := Option.isSome_iff_exists.1 h1
  obtain ⟨m, hm, rfl⟩ := set_nat h2
  have hx : x = 0 ∨ x = 1 := by have := of_decide_eq_true h3; omega
  exact ⟨nd, m, hP, hm, rfl, hx, (reach_ok hP hm hx).1⟩
theorem reach_false {t : ByteArray} {s x : Int} (h : reachB t s x = false) : reachN t s x = 0 := by
  cases hP : readP t.toList with
  | none => exact (reach_none hP s x).1
  | some nd =>
    refine (reach_bad ?_).1
    unfold reachB at h
    rw [hP] at h
    simpa using h

set_option maxHeartbeats 4000000 in
theorem mreach9 (t : ByteArray) (ht : t.size ≤ 9000000) (s x : Int) (w : World) :
    Calls Tryz.prog 7 #[.string t, .int .i64 s, .int .i64 x] w fun e w' => e = .returned (.tuple #[.int .i64 (reachN t s x), .bool (reachB t s x)]) ∧ Below w.heap.size w w' := by
  have hask := masked21 t ht s x
  cases hb : reachB t s x with
  | false =>
    rw [reach_false hb]
    rw [hb] at hask
    clear hb
    go_enter Tryz.func7, Tryz.ntmps7
    go_wp2_with (go_at_call 28; refine (hask _).mono ?_; rintro e W1 ⟨hb1, k, s1, ad, n, cap, rfl, hnd⟩)
    go_ret2
    exact ⟨rfl, hb1.alloc hb1.size _⟩
  | true =>
    obtain ⟨nd, m, hP, hm, rfl, hx, hn⟩ := reach_true hb
    rw [hn]
    rw [hb] at hask
    obtain ⟨hok, _⟩ := readP_iff.1 hP
    have hrun := fun W lo hi k s ad n cap h h2 => mrun23 nd hok W lo hi k s ad n cap m h h2 hm
    have hex := fun w => mexit22 (runR nd m).1 (runR nd m).2 x hx w
    have HP := Lib.hid hP
    clear hb hn hP
    generalize runR nd m = o at hrun hex ⊢
    go_enter Tryz.func7, Tryz.ntmps7
    go_wp2_with (go_at_call 28; refine (hask _).mono ?_; rintro e W1 ⟨hb1, k, s1, ad, n, cap, rfl, hnd⟩)
    have hN := (hnd nd HP.out).below ((Below.refl _ W1).alloc (Nat.le_refl _) (.cells #[.int .u8 k, .string s1, .slice ad n cap] 59)) (Nat.le_refl _)
    have H2 := hrun _ _ _ k s1 ad n cap hN (by simp)
    go_wp2_with (first
      | (go_at_call 30; refine H2.mono ?_; rintro e W2 ⟨rfl, hb2⟩)
      | (go_at_call 29; refine (hex _).mono ?_; rintro e W3 ⟨rfl, hb3⟩))
    go_ret2
    have h1 := hb1.alloc hb1.size (.cells #[.int .u8 k, .string s1, .slice ad n cap] 59)
    have h2 := h1.trans (hb2.mono h1.size)
    exact ⟨rfl, h2.trans (hb3.mono h2.size)⟩
theorem shl_state {n : Nat} (hn : n ≤ 8) : wrap64 (2 ^ n) = ((2 ^ n : Nat) : Int) := shl_nat n hn
theorem from_false {t : ByteArray} {s : Int} (h : isSt s = false) (x : Int) : fromN t s x = 0 ∧ fromB t s x = false := by unfold fromN fromB; rw [h]; exact ⟨rfl, rfl⟩
theorem from_true {t : ByteArray} {n : Nat} (h : n ≤ 8) (x : Int) : fromN t (n : Int) x = reachN t (((2 : Nat) ^ n : Nat) : Int) x ∧ fromB t (n : Int) x = reachB t (((2 : Nat) ^ n : Nat) : Int) x := by
  have hs : isSt (n : Int) = true := inB_yes (by omega)
  unfold fromN fromB
  rw [hs, Int.toNat_natCast]
  exact ⟨rfl, rfl⟩
set_option maxHeartbeats 2000000 in
theorem mnext11 (t : ByteArray) (ht : t.size ≤ 9000000) (s : Int) (w : World) :
    Calls Tryz.prog 15 #[.string t, .int .i64 s] w fun e w' => e = .returned (.tuple #[.int .i64 (fromN t s 0), .bool (fromB t s 0)]) ∧ Below w.heap.size w w' := by
  cases hs : isSt s with
  | false =>
    rw [(from_false hs 0).1, (from_false hs 0).2]
    have HS := Lib.hid hs
    clear hs
    go_enter Tryz.func15, Tryz.ntmps15
    go_wp2_with (go_at_call 34; refine (inB40 _ _ _ _).mono ?_; rintro e w' ⟨rfl, rfl⟩; rw [show inB s 0 8 = false from HS.out])
    go_ret2
    exact ⟨rfl, Below.refl _ _⟩
  | true =>
    have HS := Lib.hid hs
    have hb := of_decide_eq_true hs
    obtain ⟨n, hn, rfl⟩ : ∃ n : Nat, n ≤ 8 ∧ s = (n : Int) := ⟨s.toNat, by omega, by omega⟩
    rw [(from_true hn 0).1, (from_true hn 0).2]
    have H := fun w => mreach9 t ht (((2 : Nat) ^ n : Nat) : Int) 0 w
    have hsh := shl_state hn
    clear hb hs
    have n0 : (0 : Int) ≤ (n : Int) := by omega
    have n8 : (n : Int) ≤ 8 := by omega
    generalize (2 : Nat) ^ n = c at hsh H ⊢
    generalize reachN t (c : Int) 0 = z at H ⊢
    generalize reachB t (c : Int) 0 = b at H ⊢
    go_enter Tryz.func15, Tryz.ntmps15
    go_wp2_with (first
      | (go_at_call 34; refine (inB40 _ _ _ _).mono ?_; rintro e w' ⟨rfl, rfl⟩; rw [show inB (n : Int) 0 8 = true from HS.out])
      | (go_at_call 7; refine (H _).mono ?_; rintro e w' ⟨rfl, hb1⟩))
    go_ret2
    exact ⟨rfl, hb1⟩
set_option maxHeartbeats 2000000 in
theorem merrs13 (t : ByteArray) (ht : t.size ≤ 9000000) (s : Int) (w : World) :
    Calls Tryz.prog 16 #[.string t, .int .i64 s] w fun e w' => e = .returned (.tuple #[.int .i64 (fromN t s 1), .bool (fromB t s 1)]) ∧ Below w.heap.size w w' := by
  cases hs : isSt s with
  | false =>
    rw [(from_false hs 1).1, (from_false hs 1).2]
    have HS := Lib.hid hs
    clear hs
    go_enter Tryz.func16, Tryz.ntmps16
    go_wp2_with (go_at_call 34; refine (inB40 _ _ _ _).mono ?_; rintro e w' ⟨rfl, rfl⟩; rw [show inB s 0 8 = false from HS.out])
    go_ret2
    exact ⟨rfl, Below.refl _ _⟩
  | true =>
    have HS := Lib.hid hs
    have hb := of_decide_eq_true hs
    obtain ⟨n, hn, rfl⟩ : ∃ n : Nat, n ≤ 8 ∧ s = (n : Int) := ⟨s.toNat, by omega, by omega⟩
    rw [(from_true hn 1).1, (from_true hn 1).2]
    have H := fun w => mreach9 t ht (((2 : Nat) ^ n : Nat) : Int) 1 w
    have hsh := shl_state hn
    clear hb hs
    have n0 : (0 : Int) ≤ (n : Int) := by omega
    have n8 : (n : Int) ≤ 8 := by omega
    generalize (2 : Nat) ^ n = c at hsh H ⊢
    generalize reachN t (c : Int) 1 = z at H ⊢
    generalize reachB t (c : Int) 1 = b at H ⊢
    go_enter Tryz.func16, Tryz.ntmps16
    go_wp2_with (first
      | (go_at_call 34; refine (inB40 _ _ _ _).mono ?_; rintro e w' ⟨rfl, rfl⟩; rw [show inB (n : Int) 0 8 = true from HS.out])
      | (go_at_call 7; refine (H _).mono ?_; rintro e w' ⟨rfl, hb1⟩))
    go_ret2
    exact ⟨rfl, hb1⟩

end Go.Proofs.YtkmfmnolibkmoaaGreatDoor

