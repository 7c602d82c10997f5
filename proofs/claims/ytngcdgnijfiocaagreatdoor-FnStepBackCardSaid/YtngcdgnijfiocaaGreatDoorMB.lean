/- Chapter 8, the model: from where a set can be reached, or is the only one; from where a program fails. -/
import Derived.Test.YtngcdgnijfiocaaGreatDoorBA
import Derived.Test.YtngcdgnijfiocaaGreatDoorM7
namespace Go.Proofs.YtngcdgnijfiocaaGreatDoor
open Go.ChangeShapes Go.WideShapes Go.ChangeAt Go.RowKit Go.Shelf
attribute [local go_sem] Oper.semAt_some
set_option maxRecDepth 100000

set_option maxHeartbeats 4000000 in
theorem mcan_no (t : ByteArray) (ht : t.size ≤ 9000000) (s x : Int) (w : World) (hb : reachB t s x = false) :
    Calls Tryz.prog 52 #[.string t, .int .i64 x, .int .i64 s] w fun e w' => e = .returned (.tuple #[.int .i64 0, .bool false]) ∧ Below w.heap.size w w' := by
  have hask := masked21 t ht s x
  rw [hb] at hask
  clear hb
  go_enter Tryz.func52, Tryz.ntmps52
  go_wp2_with (go_at_call 41; refine (hask _).mono ?_; rintro e W1 ⟨hb1, k, s1, ad, n, cap, rfl, hnd⟩)
  go_ret2
  exact ⟨rfl, hb1.alloc hb1.size _⟩
set_option maxHeartbeats 4000000 in
theorem mcan_yes (t : ByteArray) (ht : t.size ≤ 9000000) (m : Nat) (hm : m < 512) (x : Int) (hx : x = 0 ∨ x = 1) (w : World) {nd : Node} (hP : readP t.toList = some nd) :
    Calls Tryz.prog 52 #[.string t, .int .i64 x, .int .i64 (m : Int)] w fun e w' => e = .returned (.tuple #[.int .i64 ((canN nd x m : Nat) : Int), .bool true]) ∧ Below w.heap.size w w' := by
  have hask := masked21 t ht (m : Int) x
  rw [(reach_ok hP hm hx).2] at hask
  obtain ⟨hok, _⟩ := readP_iff.1 hP
  have hrun := fun W lo hi k s ad n cap j h h2 hj => mrun23 nd hok W lo hi k s ad n cap j h h2 hj
  have hsm := fun j hj => run_lt nd hok j hj
  have HP := Lib.hid hP
  clear hP
  unfold canN
  generalize runR nd = r at hrun hsm ⊢
  go_enter Tryz.func52, Tryz.ntmps52
  go_wp2_with (go_at_call 41; refine (hask _).mono ?_; rintro e W1 ⟨hb1, kk, s1, ad, n, cap, rfl, hnd⟩)
  have hA := hb1.alloc hb1.size (.cells #[.int .u8 kk, .string s1, .slice ad n cap] 72)
  have hN := (hnd nd HP.out).below ((Below.refl _ W1).alloc (Nat.le_refl _) (.cells #[.int .u8 kk, .string s1, .slice ad n cap] 72)) (Nat.le_refl _)
  have hX := Lies.new W1 #[.int .u8 kk, .string s1, .slice ad n cap] 72
  have hV1 : W1.heap.size ≤ (W1.alloc (.cells #[.int .u8 kk, .string s1, .slice ad n cap] 72)).heap.size := by simp
  clear hnd
  generalize W1.alloc (.cells #[.int .u8 kk, .string s1, .slice ad n cap] 72) = V at hA hN hX hV1 ⊢
  generalize W1.heap.size = g at hX hN hV1 ⊢
  go_loopw [8, 21] (fun o i wr => ∃ k : Nat, k ≤ 9 ∧ i = .int .i64 (k : Int) ∧ o = .int .i64 ((backN (fun k => exitN x (r (2 ^ k))) m k : Nat) : Int) ∧ Below V.heap.size V wr) (fun _ i _ => 9 - (intOf i).toNat)
  case atStart => exact ⟨0, by omega, rfl, rfl, Below.refl _ _⟩
  case round =>
    obtain ⟨k, hk, rfl, rfl, hB⟩ := hrel
    by_cases hlt : k < 9
    · have k8 : (k : Int) < 9 := by omega
      have k0 : (0 : Int) ≤ (k : Int) := by omega
      have hsh := shl_state (n := k) (by omega)
      have hX2 := lies_kept hB hX
      obtain ⟨c0, c1, c2, _⟩ := Var.cells hX2
      have hr2 := hrun wr _ _ kk s1 ad n cap (2 ^ k) (hN.below hB hV1) (Nat.le_trans hV1 hB.size) (pow9 hlt)
      have hs2 := hsm (2 ^ k) (pow9 hlt)
      have hhit := @backN_hit (fun k => exitN x (r (2 ^ k))) m k
      have hmiss := @backN_miss (fun k => exitN x (r (2 ^ k))) m k
      have hlt9 := backN_lt (fun k => exitN x (r (2 ^ k))) m k hk
      have hor := or_nat (backN (fun k => exitN x (r (2 ^ k))) m k) (2 ^ k) (by omega) (by have := pow9 hlt; omega)
      have hex := fun w => mexit22 (r (2 ^ k)).1 (r (2 ^ k)).2 x hx w
      have hes : exitN x (r (2 ^ k)) < 512 := by unfold exitN; split <;> first | exact hs2.2 | exact hs2.1
      change ∀ w, Calls _ _ _ w fun e w' => e = .returned (.int .i64 ((exitN x (r (2 ^ k)) : Nat) : Int)) ∧ Below w.heap.size w w' at hex
      generalize r (2 ^ k) = y at hr2 hex hhit hmiss hes
      generalize exitN x y = z at hex hhit hmiss hes
      have hand := and_nat z m (by omega) (by omega)
      generalize z &&& m = q at hand hhit hmiss
      generalize backN (fun k => exitN x (r (2 ^ k))) m k = b at hhit hmiss hor hlt9 ⊢
      generalize (2 : Nat) ^ k = c at hsh hr2 hor hhit
      have HH := Lib.hid (And.intro hhit hmiss)
      clear hhit hmiss hX2
      by_cases hq : q = 0
      · subst hq
        go_wp2_with (first
          | (go_at_call 78; refine hr2.mono ?_; rintro e W2 ⟨rfl, hb2⟩)
          | (go_at_call 77; refine (hex _).mono ?_; rintro e W3 ⟨rfl, hb3⟩))
        go_roundw
        case rel => exact ⟨k + 1, by omega, by go_num, by have hx9 := HH.out.2 (by first | rfl | trivial | simp); rw [hx9], (hB.trans (hb2.mono hB.size)).trans (hb3.mono (Nat.le_trans hB.size hb2.size))⟩
        case measure => simp [intOf]; omega
      · go_wp2_with (first
          | (go_at_call 78; refine hr2.mono ?_; rintro e W2 ⟨rfl, hb2⟩)
          | (go_at_call 77; refine (hex _).mono ?_; rintro e W3 ⟨rfl, hb3⟩))
        go_roundw
        case rel => exact ⟨k + 1, by omega, by go_num, by rw [HH.out.1 hq], (hB.trans (hb2.mono hB.size)).trans (hb3.mono (Nat.le_trans hB.size hb2.size))⟩
        case measure => simp [intOf]; omega
    · obtain rfl : k = 9 := by omega
      go_wp2
      go_ret2
      exact ⟨rfl, hA.trans (hB.mono hA.size)⟩
/-- **THE MODEL's CanReach.** -/
theorem mcan (t : ByteArray) (ht : t.size ≤ 9000000) (s x : Int) (w : World) :
    Calls Tryz.prog 52 #[.string t, .int .i64 x, .int .i64 s] w fun e w' => e = .returned (.tuple #[.int .i64 (canZ t s x), .bool (reachB t s x)]) ∧ Below w.heap.size w w' := by
  cases hb : reachB t s x with
  | false => rw [canZ_no hb]; exact mcan_no t ht s x w hb
  | true =>
    obtain ⟨nd, m, hP, hm, rfl, hx, _⟩ := reach_true hb
    rw [canZ_ok hP hm hx]
    exact mcan_yes t ht m hm x hx w hP
/-- From where a program fails, and from where it is safe. -/
theorem mfails (t : ByteArray) (ht : t.size ≤ 9000000) (w : World) :
    Calls Tryz.prog 63 #[.string t] w fun e w' => e = .returned (.tuple #[.int .i64 (canZ t 511 1), .bool (reachB t 511 1)]) ∧ Below w.heap.size w w' := by
  have H := fun w => mcan t ht 511 1 w
  generalize canZ t 511 1 = z at H ⊢
  generalize reachB t 511 1 = b at H ⊢
  go_enter Tryz.func63, Tryz.ntmps63
  go_wp2_with (go_at_call 52; refine (H _).mono ?_; rintro e w' ⟨rfl, hb1⟩)
  go_ret2
  exact ⟨rfl, hb1⟩
def manifestZ (t : ByteArray) : Bool := canZ t 511 1 == 511
end Go.Proofs.YtngcdgnijfiocaaGreatDoor

