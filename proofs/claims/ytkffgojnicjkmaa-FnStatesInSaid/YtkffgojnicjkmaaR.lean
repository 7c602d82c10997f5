/- The model's drawing of arguments: each draw returns a number in its bounds and writes its own reader alone. -/
import Derived.Test.YtkffgojnicjkmaaG
import Derived.IntWalk
namespace Go.Proofs.Ytkffgojnicjkmaa
open Go.ChangeShapes Go.WideShapes Go.ChangeAt Go.RowKit

theorem xor_nat (a b : Nat) (ha : a < 4611686018427387904) (hb : b < 4611686018427387904) : bits .xor .i64 (a : Int) (b : Int) = ((a ^^^ b : Nat) : Int) := by
  have hx : a ^^^ b < 2 ^ 62 := Nat.xor_lt_two_pow (by omega) (by omega)
  have h1 : (BitVec.ofInt 64 (a : Int)).toNat = a := by
    rw [BitVec.ofInt_natCast, BitVec.toNat_ofNat]; exact Nat.mod_eq_of_lt (by omega)
  have h2 : (BitVec.ofInt 64 (b : Int)).toNat = b := by
    rw [BitVec.ofInt_natCast, BitVec.toNat_ofNat]; exact Nat.mod_eq_of_lt (by omega)
  show IntKind.i64.wrap ((BitVec.ofInt 64 (a : Int) ^^^ BitVec.ofInt 64 (b : Int)).toNat : Int) = _
  rw [BitVec.toNat_xor, h1, h2]
  exact IntWalk.i64_in _ (by omega)
theorem mixed (X n : Int) (h0 : 0 ≤ X) (h1 : X ≤ 1000000000) (n1 : 1 ≤ n) : 0 ≤ (bits .xor .i64 X (X / 64)).tmod n ∧ (bits .xor .i64 X (X / 64)).tmod n < n := by
  obtain ⟨a, rfl⟩ : ∃ a : Nat, X = (a : Int) := ⟨X.toNat, by omega⟩
  have d : ((a : Int) / 64) = ((a / 64 : Nat) : Int) := by omega
  rw [d, xor_nat a (a / 64) (by omega) (by omega)]
  rw [Int.tmod_eq_emod_of_nonneg (by omega)]
  exact ⟨Int.emod_nonneg _ (by omega), Int.emod_lt_of_pos _ (by omega)⟩

/-- What a draw leaves: a number from 0 to n - 1; the reader one further; nothing else written. -/
def PickOk (rb : Nat) (sl : Value) (k : Nat) (n : Int) (W : World) (e : Ending) (W' : World) : Prop :=
  ∃ r : Int, e = .returned (.int .i64 r) ∧ 0 ≤ r ∧ r < n ∧ W'.heap[rb]? = some (.cells #[sl, .int .i64 ((k : Int) + 1)] 54 (0, 0)) ∧ W.grownBy W' (some rb)

theorem read_step {W : World} {rb k : Nat} {sl : Value} (h : W.heap[rb]? = some (.cells #[sl, .int .i64 (k : Int)] 54 (0, 0))) :
    (W.setCell ⟨rb, 1, none⟩ (.int .i64 ((k : Int) + 1))).heap[rb]? = some (.cells #[sl, .int .i64 ((k : Int) + 1)] 54 (0, 0)) ∧ W.grownBy (W.setCell ⟨rb, 1, none⟩ (.int .i64 ((k : Int) + 1))) (some rb) := by
  refine ⟨?_, ⟨rfl, rfl, rfl, by simp, fun i _ hi => heap_setCell_other W ⟨rb, 1, none⟩ i _ (fun e => hi (by simp [e]))⟩⟩
  rw [heap_setCell_same W rb 1 _ 54 _ h]
  rfl

theorem pick_none (W : World) (rb : Nat) (a : Option Addr) (cap : Nat) (k : Nat) (n : Int) (hk : k ≤ 1000000) (n1 : 1 ≤ n)
    (hrd : W.heap[rb]? = some (.cells #[.slice a 0 cap, .int .i64 (k : Int)] 54 (0, 0))) :
    Calls Try.prog 25 #[.pointer (some ⟨rb, 0, none⟩), .int .i64 n] W (PickOk rb (.slice a 0 cap) k n W) := by
  have S := Lib.hid (read_step hrd)
  have c0 : W.cell? ⟨rb, 0, none⟩ = some (.slice a 0 cap) := by simp [World.cell?, hrd]
  have c1 : W.cell? ⟨rb, 1, none⟩ = some (.int .i64 (k : Int)) := by simp [World.cell?, hrd]
  have f1 : W.frozen? ⟨rb, 1, none⟩ = false := by simp [World.frozen?, hrd]
  have hk1 : (k : Int) ≤ 1000000 := by omega
  clear hrd
  go_enter Try.func25, Try.ntmps25
  go_wp2
  go_ret
  exact ⟨0, rfl, by omega, by omega, S.out.1, S.out.2⟩

set_option maxHeartbeats 1000000 in
theorem pick_near (W : World) (rb b off len cap : Nat) (k : Nat) (n u : Int) (hl2 : len ≤ 2000) (hkl : k < len) (n1 : 1 ≤ n) (hu : 0 ≤ u) (hu' : u ≤ 255) (hne : b ≠ rb)
    (hrd : W.heap[rb]? = some (.cells #[.slice (some ⟨b, off, none⟩) len cap, .int .i64 (k : Int)] 54 (0, 0)))
    (hc1 : W.cell? ⟨b, off + k, none⟩ = some (.int .u8 u)) :
    Calls Try.prog 25 #[.pointer (some ⟨rb, 0, none⟩), .int .i64 n] W (PickOk rb (.slice (some ⟨b, off, none⟩) len cap) k n W) := by
  have S := Lib.hid (read_step hrd)
  have c0 : W.cell? ⟨rb, 0, none⟩ = some (.slice (some ⟨b, off, none⟩) len cap) := by simp [World.cell?, hrd]
  have c1 : W.cell? ⟨rb, 1, none⟩ = some (.int .i64 (k : Int)) := by simp [World.cell?, hrd]
  have f1 : W.frozen? ⟨rb, 1, none⟩ = false := by simp [World.frozen?, hrd]
  have d1 : (W.setCell ⟨rb, 1, none⟩ (.int .i64 ((k : Int) + 1))).cell? ⟨b, off + k, none⟩ = some (.int .u8 u) := (World.cell?_setCell_other _ _ _ _ (by simp)).trans hc1
  have hk1 : (k : Int) ≤ 2000 := by omega
  have hl3 : (len : Int) ≤ 2000 := by omega
  have hl4 : ((len : Int) == 0) = false := by simp; omega
  clear hrd hc1
  go_enter Try.func25, Try.ntmps25
  go_wp2
  go_ret
  exact ⟨u % n, by first | rfl | (rw [Int.tmod_eq_emod_of_nonneg hu]; rfl), Int.emod_nonneg _ (by omega), Int.emod_lt_of_pos _ (by omega), S.out.1, S.out.2⟩

set_option maxHeartbeats 2000000 in
theorem pick_far (W : World) (rb b off len cap : Nat) (k : Nat) (n u1 u2 : Int) (hl : 0 < len) (hl2 : len ≤ 2000) (hk : k ≤ 1000000) (hkl : len ≤ k) (n1 : 1 ≤ n) (n2 : n ≤ 1000)
    (hu1 : 0 ≤ u1) (hu1' : u1 ≤ 255) (hu2 : 0 ≤ u2) (hu2' : u2 ≤ 255) (hne : b ≠ rb)
    (hrd : W.heap[rb]? = some (.cells #[.slice (some ⟨b, off, none⟩) len cap, .int .i64 (k : Int)] 54 (0, 0)))
    (hc1 : W.cell? ⟨b, off + k % len, none⟩ = some (.int .u8 u1)) (hc2 : W.cell? ⟨b, off + (k * 7 + 3) % len, none⟩ = some (.int .u8 u2)) :
    Calls Try.prog 25 #[.pointer (some ⟨rb, 0, none⟩), .int .i64 n] W (PickOk rb (.slice (some ⟨b, off, none⟩) len cap) k n W) := by
  have S := Lib.hid (read_step hrd)
  have c0 : W.cell? ⟨rb, 0, none⟩ = some (.slice (some ⟨b, off, none⟩) len cap) := by simp [World.cell?, hrd]
  have c1 : W.cell? ⟨rb, 1, none⟩ = some (.int .i64 (k : Int)) := by simp [World.cell?, hrd]
  have f1 : W.frozen? ⟨rb, 1, none⟩ = false := by simp [World.frozen?, hrd]
  have hk1 : (k : Int) ≤ 1000000 := by omega
  have hl3 : (len : Int) ≤ 2000 := by omega
  have hl4 : ((len : Int) == 0) = false := by simp; omega
  have hl5 : decide (0 < len) = true := by simp; omega
  have d0 : (W.setCell ⟨rb, 1, none⟩ (.int .i64 ((k : Int) + 1))).cell? ⟨rb, 0, none⟩ = some (.slice (some ⟨b, off, none⟩) len cap) := (World.cell?_setCell_other _ _ _ _ (by simp)).trans c0
  have d1 : (W.setCell ⟨rb, 1, none⟩ (.int .i64 ((k : Int) + 1))).cell? ⟨b, off + k % len, none⟩ = some (.int .u8 u1) := (World.cell?_setCell_other _ _ _ _ (by simp)).trans hc1
  have d2 : (W.setCell ⟨rb, 1, none⟩ (.int .i64 ((k : Int) + 1))).cell? ⟨b, off + (k * 7 + 3) % len, none⟩ = some (.int .u8 u2) := (World.cell?_setCell_other _ _ _ _ (by simp)).trans hc2
  clear hrd
  go_enter Try.func25, Try.ntmps25
  go_wp2_with fail
  have n0 : ¬ ((len : Int) = 0) := by omega
  have e1 : Int.tmod (k : Int) (len : Int) = ((k % len : Nat) : Int) := by rw [Int.tmod_eq_emod_of_nonneg (by omega)]; rfl
  have e2 : Int.tdiv (k : Int) (len : Int) = ((k / len : Nat) : Int) := by rw [Int.tdiv_eq_ediv_of_nonneg (by omega)]; rfl
  have e3 : Int.tmod ((k : Int) * 7 + 3) (len : Int) = (((k * 7 + 3) % len : Nat) : Int) := by rw [Int.tmod_eq_emod_of_nonneg (by omega)]; rfl
  have m1 : k % len < len := Nat.mod_lt _ hl
  have m2 : (k * 7 + 3) % len < len := Nat.mod_lt _ hl
  have q1 : k / len ≤ 1000000 := Nat.le_trans (Nat.div_le_self _ _) hk
  obtain ⟨x, hx⟩ : ∃ x, x = k / len := ⟨_, rfl⟩
  obtain ⟨y, hy⟩ : ∃ y, y = k % len := ⟨_, rfl⟩
  obtain ⟨z, hz⟩ : ∃ z, z = (k * 7 + 3) % len := ⟨_, rfl⟩
  rw [← hx] at e2 q1
  rw [← hy] at e1 m1 d1
  rw [← hz] at e3 m2 d2
  have w1 : IntKind.i64.wrap ((k : Int) * 7) = (k : Int) * 7 := IntWalk.i64_in _ (by omega)
  have w2 : IntKind.i64.wrap ((k : Int) * 7 + 3) = (k : Int) * 7 + 3 := IntWalk.i64_in _ (by omega)
  have w3 : IntKind.i64.wrap (u1 * 131) = u1 * 131 := IntWalk.i64_in _ (by omega)
  have w4 : IntKind.i64.wrap (u2 * 1117) = u2 * 1117 := IntWalk.i64_in _ (by omega)
  have w5 : IntKind.i64.wrap (u1 * 131 + u2 * 1117) = u1 * 131 + u2 * 1117 := IntWalk.i64_in _ (by omega)
  have w6 : IntKind.i64.wrap ((k : Int) * 29) = (k : Int) * 29 := IntWalk.i64_in _ (by omega)
  have w7 : IntKind.i64.wrap (u1 * 131 + u2 * 1117 + (k : Int) * 29) = u1 * 131 + u2 * 1117 + (k : Int) * 29 := IntWalk.i64_in _ (by omega)
  have w8 : IntKind.i64.wrap ((x : Int) * 53) = (x : Int) * 53 := IntWalk.i64_in _ (by omega)
  have w9 : IntKind.i64.wrap (u1 * 131 + u2 * 1117 + (k : Int) * 29 + (x : Int) * 53) = u1 * 131 + u2 * 1117 + (k : Int) * 29 + (x : Int) * 53 := IntWalk.i64_in _ (by omega)
  have j1 : ((y : Int)).toNat = y := by simp
  have j2 : ((z : Int)).toNat = z := by simp
  have j3 : (y : Int) < (len : Int) := by omega
  have j4 : (z : Int) < (len : Int) := by omega
  have j5 : (0 : Int) ≤ (y : Int) := by omega
  have j6 : (0 : Int) ≤ (z : Int) := by omega
  clear hx hy hz hc1 hc2
  go_quiet (fail)
  clear w1 w2 w3 w4 w5 w6 w7 w8 w9
  go_wp2_with fail
  go_ret
  have hq := mixed (u1 * 131 + u2 * 1117 + (k : Int) * 29 + (x : Int) * 53) n (by omega) (by omega) n1
  exact ⟨_, rfl, hq.1, hq.2, S.out.1, grown_trans S.out.2 ⟨rfl, rfl, rfl, Nat.le_refl _, fun _ _ _ => rfl⟩⟩
end Go.Proofs.Ytkffgojnicjkmaa

