/- The model's drawing of arguments: each draw returns a number in its bounds and writes its own reader alone. -/
import Derived.Test.YtnejphdbnfdbhaaGreatDoorBase1
namespace Go.Proofs.YtnejphdbnfdbhaaGreatDoor
open Go.ChangeShapes Go.WideShapes Go.ChangeAt Go.RowKit Go.Shelf



set_option maxRecDepth 100000
theorem xor_nat (a b : Nat) (ha : a < 4611686018427387904) (hb : b < 4611686018427387904) : bits .xor .i64 (a : Int) (b : Int) = ((a ^^^ b : Nat) : Int) := by
  have hx : a ^^^ b < 2 ^ 62 := Nat.xor_lt_two_pow (by omega) (by omega)
  have h1 : (BitVec.ofInt 64 (a : Int)).toNat = a := by
    rw [BitVec.ofInt_natCast, BitVec.toNat_ofNat]; exact Nat.mod_eq_of_lt (by omega)
  have h2 : (BitVec.ofInt 64 (b : Int)).toNat = b := by
    rw [BitVec.ofInt_natCast, BitVec.toNat_ofNat]; exact Nat.mod_eq_of_lt (by omega)
  show IntKind.i64.wrap ((BitVec.ofInt 64 (a : Int) ^^^ BitVec.ofInt 64 (b : Int)).toNat : Int) = _
  rw [BitVec.toNat_xor, h1, h2]
  exact IntWalk.i64_in _ (by omega)
theorem mixed (X n : Int) (h0 : 0 ≤ X) (h1 : X ≤ 1000000000) (n1 : 1 ≤ n) : 0 ≤ (bits .xor .i64 X (X / 64)).tmod n ∧ (bits .xor .i64 X (X / 64)).tmod n < n := by
  obtain ⟨a, rfl⟩ : ∃ a : Nat, X = (a : Int) := ⟨X.toNat, by omega⟩
  have d : ((a : Int) / 64) = ((a / 64 : Nat) : Int) := by omega
  rw [d, xor_nat a (a / 64) (by omega) (by omega)]
  rw [Int.tmod_eq_emod_of_nonneg (by omega)]
  exact ⟨Int.emod_nonneg _ (by omega), Int.emod_lt_of_pos _ (by omega)⟩

/-- What a draw leaves: a number from 0 to n - 1; the reader one further; nothing else written. -/
def PickOk (rb : Nat) (sl : Value) (k : Nat) (n : Int) (W : World) (e : Ending) (W' : World) : Prop :=
  ∃ r : Int, e = .returned (.int .i64 r) ∧ 0 ≤ r ∧ r < n ∧ W'.heap[rb]? = some (.cells #[sl, .int .i64 ((k : Int) + 1)] 106 (0, 0)) ∧ W.grownBy W' (some rb)

theorem read_step {W : World} {rb k : Nat} {sl : Value} (h : W.heap[rb]? = some (.cells #[sl, .int .i64 (k : Int)] 106 (0, 0))) :
    (W.setCell ⟨rb, 1, none⟩ (.int .i64 ((k : Int) + 1))).heap[rb]? = some (.cells #[sl, .int .i64 ((k : Int) + 1)] 106 (0, 0)) ∧ W.grownBy (W.setCell ⟨rb, 1, none⟩ (.int .i64 ((k : Int) + 1))) (some rb) := by
  refine ⟨?_, ⟨rfl, rfl, rfl, by simp, fun i _ hi => heap_setCell_other W ⟨rb, 1, none⟩ i _ (fun e => hi (by simp [e]))⟩⟩
  rw [heap_setCell_same W rb 1 _ 106 _ h]
  rfl

theorem pick_none (W : World) (rb : Nat) (a : Option Addr) (cap : Nat) (k : Nat) (n : Int) (hk : k ≤ 1000000) (n1 : 1 ≤ n)
    (hrd : W.heap[rb]? = some (.cells #[.slice a 0 cap, .int .i64 (k : Int)] 106 (0, 0))) :
    Calls Tryz.prog 66 #[.pointer (some ⟨rb, 0, none⟩), .int .i64 n] W (PickOk rb (.slice a 0 cap) k n W) := by
  have S := Lib.hid (read_step hrd)
  have c0 : W.cell? ⟨rb, 0, none⟩ = some (.slice a 0 cap) := by simp [World.cell?, hrd]
  have c1 : W.cell? ⟨rb, 1, none⟩ = some (.int .i64 (k : Int)) := by simp [World.cell?, hrd]
  have f1 : W.frozen? ⟨rb, 1, none⟩ = false := by simp [World.frozen?, hrd]
  have hk1 : (k : Int) ≤ 1000000 := by omega
  clear hrd
  go_enter Tryz.func66, Tryz.ntmps66
  go_wp2
  go_ret
  exact ⟨0, rfl, by omega, by omega, S.out.1, S.out.2⟩

set_option maxHeartbeats 1000000 in
theorem pick_near (W : World) (rb b off len cap : Nat) (k : Nat) (n u : Int) (hl2 : len ≤ 2000) (hkl : k < len) (n1 : 1 ≤ n) (hu : 0 ≤ u) (hu' : u ≤ 255) (hne : b ≠ rb)
    (hrd : W.heap[rb]? = some (.cells #[.slice (some ⟨b, off, none⟩) len cap, .int .i64 (k : Int)] 106 (0, 0)))
    (hc1 : W.cell? ⟨b, off + k, none⟩ = some (.int .u8 u)) :
    Calls Tryz.prog 66 #[.pointer (some ⟨rb, 0, none⟩), .int .i64 n] W (PickOk rb (.slice (some ⟨b, off, none⟩) len cap) k n W) := by
  have S := Lib.hid (read_step hrd)
  have c0 : W.cell? ⟨rb, 0, none⟩ = some (.slice (some ⟨b, off, none⟩) len cap) := by simp [World.cell?, hrd]
  have c1 : W.cell? ⟨rb, 1, none⟩ = some (.int .i64 (k : Int)) := by simp [World.cell?, hrd]
  have f1 : W.frozen? ⟨rb, 1, none⟩ = false := by simp [World.frozen?, hrd]
  have d1 : (W.setCell ⟨rb, 1, none⟩ (.int .i64 ((k : Int) + 1))).cell? ⟨b, off + k, none⟩ = some (.int .u8 u) := (World.cell?_setCell_other _ _ _ _ (by simp)).trans hc1
  have hk1 : (k : Int) ≤ 2000 := by omega
  have hl3 : (len : Int) ≤ 2000 := by omega
  have hl4 : ((len : Int) == 0) = false := by simp; omega
  clear hrd hc1
  go_enter Tryz.func66, Tryz.ntmps66
  go_wp2
  go_ret
  exact ⟨u % n, by first | rfl | (rw [Int.tmod_eq_emod_of_nonneg hu]; rfl), Int.emod_nonneg _ (by omega), Int.emod_lt_of_pos _ (by omega), S.out.1, S.out.2⟩

set_option maxHeartbeats 2000000 in
theorem pick_far (W : World) (rb b off len cap : Nat) (k : Nat) (n u1 u2 : Int) (hl : 0 < len) (hl2 : len ≤ 2000) (hk : k ≤ 1000000) (hkl : len ≤ k) (n1 : 1 ≤ n) (n2 : n ≤ 1000)
    (hu1 : 0 ≤ u1) (hu1' : u1 ≤ 255) (hu2 : 0 ≤ u2) (hu2' : u2 ≤ 255) (hne : b ≠ rb)
    (hrd : W.heap[rb]? = some (.cells #[.slice (some ⟨b, off, none⟩) len cap, .int .i64 (k : Int)] 106 (0, 0)))
    (hc1 : W.cell? ⟨b, off + k % len, none⟩ = some (.int .u8 u1)) (hc2 : W.cell? ⟨b, off + (k * 7 + 3) % len, none⟩ = some (.int .u8 u2)) :
    Calls Tryz.prog 66 #[.pointer (some ⟨rb, 0, none⟩), .int .i64 n] W (PickOk rb (.slice (some ⟨b, off, none⟩) len cap) k n W) := by
  have S := Lib.hid (read_step hrd)
  have c0 : W.cell? ⟨rb, 0, none⟩ = some (.slice (some ⟨b, off, none⟩) len cap) := by simp [World.cell?, hrd]
  have c1 : W.cell? ⟨rb, 1, none⟩ = some (.int .i64 (k : Int)) := by simp [World.cell?, hrd]
  have f1 : W.frozen? ⟨rb, 1, none⟩ = false := by simp [World.frozen?, hrd]
  have hk1 : (k : Int) ≤ 1000000 := by omega
  have hl3 : (len : Int) ≤ 2000 := by omega
  have hl4 : ((len : Int) == 0) = false := by simp; omega
  have hl5 : decide (0 < len) = true := by simp; omega
  have d0 : (W.setCell ⟨rb, 1, none⟩ (.int .i64 ((k : Int) + 1))).cell? ⟨rb, 0, none⟩ = some (.slice (some ⟨b, off, none⟩) len cap) := (World.cell?_setCell_other _ _ _ _ (by simp)).trans c0
  have d1 : (W.setCell ⟨rb, 1, none⟩ (.int .i64 ((k : Int) + 1))).cell? ⟨b, off + k % len, none⟩ = some (.int .u8 u1) := (World.cell?_setCell_other _ _ _ _ (by simp)).trans hc1
  have d2 : (W.setCell ⟨rb, 1, none⟩ (.int .i64 ((k : Int) + 1))).cell? ⟨b, off + (k * 7 + 3) % len, none⟩ = some (.int .u8 u2) := (World.cell?_setCell_other _ _ _ _ (by simp)).trans hc2
  clear hrd
  go_enter Tryz.func66, Tryz.ntmps66
  go_wp2_with fail
  have n0 : ¬ ((len : Int) = 0) := by omega
  have e1 : Int.tmod (k : Int) (len : Int) = ((k % len : Nat) : Int) := by rw [Int.tmod_eq_emod_of_nonneg (by omega)]; rfl
  have e2 : Int.tdiv (k : Int) (len : Int) = ((k / len : Nat) : Int) := by rw [Int.tdiv_eq_ediv_of_nonneg (by omega)]; rfl
  have e3 : Int.tmod ((k : Int) * 7 + 3) (len : Int) = (((k * 7 + 3) % len : Nat) : Int) := by rw [Int.tmod_eq_emod_of_nonneg (by omega)]; rfl
  have m1 : k % len < len := Nat.mod_lt _ hl
  have m2 : (k * 7 + 3) % len < len := Nat.mod_lt _ hl
  have q1 : k / len ≤ 1000000 := Nat.le_trans (Nat.div_le_self _ _) hk
  obtain ⟨x, hx⟩ : ∃ x, x = k / len := ⟨_, rfl⟩
  obtain ⟨y, hy⟩ : ∃ y, y = k % len := ⟨_, rfl⟩
  obtain ⟨z, hz⟩ : ∃ z, z = (k * 7 + 3) % len := ⟨_, rfl⟩
  rw [← hx] at e2 q1
  rw [← hy] at e1 m1 d1
  rw [← hz] at e3 m2 d2
  have w1 : IntKind.i64.wrap ((k : Int) * 7) = (k : Int) * 7 := IntWalk.i64_in _ (by omega)
  have w2 : IntKind.i64.wrap ((k : Int) * 7 + 3) = (k : Int) * 7 + 3 := IntWalk.i64_in _ (by omega)
  have w3 : IntKind.i64.wrap (u1 * 131) = u1 * 131 := IntWalk.i64_in _ (by omega)
  have w4 : IntKind.i64.wrap (u2 * 1117) = u2 * 1117 := IntWalk.i64_in _ (by omega)
  have w5 : IntKind.i64.wrap (u1 * 131 + u2 * 1117) = u1 * 131 + u2 * 1117 := IntWalk.i64_in _ (by omega)
  have w6 : IntKind.i64.wrap ((k : Int) * 29) = (k : Int) * 29 := IntWalk.i64_in _ (by omega)
  have w7 : IntKind.i64.wrap (u1 * 131 + u2 * 1117 + (k : Int) * 29) = u1 * 131 + u2 * 1117 + (k : Int) * 29 := IntWalk.i64_in _ (by omega)
  have w8 : IntKind.i64.wrap ((x : Int) * 53) = (x : Int) * 53 := IntWalk.i64_in _ (by omega)
  have w9 : IntKind.i64.wrap (u1 * 131 + u2 * 1117 + (k : Int) * 29 + (x : Int) * 53) = u1 * 131 + u2 * 1117 + (k : Int) * 29 + (x : Int) * 53 := IntWalk.i64_in _ (by omega)
  have j1 : ((y : Int)).toNat = y := by simp
  have j2 : ((z : Int)).toNat = z := by simp
  have j3 : (y : Int) < (len : Int) := by omega
  have j4 : (z : Int) < (len : Int) := by omega
  have j5 : (0 : Int) ≤ (y : Int) := by omega
  have j6 : (0 : Int) ≤ (z : Int) := by omega
  clear hx hy hz hc1 hc2
  go_quiet (fail)
  clear w1 w2 w3 w4 w5 w6 w7 w8 w9
  go_wp2_with fail
  go_ret
  have hq := mixed (u1 * 131 + u2 * 1117 + (k : Int) * 29 + (x : Int) * 53) n (by omega) (by omega) n1
  exact ⟨_, rfl, hq.1, hq.2, S.out.1, grown_trans S.out.2 ⟨rfl, rfl, rfl, Nat.le_refl _, fun _ _ _ => rfl⟩⟩
/-- Block rb is a reader that has drawn k times; its bytes lie below block B, it lies from B on. -/
def Rd (B : Nat) (W : World) (rb k : Nat) : Prop :=
  ∃ a len cap, W.heap[rb]? = some (.cells #[.slice a len cap, .int .i64 (k : Int)] 106 (0, 0)) ∧ len ≤ 2000 ∧ B ≤ rb ∧
    (0 < len → ∃ b off, a = some ⟨b, off, none⟩ ∧ b < B ∧ ∀ i, i < len → ∃ u : Int, W.cell? ⟨b, off + i, none⟩ = some (.int .u8 u) ∧ 0 ≤ u ∧ u ≤ 255)

theorem Rd.lt {B : Nat} {W : World} {rb k : Nat} (h : Rd B W rb k) : rb < W.heap.size := by
  obtain ⟨_, _, _, h, _⟩ := h; exact (Array.getElem?_eq_some_iff.1 h).1
theorem Rd.ge {B : Nat} {W : World} {rb k : Nat} (h : Rd B W rb k) : B ≤ rb := by
  obtain ⟨_, _, _, _, _, h, _⟩ := h; exact h
theorem Rd.below {B : Nat} {W W' : World} {rb k : Nat} (h : Rd B W rb k) (hb : Below W.heap.size W W') : Rd B W' rb k := by
  have hlt := h.lt
  obtain ⟨a, len, cap, h1, h2, h3, h4⟩ := h
  refine ⟨a, len, cap, (hb.block rb hlt).trans h1, h2, h3, fun hl => ?_⟩
  obtain ⟨b, off, e1, e2, e3⟩ := h4 hl
  exact ⟨b, off, e1, e2, fun i hi => by
    obtain ⟨u, hu, hr⟩ := e3 i hi
    exact ⟨u, (hb.cell (p := ⟨b, off + i, none⟩) (by show b < _; omega)).trans hu, hr⟩⟩
theorem Rd.grown {B : Nat} {W W' : World} {rb k : Nat} (h : Rd B W rb k) (hg : W.grownBy W' (some rb)) {A : World} (hA : Below B A W) (hB : B ≤ W.heap.size) : Below B A W' :=
  hA.grown hg hB (fun j e => by cases e; exact h.ge)

def Drew (B rb k : Nat) (n : Int) (W : World) (e : Ending) (W' : World) : Prop :=
  ∃ r : Int, e = .returned (.int .i64 r) ∧ 0 ≤ r ∧ r < n ∧ Rd B W' rb (k + 1) ∧ W.grownBy W' (some rb)

theorem pick36 {B : Nat} {W : World} {rb k : Nat} {n : Int} (h : Rd B W rb k) (hk : k ≤ 1000000) (n1 : 1 ≤ n) (n2 : n ≤ 1000) :
    Calls Tryz.prog 66 #[.pointer (some ⟨rb, 0, none⟩), .int .i64 n] W (Drew B rb k n W) := by
  obtain ⟨a, len, cap, h1, h2, h3, h4⟩ := h
  have fin : ∀ e W', PickOk rb (.slice a len cap) k n W e W' → Drew B rb k n W e W' := by
    rintro e W' ⟨r, he, r0, r1, hh, hg⟩
    refine ⟨r, he, r0, r1, ⟨a, len, cap, ?_, h2, h3, fun hl => ?_⟩, hg⟩
    · rw [hh]; simp
    · obtain ⟨b, off, e1, e2, e3⟩ := h4 hl
      exact ⟨b, off, e1, e2, fun i hi => by
        obtain ⟨u, hu, hr⟩ := e3 i hi
        exact ⟨u, hg.cell hu (by simp; omega), hr⟩⟩
  by_cases hl : 0 < len
  · obtain ⟨b, off, rfl, e2, e3⟩ := h4 hl
    by_cases hkl : k < len
    · obtain ⟨u, hu, u0, u1⟩ := e3 k hkl
      exact (pick_near W rb b off len cap k n u h2 hkl n1 u0 u1 (by omega) h1 hu).mono fin
    · obtain ⟨u1, hu1, a0, a1⟩ := e3 (k % len) (Nat.mod_lt _ hl)
      obtain ⟨u2, hu2, b0, b1⟩ := e3 ((k * 7 + 3) % len) (Nat.mod_lt _ hl)
      exact (pick_far W rb b off len cap k n u1 u2 hl h2 hk (by omega) n1 n2 a0 a1 b0 b1 (by omega) h1 hu1 hu2).mono fin
  · obtain rfl : len = 0 := by omega
    exact (pick_none W rb a cap k n hk n1 h1).mono fin

/-- Some number. -/
def SomeNum (B rb k : Nat) (W : World) (e : Ending) (W' : World) : Prop :=
  ∃ z : Int, e = .returned (.int .i64 z) ∧ Rd B W' rb (k + 1) ∧ W.grownBy W' (some rb)

theorem num38 {B : Nat} {W : World} {rb k g m : Nat} (h : Rd B W rb k) (hk : k ≤ 1000000) (m1 : 0 < m) (m2 : m ≤ 1000) (hg : g ≠ rb)
    (hc : ∀ i, i < m → ∃ z : Int, W.cell? ⟨g, i, none⟩ = some (.int .i64 z)) :
    Calls Tryz.prog 68 #[.pointer (some ⟨rb, 0, none⟩), .slice (some ⟨g, 0, none⟩) m m] W (SomeNum B rb k W) := by
  have HC := Lib.hid hc
  have m3 : (1 : Int) ≤ (m : Int) := by omega
  have m4 : (m : Int) ≤ 1000 := by omega
  clear hc
  go_enter Tryz.func68, Tryz.ntmps68
  go_wp2_with fail
  go_at_call 66
  refine (pick36 h hk m3 m4).mono ?_
  rintro e W1 ⟨r, rfl, r0, r1, h1, g1⟩
  obtain ⟨q, rfl⟩ : ∃ q : Nat, r = (q : Int) := ⟨r.toNat, by omega⟩
  have hq : q < m := by omega
  obtain ⟨z, hz⟩ := HC.out q hq
  have hz1 := g1.cell hz (by simpa using hg)
  clear hz
  go_wp2
  go_ret
  exact ⟨z, rfl, h1, g1⟩

/-- WHAT THE WALK IS TOLD OF A SLICE OF INTEGERS THAT CAME IN: nil, or a row of 'cap' cells, the numbers 'zs', each fitting its kind. -/
def IsRow (k : IntKind) (w : World) (a : Option Addr) (len cap : Nat) (zs : List Int) : Prop :=
  (a = none ∧ len = 0 ∧ cap = 0 ∧ zs = []) ∨
  ∃ x, a = some x ∧ len ≤ cap ∧ cap ≤ maxLen ∧ zs.length = cap ∧ (∀ i, i < zs.length → w.cell? (x.add i) = some (.int k (zs.getD i 0))) ∧ ∀ n ∈ zs, (Lit.int k n).wf = true

/-- The bytes of an argument, below block B. -/
def Code (B : Nat) (W : World) (a : Option Addr) (len cap : Nat) : Prop :=
  len ≤ cap ∧ cap ≤ maxLen ∧ (0 < len → ∃ b off, a = some ⟨b, off, none⟩ ∧ b < B ∧ ∀ i, i < len → ∃ u : Int, W.cell? ⟨b, off + i, none⟩ = some (.int .u8 u) ∧ 0 ≤ u ∧ u ≤ 255)

theorem Code.below {B : Nat} {W W' : World} {a : Option Addr} {len cap : Nat} (h : Code B W a len cap) (hb : Below B W W') : Code B W' a len cap := by
  obtain ⟨h1, h2, h3⟩ := h
  refine ⟨h1, h2, fun hl => ?_⟩
  obtain ⟨b, off, e1, e2, e3⟩ := h3 hl
  exact ⟨b, off, e1, e2, fun i hi => by
    obtain ⟨u, hu, hr⟩ := e3 i hi
    exact ⟨u, (hb.cell (p := ⟨b, off + i, none⟩) e2).trans hu, hr⟩⟩

theorem Code.ofRow {w : World} {a : Option Addr} {len cap : Nat} {zs : List Int} (h : IsRow .u8 w a len cap zs) : Code w.heap.size w a len cap := by
  rcases h with ⟨rfl, rfl, rfl, rfl⟩ | ⟨x, rfl, h1, h2, h3, h4, h5⟩
  · exact ⟨Nat.le_refl _, by unfold maxLen; omega, fun h => by omega⟩
  · refine ⟨h1, h2, fun hl => ?_⟩
    obtain ⟨b, off, rfl, hc⟩ := ints_at h4 (by omega)
    have hb : b < w.heap.size := by
      have := hc 0 (by omega)
      unfold World.cell? at this
      cases hh : w.heap[b]? with
      | none => rw [hh] at this; simp at this
      | some o => exact (Array.getElem?_eq_some_iff.1 hh).1
    refine ⟨b, off, rfl, hb, fun i hi => ⟨zs.getD i 0, hc i (by omega), ?_⟩⟩
    have hm : zs.getD i 0 ∈ zs := by
      rw [List.getD_eq_getElem?_getD, List.getElem?_eq_getElem (by omega)]
      exact List.getElem_mem _
    have := bounds_u8 (h5 _ hm)
    omega

theorem open33 {B : Nat} {W : World} {a : Option Addr} {len cap : Nat} (h : Code B W a len cap) (hB : B ≤ W.heap.size) :
    Calls Tryz.prog 32 #[.slice a len cap] W fun e W' => e = .returned (.pointer (some ⟨W.heap.size, 0, none⟩)) ∧ Rd B W' W.heap.size 0 ∧ Below W.heap.size W W' ∧ W'.heap.size = W.heap.size + 1 := by
  obtain ⟨h1, h2, h3⟩ := h
  unfold maxLen at h2
  by_cases hl : len ≤ 2000
  · have hh : ∃ a' l' c', (W.alloc (.cells #[.slice a len cap, .int .i64 0] 106)).heap[W.heap.size]? = some (.cells #[.slice a' l' c', .int .i64 ((0 : Nat) : Int)] 106 (0, 0)) ∧ a' = a ∧ l' = len ∧ c' = cap := ⟨a, len, cap, heap_alloc_new W _, rfl, rfl, rfl⟩
    obtain ⟨a', l', c', hh, rfl, rfl, rfl⟩ := hh
    have R : Rd B (W.alloc (.cells #[.slice a' l' c', .int .i64 0] 106)) W.heap.size 0 := ⟨a', l', c', hh, hl, hB, fun hp => by
      obtain ⟨b, off, e1, e2, e3⟩ := h3 hp
      exact ⟨b, off, e1, e2, fun i hi => by
        obtain ⟨u, hu, hr⟩ := e3 i hi
        exact ⟨u, cellAlloc _ hu, hr⟩⟩⟩
    have HR := Lib.hid R
    have hl' : (l' : Int) ≤ 2000 := by omega
    clear R hh h3
    go_enter Tryz.func32, Tryz.ntmps32
    go_wp2
    go_ret
    exact ⟨rfl, HR.out, (Below.refl _ _).alloc (Nat.le_refl _) _, by simp⟩
  · have hl' : (2000 : Int) < (len : Int) := by omega
    have hc' : (2000 : Int) ≤ (cap : Int) := by omega
    obtain ⟨b, off, rfl, e2, e3⟩ := h3 (by omega)
    have R : Rd B (W.alloc (.cells #[.slice (some ⟨b, off, none⟩) 2000 cap, .int .i64 0] 106)) W.heap.size 0 := ⟨_, 2000, cap, heap_alloc_new W _, Nat.le_refl _, hB, fun _ => ⟨b, off, rfl, e2, fun i hi => by
        obtain ⟨u, hu, hr⟩ := e3 i (by omega)
        exact ⟨u, cellAlloc _ hu, hr⟩⟩⟩
    have HR := Lib.hid R
    clear R h3 e3
    go_enter Tryz.func32, Tryz.ntmps32
    go_wp2
    go_ret
    exact ⟨rfl, HR.out, (Below.refl _ _).alloc (Nat.le_refl _) _, by simp⟩

/-- What a run of draws leaves: a number; the reader has drawn at most that often; below its block nothing is written. -/
def Ran (B rb k : Nat) (W : World) (e : Ending) (W' : World) : Prop :=
  ∃ z : Int, e = .returned (.int .i64 z) ∧ (∃ j, j ≤ k ∧ Rd B W' rb j) ∧ Below rb W W'

theorem below_of_grown {W W' : World} {rb : Nat} (hg : W.grownBy W' (some rb)) (h : rb ≤ W.heap.size) : Below rb W W' :=
  (Below.refl _ _).grown hg h (fun j e => by cases e; exact Nat.le_refl _)

theorem ints_new (W : World) (cs : Array Value) (t : TypeId) (h : ∀ v ∈ cs.toList, ∃ z : Int, v = .int .i64 z) : ∀ i, i < cs.size → ∃ z : Int, (W.alloc (.cells cs t)).cell? ⟨W.heap.size, i, none⟩ = some (.int .i64 z) := by
  intro i hi
  obtain ⟨z, hz⟩ := h cs[i] (by simp)
  refine ⟨z, ?_⟩
  rw [cell_of_row _ W.heap.size i cs t (0, 0) (heap_alloc_new W _), ← hz]
  simp [hi]

theorem num38new {B : Nat} {W : World} {rb k : Nat} (h : Rd B W rb k) (hk : k ≤ 1000000) (cs : Array Value) (m : Nat) (hm : cs.size = m) (m1 : 0 < m) (m2 : m ≤ 1000) (hc : ∀ v ∈ cs.toList, ∃ z : Int, v = .int .i64 z) :
    Calls Tryz.prog 68 #[.pointer (some ⟨rb, 0, none⟩), .slice (some ⟨W.heap.size, 0, none⟩) m m] (W.alloc (.cells cs 3)) fun e W' => ∃ z : Int, e = .returned (.int .i64 z) ∧ Rd B W' rb (k + 1) ∧ Below rb W W' := by
  subst hm
  have hlt := h.lt
  refine (num38 (h.below ((Below.refl _ _).alloc (Nat.le_refl _) _)) hk m1 m2 (by omega) (ints_new W cs 3 hc)).mono ?_
  rintro e W' ⟨z, he, hr, hg⟩
  exact ⟨z, he, hr, ((Below.refl rb W).alloc (by omega) _).trans (below_of_grown hg (by simp; omega))⟩

set_option maxHeartbeats 400000 in
theorem good37 {B : Nat} {W : World} {rb k : Nat} (h : Rd B W rb k) (hk : k ≤ 900000) :
    Calls Tryz.prog 69 #[.pointer (some ⟨rb, 0, none⟩)] W (Ran B rb (k + 8) W) := by
  go_enter Tryz.func69, Tryz.ntmps69
  go_wp2_with fail
  go_at_call 66
  refine (pick36 h (by omega) (by omega) (by omega)).mono ?_
  rintro e W1 ⟨x1, rfl, a1, b1, h1, g1⟩
  go_wp2_with fail
  go_at_call 66
  refine (pick36 h1 (by omega) (by omega) (by omega)).mono ?_
  rintro e W2 ⟨x2, rfl, a2, b2, h2, g2⟩
  go_wp2_with fail
  go_at_call 66
  refine (pick36 h2 (by omega) (by omega) (by omega)).mono ?_
  rintro e W3 ⟨x3, rfl, a3, b3, h3, g3⟩
  go_wp2_with fail
  go_at_call 66
  refine (pick36 h3 (by omega) (by omega) (by omega)).mono ?_
  rintro e W4 ⟨x4, rfl, a4, b4, h4, g4⟩
  go_wp2_with fail
  go_at_call 66
  refine (pick36 h4 (by omega) (by omega) (by omega)).mono ?_
  rintro e W5 ⟨x5, rfl, a5, b5, h5, g5⟩
  go_wp2_with fail
  go_at_call 66
  refine (pick36 h5 (by omega) (by omega) (by omega)).mono ?_
  rintro e W6 ⟨x6, rfl, a6, b6, h6, g6⟩
  have G := Lib.hid (grown_trans g1 (grown_trans g2 (grown_trans g3 (grown_trans g4 (grown_trans g5 g6)))))
  clear g1 g2 g3 g4 g5 g6
  go_wp2_with fail
  go_at_call 68
  refine Calls.mono (num38new h6 (by omega) _ 8 ?_ (by omega) (by omega) ?_) ?_
  · rfl
  · intro v hv
    simp at hv
    rcases hv with rfl | rfl | rfl | rfl | rfl | rfl | rfl | rfl <;> exact ⟨_, rfl⟩
  rintro e W7 ⟨z, rfl, h7, g7⟩
  go_wp2
  go_ret
  have hW := h.lt
  have hG := below_of_grown G.out (by omega)
  have hG7 := hG.trans g7
  exact ⟨z, rfl, ⟨_, by omega, h7⟩, hG7⟩

set_option maxHeartbeats 1000000 in
theorem draw32 {B : Nat} {W : World} {rb k : Nat} (h : Rd B W rb k) (hk : k ≤ 800000) :
    Calls Tryz.prog 34 #[.pointer (some ⟨rb, 0, none⟩)] W (Ran B rb (k + 10) W) := by
  go_enter Tryz.func34, Tryz.ntmps34
  go_wp2_with fail
  go_at_call 66
  refine (pick36 h (by omega) (by omega) (by omega)).mono ?_
  rintro e W1 ⟨x1, rfl, a1, b1, h1, g1⟩
  have hW := Lib.hid h.lt
  have hG := below_of_grown g1 (by have := hW.out; omega)
  cases hx : (x1 == 0) with
  | true =>
    go_wp2_with fail
    go_at_call 68
    refine Calls.mono (num38new h1 (by omega) _ 3 ?_ (by omega) (by omega) ?_) ?_
    · rfl
    · intro v hv
      simp at hv
      rcases hv with rfl | rfl | rfl <;> exact ⟨_, rfl⟩
    rintro e W7 ⟨z, rfl, h7, g7⟩
    go_wp2
    go_ret
    exact ⟨z, rfl, ⟨_, by omega, h7⟩, hG.trans g7⟩
  | false =>
    go_wp2_with fail
    go_at_call 69
    refine (good37 h1 (by omega)).mono ?_
    rintro e W7 ⟨z, rfl, ⟨j, hj, h7⟩, g7⟩
    go_wp2
    go_ret
    exact ⟨z, rfl, ⟨j, by omega, h7⟩, hG.trans g7⟩

/-- What a Draw of one number leaves. -/
def OneNum (W : World) (e : Ending) (W' : World) : Prop := ∃ z : Int, e = .returned (.int .i64 z) ∧ Below W.heap.size W W'
def TwoNum (W : World) (e : Ending) (W' : World) : Prop := ∃ y z : Int, e = .returned (.tuple #[.int .i64 y, .int .i64 z]) ∧ Below W.heap.size W W'


end Go.Proofs.YtnejphdbnfdbhaaGreatDoor

