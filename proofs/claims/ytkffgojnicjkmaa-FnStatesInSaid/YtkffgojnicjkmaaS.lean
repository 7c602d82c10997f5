/- The drawn arguments of chapter 1: whatever the bytes, each draw returns numbers and writes nothing that was there. -/
import Derived.Test.YtkffgojnicjkmaaR
namespace Go.Proofs.Ytkffgojnicjkmaa
open Go.ChangeShapes Go.WideShapes Go.ChangeAt Go.RowKit

/-- Block rb is a reader that has drawn k times; its bytes lie below block B, it lies from B on. -/
def Rd (B : Nat) (W : World) (rb k : Nat) : Prop :=
  ∃ a len cap, W.heap[rb]? = some (.cells #[.slice a len cap, .int .i64 (k : Int)] 54 (0, 0)) ∧ len ≤ 2000 ∧ B ≤ rb ∧
    (0 < len → ∃ b off, a = some ⟨b, off, none⟩ ∧ b < B ∧ ∀ i, i < len → ∃ u : Int, W.cell? ⟨b, off + i, none⟩ = some (.int .u8 u) ∧ 0 ≤ u ∧ u ≤ 255)

theorem Rd.lt {B : Nat} {W : World} {rb k : Nat} (h : Rd B W rb k) : rb < W.heap.size := by
  obtain ⟨_, _, _, h, _⟩ := h; exact (Array.getElem?_eq_some_iff.1 h).1
theorem Rd.ge {B : Nat} {W : World} {rb k : Nat} (h : Rd B W rb k) : B ≤ rb := by
  obtain ⟨_, _, _, _, _, h, _⟩ := h; exact h
theorem Rd.below {B : Nat} {W W' : World} {rb k : Nat} (h : Rd B W rb k) (hb : Below W.heap.size W W') : Rd B W' rb k := by
  have hlt := h.lt
  obtain ⟨a, len, cap, h1, h2, h3, h4⟩ := h
  refine ⟨a, len, cap, (hb.block rb hlt).trans h1, h2, h3, fun hl => ?_⟩
  obtain ⟨b, off, e1, e2, e3⟩ := h4 hl
  exact ⟨b, off, e1, e2, fun i hi => by
    obtain ⟨u, hu, hr⟩ := e3 i hi
    exact ⟨u, (hb.cell (p := ⟨b, off + i, none⟩) (by show b < _; omega)).trans hu, hr⟩⟩
theorem Rd.grown {B : Nat} {W W' : World} {rb k : Nat} (h : Rd B W rb k) (hg : W.grownBy W' (some rb)) {A : World} (hA : Below B A W) (hB : B ≤ W.heap.size) : Below B A W' :=
  hA.grown hg hB (fun j e => by cases e; exact h.ge)

def Drew (B rb k : Nat) (n : Int) (W : World) (e : Ending) (W' : World) : Prop :=
  ∃ r : Int, e = .returned (.int .i64 r) ∧ 0 ≤ r ∧ r < n ∧ Rd B W' rb (k + 1) ∧ W.grownBy W' (some rb)

theorem pick36 {B : Nat} {W : World} {rb k : Nat} {n : Int} (h : Rd B W rb k) (hk : k ≤ 1000000) (n1 : 1 ≤ n) (n2 : n ≤ 1000) :
    Calls Try.prog 25 #[.pointer (some ⟨rb, 0, none⟩), .int .i64 n] W (Drew B rb k n W) := by
  obtain ⟨a, len, cap, h1, h2, h3, h4⟩ := h
  have fin : ∀ e W', PickOk rb (.slice a len cap) k n W e W' → Drew B rb k n W e W' := by
    rintro e W' ⟨r, he, r0, r1, hh, hg⟩
    refine ⟨r, he, r0, r1, ⟨a, len, cap, ?_, h2, h3, fun hl => ?_⟩, hg⟩
    · rw [hh]; simp
    · obtain ⟨b, off, e1, e2, e3⟩ := h4 hl
      exact ⟨b, off, e1, e2, fun i hi => by
        obtain ⟨u, hu, hr⟩ := e3 i hi
        exact ⟨u, hg.cell hu (by simp; omega), hr⟩⟩
  by_cases hl : 0 < len
  · obtain ⟨b, off, rfl, e2, e3⟩ := h4 hl
    by_cases hkl : k < len
    · obtain ⟨u, hu, u0, u1⟩ := e3 k hkl
      exact (pick_near W rb b off len cap k n u h2 hkl n1 u0 u1 (by omega) h1 hu).mono fin
    · obtain ⟨u1, hu1, a0, a1⟩ := e3 (k % len) (Nat.mod_lt _ hl)
      obtain ⟨u2, hu2, b0, b1⟩ := e3 ((k * 7 + 3) % len) (Nat.mod_lt _ hl)
      exact (pick_far W rb b off len cap k n u1 u2 hl h2 hk (by omega) n1 n2 a0 a1 b0 b1 (by omega) h1 hu1 hu2).mono fin
  · obtain rfl : len = 0 := by omega
    exact (pick_none W rb a cap k n hk n1 h1).mono fin

/-- Some number. -/
def SomeNum (B rb k : Nat) (W : World) (e : Ending) (W' : World) : Prop :=
  ∃ z : Int, e = .returned (.int .i64 z) ∧ Rd B W' rb (k + 1) ∧ W.grownBy W' (some rb)

theorem num38 {B : Nat} {W : World} {rb k g m : Nat} (h : Rd B W rb k) (hk : k ≤ 1000000) (m1 : 0 < m) (m2 : m ≤ 1000) (hg : g ≠ rb)
    (hc : ∀ i, i < m → ∃ z : Int, W.cell? ⟨g, i, none⟩ = some (.int .i64 z)) :
    Calls Try.prog 27 #[.pointer (some ⟨rb, 0, none⟩), .slice (some ⟨g, 0, none⟩) m m] W (SomeNum B rb k W) := by
  have HC := Lib.hid hc
  have m3 : (1 : Int) ≤ (m : Int) := by omega
  have m4 : (m : Int) ≤ 1000 := by omega
  clear hc
  go_enter Try.func27, Try.ntmps27
  go_wp2_with fail
  go_at_call 25
  refine (pick36 h hk m3 m4).mono ?_
  rintro e W1 ⟨r, rfl, r0, r1, h1, g1⟩
  obtain ⟨q, rfl⟩ : ∃ q : Nat, r = (q : Int) := ⟨r.toNat, by omega⟩
  have hq : q < m := by omega
  obtain ⟨z, hz⟩ := HC.out q hq
  have hz1 := g1.cell hz (by simpa using hg)
  clear hz
  go_wp2
  go_ret
  exact ⟨z, rfl, h1, g1⟩

/-- WHAT THE WALK IS TOLD OF A SLICE OF INTEGERS THAT CAME IN: nil, or a row of 'cap' cells, the numbers 'zs', each fitting its kind. -/
def IsRow (k : IntKind) (w : World) (a : Option Addr) (len cap : Nat) (zs : List Int) : Prop :=
  (a = none ∧ len = 0 ∧ cap = 0 ∧ zs = []) ∨
  ∃ x, a = some x ∧ len ≤ cap ∧ cap ≤ maxLen ∧ zs.length = cap ∧ (∀ i, i < zs.length → w.cell? (x.add i) = some (.int k (zs.getD i 0))) ∧ ∀ n ∈ zs, (Lit.int k n).wf = true

/-- The bytes of an argument, below block B. -/
def Code (B : Nat) (W : World) (a : Option Addr) (len cap : Nat) : Prop :=
  len ≤ cap ∧ cap ≤ maxLen ∧ (0 < len → ∃ b off, a = some ⟨b, off, none⟩ ∧ b < B ∧ ∀ i, i < len → ∃ u : Int, W.cell? ⟨b, off + i, none⟩ = some (.int .u8 u) ∧ 0 ≤ u ∧ u ≤ 255)

theorem Code.below {B : Nat} {W W' : World} {a : Option Addr} {len cap : Nat} (h : Code B W a len cap) (hb : Below B W W') : Code B W' a len cap := by
  obtain ⟨h1, h2, h3⟩ := h
  refine ⟨h1, h2, fun hl => ?_⟩
  obtain ⟨b, off, e1, e2, e3⟩ := h3 hl
  exact ⟨b, off, e1, e2, fun i hi => by
    obtain ⟨u, hu, hr⟩ := e3 i hi
    exact ⟨u, (hb.cell (p := ⟨b, off + i, none⟩) e2).trans hu, hr⟩⟩

theorem Code.ofRow {w : World} {a : Option Addr} {len cap : Nat} {zs : List Int} (h : IsRow .u8 w a len cap zs) : Code w.heap.size w a len cap := by
  rcases h with ⟨rfl, rfl, rfl, rfl⟩ | ⟨x, rfl, h1, h2, h3, h4, h5⟩
  · exact ⟨Nat.le_refl _, by unfold maxLen; omega, fun h => by omega⟩
  · refine ⟨h1, h2, fun hl => ?_⟩
    obtain ⟨b, off, rfl, hc⟩ := ints_at h4 (by omega)
    have hb : b < w.heap.size := by
      have := hc 0 (by omega)
      unfold World.cell? at this
      cases hh : w.heap[b]? with
      | none => rw [hh] at this; simp at this
      | some o => exact (Array.getElem?_eq_some_iff.1 hh).1
    refine ⟨b, off, rfl, hb, fun i hi => ⟨zs.getD i 0, hc i (by omega), ?_⟩⟩
    have hm : zs.getD i 0 ∈ zs := by
      rw [List.getD_eq_getElem?_getD, List.getElem?_eq_getElem (by omega)]
      exact List.getElem_mem _
    have := bounds_u8 (h5 _ hm)
    omega

theorem open33 {B : Nat} {W : World} {a : Option Addr} {len cap : Nat} (h : Code B W a len cap) (hB : B ≤ W.heap.size) :
    Calls Try.prog 21 #[.slice a len cap] W fun e W' => e = .returned (.pointer (some ⟨W.heap.size, 0, none⟩)) ∧ Rd B W' W.heap.size 0 ∧ Below W.heap.size W W' ∧ W'.heap.size = W.heap.size + 1 := by
  obtain ⟨h1, h2, h3⟩ := h
  unfold maxLen at h2
  by_cases hl : len ≤ 2000
  · have hh : ∃ a' l' c', (W.alloc (.cells #[.slice a len cap, .int .i64 0] 54)).heap[W.heap.size]? = some (.cells #[.slice a' l' c', .int .i64 ((0 : Nat) : Int)] 54 (0, 0)) ∧ a' = a ∧ l' = len ∧ c' = cap := ⟨a, len, cap, heap_alloc_new W _, rfl, rfl, rfl⟩
    obtain ⟨a', l', c', hh, rfl, rfl, rfl⟩ := hh
    have R : Rd B (W.alloc (.cells #[.slice a' l' c', .int .i64 0] 54)) W.heap.size 0 := ⟨a', l', c', hh, hl, hB, fun hp => by
      obtain ⟨b, off, e1, e2, e3⟩ := h3 hp
      exact ⟨b, off, e1, e2, fun i hi => by
        obtain ⟨u, hu, hr⟩ := e3 i hi
        exact ⟨u, cellAlloc _ hu, hr⟩⟩⟩
    have HR := Lib.hid R
    have hl' : (l' : Int) ≤ 2000 := by omega
    clear R hh h3
    go_enter Try.func21, Try.ntmps21
    go_wp2
    go_ret
    exact ⟨rfl, HR.out, (Below.refl _ _).alloc (Nat.le_refl _) _, by simp⟩
  · have hl' : (2000 : Int) < (len : Int) := by omega
    have hc' : (2000 : Int) ≤ (cap : Int) := by omega
    obtain ⟨b, off, rfl, e2, e3⟩ := h3 (by omega)
    have R : Rd B (W.alloc (.cells #[.slice (some ⟨b, off, none⟩) 2000 cap, .int .i64 0] 54)) W.heap.size 0 := ⟨_, 2000, cap, heap_alloc_new W _, Nat.le_refl _, hB, fun _ => ⟨b, off, rfl, e2, fun i hi => by
        obtain ⟨u, hu, hr⟩ := e3 i (by omega)
        exact ⟨u, cellAlloc _ hu, hr⟩⟩⟩
    have HR := Lib.hid R
    clear R h3 e3
    go_enter Try.func21, Try.ntmps21
    go_wp2
    go_ret
    exact ⟨rfl, HR.out, (Below.refl _ _).alloc (Nat.le_refl _) _, by simp⟩

/-- What a run of draws leaves: a number; the reader has drawn at most that often; below its block nothing is written. -/
def Ran (B rb k : Nat) (W : World) (e : Ending) (W' : World) : Prop :=
  ∃ z : Int, e = .returned (.int .i64 z) ∧ (∃ j, j ≤ k ∧ Rd B W' rb j) ∧ Below rb W W'

theorem below_of_grown {W W' : World} {rb : Nat} (hg : W.grownBy W' (some rb)) (h : rb ≤ W.heap.size) : Below rb W W' :=
  (Below.refl _ _).grown hg h (fun j e => by cases e; exact Nat.le_refl _)

theorem ints_new (W : World) (cs : Array Value) (t : TypeId) (h : ∀ v ∈ cs.toList, ∃ z : Int, v = .int .i64 z) : ∀ i, i < cs.size → ∃ z : Int, (W.alloc (.cells cs t)).cell? ⟨W.heap.size, i, none⟩ = some (.int .i64 z) := by
  intro i hi
  obtain ⟨z, hz⟩ := h cs[i] (by simp)
  refine ⟨z, ?_⟩
  rw [cell_of_row _ W.heap.size i cs t (0, 0) (heap_alloc_new W _), ← hz]
  simp [hi]

theorem num38new {B : Nat} {W : World} {rb k : Nat} (h : Rd B W rb k) (hk : k ≤ 1000000) (cs : Array Value) (m : Nat) (hm : cs.size = m) (m1 : 0 < m) (m2 : m ≤ 1000) (hc : ∀ v ∈ cs.toList, ∃ z : Int, v = .int .i64 z) :
    Calls Try.prog 27 #[.pointer (some ⟨rb, 0, none⟩), .slice (some ⟨W.heap.size, 0, none⟩) m m] (W.alloc (.cells cs 3)) fun e W' => ∃ z : Int, e = .returned (.int .i64 z) ∧ Rd B W' rb (k + 1) ∧ Below rb W W' := by
  subst hm
  have hlt := h.lt
  refine (num38 (h.below ((Below.refl _ _).alloc (Nat.le_refl _) _)) hk m1 m2 (by omega) (ints_new W cs 3 hc)).mono ?_
  rintro e W' ⟨z, he, hr, hg⟩
  exact ⟨z, he, hr, ((Below.refl rb W).alloc (by omega) _).trans (below_of_grown hg (by simp; omega))⟩

set_option maxHeartbeats 400000 in
theorem good37 {B : Nat} {W : World} {rb k : Nat} (h : Rd B W rb k) (hk : k ≤ 900000) :
    Calls Try.prog 26 #[.pointer (some ⟨rb, 0, none⟩)] W (Ran B rb (k + 8) W) := by
  go_enter Try.func26, Try.ntmps26
  go_wp2_with fail
  go_at_call 25
  refine (pick36 h (by omega) (by omega) (by omega)).mono ?_
  rintro e W1 ⟨x1, rfl, a1, b1, h1, g1⟩
  go_wp2_with fail
  go_at_call 25
  refine (pick36 h1 (by omega) (by omega) (by omega)).mono ?_
  rintro e W2 ⟨x2, rfl, a2, b2, h2, g2⟩
  go_wp2_with fail
  go_at_call 25
  refine (pick36 h2 (by omega) (by omega) (by omega)).mono ?_
  rintro e W3 ⟨x3, rfl, a3, b3, h3, g3⟩
  go_wp2_with fail
  go_at_call 25
  refine (pick36 h3 (by omega) (by omega) (by omega)).mono ?_
  rintro e W4 ⟨x4, rfl, a4, b4, h4, g4⟩
  go_wp2_with fail
  go_at_call 25
  refine (pick36 h4 (by omega) (by omega) (by omega)).mono ?_
  rintro e W5 ⟨x5, rfl, a5, b5, h5, g5⟩
  go_wp2_with fail
  go_at_call 25
  refine (pick36 h5 (by omega) (by omega) (by omega)).mono ?_
  rintro e W6 ⟨x6, rfl, a6, b6, h6, g6⟩
  have G := Lib.hid (grown_trans g1 (grown_trans g2 (grown_trans g3 (grown_trans g4 (grown_trans g5 g6)))))
  clear g1 g2 g3 g4 g5 g6
  go_wp2_with fail
  go_at_call 27
  refine Calls.mono (num38new h6 (by omega) _ 8 ?_ (by omega) (by omega) ?_) ?_
  · rfl
  · intro v hv
    simp at hv
    rcases hv with rfl | rfl | rfl | rfl | rfl | rfl | rfl | rfl <;> exact ⟨_, rfl⟩
  rintro e W7 ⟨z, rfl, h7, g7⟩
  go_wp2
  go_ret
  have hW := h.lt
  have hG := below_of_grown G.out (by omega)
  have hG7 := hG.trans g7
  exact ⟨z, rfl, ⟨_, by omega, h7⟩, hG7⟩

set_option maxHeartbeats 1000000 in
theorem draw32 {B : Nat} {W : World} {rb k : Nat} (h : Rd B W rb k) (hk : k ≤ 800000) :
    Calls Try.prog 20 #[.pointer (some ⟨rb, 0, none⟩)] W (Ran B rb (k + 10) W) := by
  go_enter Try.func20, Try.ntmps20
  go_wp2_with fail
  go_at_call 25
  refine (pick36 h (by omega) (by omega) (by omega)).mono ?_
  rintro e W1 ⟨x1, rfl, a1, b1, h1, g1⟩
  have hW := Lib.hid h.lt
  have hG := below_of_grown g1 (by have := hW.out; omega)
  cases hx : (x1 == 0) with
  | true =>
    go_wp2_with fail
    go_at_call 27
    refine Calls.mono (num38new h1 (by omega) _ 3 ?_ (by omega) (by omega) ?_) ?_
    · rfl
    · intro v hv
      simp at hv
      rcases hv with rfl | rfl | rfl <;> exact ⟨_, rfl⟩
    rintro e W7 ⟨z, rfl, h7, g7⟩
    go_wp2
    go_ret
    exact ⟨z, rfl, ⟨_, by omega, h7⟩, hG.trans g7⟩
  | false =>
    go_wp2_with fail
    go_at_call 26
    refine (good37 h1 (by omega)).mono ?_
    rintro e W7 ⟨z, rfl, ⟨j, hj, h7⟩, g7⟩
    go_wp2
    go_ret
    exact ⟨z, rfl, ⟨j, by omega, h7⟩, hG.trans g7⟩

/-- What a Draw of one number leaves. -/
def OneNum (W : World) (e : Ending) (W' : World) : Prop := ∃ z : Int, e = .returned (.int .i64 z) ∧ Below W.heap.size W W'
def TwoNum (W : World) (e : Ending) (W' : World) : Prop := ∃ y z : Int, e = .returned (.tuple #[.int .i64 y, .int .i64 z]) ∧ Below W.heap.size W W'

theorem draw11 {B : Nat} {W : World} {a : Option Addr} {len cap : Nat} (h : Code B W a len cap) (hB : B ≤ W.heap.size) :
    Calls Try.prog 5 #[.slice a len cap] W (OneNum W) := by
  go_enter Try.func5, Try.ntmps5
  go_wp2_with fail
  go_at_call 21
  refine (open33 h hB).mono ?_
  rintro e W1 ⟨rfl, h1, b1, z1⟩
  have Z := Lib.hid z1
  clear z1
  go_wp2_with fail
  go_at_call 20
  refine (draw32 h1 (by omega)).mono ?_
  rintro e W2 ⟨z, rfl, _, b2⟩
  go_wp2
  go_ret
  exact ⟨z, rfl, b1.trans b2⟩

set_option maxHeartbeats 1000000 in
theorem draw15 {B : Nat} {W : World} {a : Option Addr} {len cap : Nat} (h : Code B W a len cap) (hB : B ≤ W.heap.size) :
    Calls Try.prog 9 #[.slice a len cap] W (TwoNum W) := by
  go_enter Try.func9, Try.ntmps9
  go_wp2_with fail
  go_at_call 21
  refine (open33 h hB).mono ?_
  rintro e W1 ⟨rfl, h1, b1, z1⟩
  have Z := Lib.hid z1
  clear z1
  go_wp2_with fail
  go_at_call 20
  refine (draw32 h1 (by omega)).mono ?_
  rintro e W2 ⟨z, rfl, ⟨j, hj, h2⟩, b2⟩
  go_wp2_with fail
  go_at_call 25
  refine (pick36 h2 (by omega) (by omega) (by omega)).mono ?_
  rintro e W3 ⟨x3, rfl, a3, b3, h3, g3⟩
  have hG := (b1.trans b2).trans (below_of_grown g3 (by have := h2.lt; omega))
  cases hx : (x3 == 0) with
  | true =>
    go_wp2_with fail
    go_at_call 26
    refine (good37 h3 (by omega)).mono ?_
    rintro e W7 ⟨y, rfl, _, b7⟩
    go_wp2
    go_ret2
    exact ⟨_, _, rfl, hG.trans b7⟩
  | false =>
    go_wp2_with fail
    go_at_call 20
    refine (draw32 h3 (by omega)).mono ?_
    rintro e W7 ⟨y, rfl, _, b7⟩
    go_wp2
    go_ret2
    exact ⟨_, _, rfl, hG.trans b7⟩

set_option maxHeartbeats 1000000 in
theorem draw16 {B : Nat} {W : World} {a : Option Addr} {len cap : Nat} (h : Code B W a len cap) (hB : B ≤ W.heap.size) :
    Calls Try.prog 10 #[.slice a len cap] W (TwoNum W) := by
  go_enter Try.func10, Try.ntmps10
  go_wp2_with fail
  go_at_call 21
  refine (open33 h hB).mono ?_
  rintro e W1 ⟨rfl, h1, b1, z1⟩
  have Z := Lib.hid z1
  clear z1
  go_wp2_with fail
  go_at_call 27
  refine Calls.mono (num38new h1 (by omega) _ 7 ?_ (by omega) (by omega) ?_) ?_
  · rfl
  · intro v hv
    simp at hv
    rcases hv with rfl | rfl | rfl | rfl | rfl | rfl | rfl <;> exact ⟨_, rfl⟩
  rintro e W3 ⟨y, rfl, h3, g3⟩
  have hG := b1.trans g3
  go_wp2_with fail
  go_at_call 27
  refine Calls.mono (num38new h3 (by omega) _ 8 ?_ (by omega) (by omega) ?_) ?_
  · rfl
  · intro v hv
    simp at hv
    rcases hv with rfl | rfl | rfl | rfl | rfl | rfl | rfl | rfl <;> exact ⟨_, rfl⟩
  rintro e W4 ⟨z, rfl, h4, g4⟩
  go_wp2
  go_ret2
  exact ⟨_, _, rfl, hG.trans g4⟩
end Go.Proofs.Ytkffgojnicjkmaa

