/- The drawn arguments of chapter 3: texts that are mostly programs. -/
import Derived.Test.YtnejphdbnfdbhaaGreatDoorD1
namespace Go.Proofs.YtnejphdbnfdbhaaGreatDoor
open Go.ChangeShapes Go.WideShapes Go.ChangeAt Go.RowKit Go.Shelf
set_option maxRecDepth 100000
attribute [local go_sem] Oper.semAt_some

theorem ofP {P : ByteArray → Prop} {B : Nat} {W : World} {rb k g m cap : Nat} (h : Rd B W rb k) (hk : k ≤ 1000000) (m1 : 0 < m) (m2 : m ≤ 1000) (hg : g ≠ rb)
    (hc : ∀ i, i < m → ∃ t : ByteArray, P t ∧ W.cell? ⟨g, i, none⟩ = some (.string t)) :
    Calls Tryz.prog 67 #[.pointer (some ⟨rb, 0, none⟩), .slice (some ⟨g, 0, none⟩) m cap] W fun e W' => ∃ t : ByteArray, P t ∧ e = .returned (.string t) ∧ Rd B W' rb (k + 1) ∧ W.grownBy W' (some rb) := by
  have HC := Lib.hid hc
  have m3 : (1 : Int) ≤ (m : Int) := by omega
  have m4 : (m : Int) ≤ 1000 := by omega
  clear hc
  go_enter Tryz.func67, Tryz.ntmps67
  go_wp2_with fail
  go_at_call 66
  refine (pick36 h hk m3 m4).mono ?_
  rintro e W1 ⟨r, rfl, r0, r1, h1, g1⟩
  obtain ⟨q, rfl⟩ : ∃ q : Nat, r = (q : Int) := ⟨r.toNat, by omega⟩
  have hq : q < m := by omega
  obtain ⟨t, ht, hz⟩ := HC.out q hq
  have hz1 := g1.cell hz (by simpa using hg)
  have HT := Lib.hid ht
  clear hz ht
  go_wp2
  go_ret
  exact ⟨t, HT.out, rfl, h1, g1⟩
theorem ofPnew {P : ByteArray → Prop} {B : Nat} {W : World} {rb k : Nat} (h : Rd B W rb k) (hk : k ≤ 1000000) (cs : Array Value) (m : Nat) (hm : cs.size = m) (m1 : 0 < m) (m2 : m ≤ 1000) (hc : ∀ v ∈ cs.toList, ∃ t : ByteArray, P t ∧ v = .string t) :
    Calls Tryz.prog 67 #[.pointer (some ⟨rb, 0, none⟩), .slice (some ⟨W.heap.size, 0, none⟩) m m] (W.alloc (.cells cs 9)) fun e W' => ∃ t : ByteArray, P t ∧ e = .returned (.string t) ∧ Rd B W' rb (k + 1) ∧ Below rb W W' := by
  subst hm
  have hlt := h.lt
  refine (ofP (P := P) (h.below ((Below.refl _ _).alloc (Nat.le_refl _) _)) hk m1 m2 (by omega) (fun i hi => ?_)).mono ?_
  · obtain ⟨t, ht, hz⟩ := hc cs[i] (by simp)
    refine ⟨t, ht, ?_⟩
    rw [cell_of_row _ W.heap.size i cs 9 (0, 0) (heap_alloc_new W _), ← hz]
    simp [hi]
  · rintro e W' ⟨t, ht, he, hr, hg⟩
    exact ⟨t, ht, he, hr, ((Below.refl rb W).alloc (by omega) _).trans (below_of_grown hg (by simp; omega))⟩

/-- What a draw of a text of so many bytes leaves. -/
def RanS (B rb lo hi k : Nat) (W : World) (e : Ending) (W' : World) : Prop :=
  ∃ t : ByteArray, (lo ≤ t.size ∧ t.size ≤ hi) ∧ e = .returned (.string t) ∧ (∃ j, j ≤ k ∧ Rd B W' rb j) ∧ Below rb W W'

/-! ### The known programs -/
set_option maxHeartbeats 4000000 in
theorem known68 (q : Nat) (hq : q < 15) (W : World) :
    Calls Tryz.prog 88 #[.int .i64 (q : Int)] W fun e W' => (∃ t : ByteArray, (1 ≤ t.size ∧ t.size ≤ 60) ∧ e = .returned (.string t)) ∧ Below W.heap.size W W' := by
  rcases (by omega : q = 0 ∨ q = 1 ∨ q = 2 ∨ q = 3 ∨ q = 4 ∨ q = 5 ∨ q = 6 ∨ q = 7 ∨ q = 8 ∨ q = 9 ∨ q = 10 ∨ q = 11 ∨ q = 12 ∨ q = 13 ∨ q = 14) with rfl | rfl | rfl | rfl | rfl | rfl | rfl | rfl | rfl | rfl | rfl | rfl | rfl | rfl | rfl
  all_goals
    go_enter Tryz.func88, Tryz.ntmps88
    go_wp2
    go_ret
    exact ⟨⟨_, by decide, rfl⟩, (Below.refl _ _).alloc (Nat.le_refl _) _⟩

/-! ### Drawing a program -/
def lenB : Nat → Nat
  | 0 => 5
  | d + 1 => 2 * lenB d + 3
def cost : Nat → Nat
  | 0 => 3
  | d + 1 => 2 * cost d + 5
theorem lenB_le {d : Nat} (h : d ≤ 4) : 5 ≤ lenB d ∧ lenB d ≤ 125 := by
  rcases (by omega : d = 0 ∨ d = 1 ∨ d = 2 ∨ d = 3 ∨ d = 4) with rfl | rfl | rfl | rfl | rfl <;> decide
theorem cost_le {d : Nat} (h : d ≤ 4) : 3 ≤ cost d ∧ cost d ≤ 200 := by
  rcases (by omega : d = 0 ∨ d = 1 ∨ d = 2 ∨ d = 3 ∨ d = 4) with rfl | rfl | rfl | rfl | rfl <;> decide

theorem sq_size {p : List UInt8} (h : p.length = 3) {m : Nat} (hm : 5 ≤ m) : 1 ≤ (⟨#[91]⟩ ++ ⟨p.toArray⟩ ++ ⟨#[93]⟩ : ByteArray).size ∧ (⟨#[91]⟩ ++ ⟨p.toArray⟩ ++ ⟨#[93]⟩ : ByteArray).size ≤ m := by
  rw [ByteArray.size_append, ByteArray.size_append]
  have h1 : (⟨p.toArray⟩ : ByteArray).size = 3 := h
  have h2 : (⟨#[91]⟩ : ByteArray).size = 1 := rfl
  have h3 : (⟨#[93]⟩ : ByteArray).size = 1 := rfl
  omega
theorem br_size {t : ByteArray} {n m : Nat} (h : 1 ≤ t.size ∧ t.size ≤ n) (hm : m = 2 * n + 3) : 1 ≤ (⟨#[123]⟩ ++ t ++ ⟨#[125]⟩ : ByteArray).size ∧ (⟨#[123]⟩ ++ t ++ ⟨#[125]⟩ : ByteArray).size ≤ m := by
  rw [ByteArray.size_append, ByteArray.size_append]
  have h2 : (⟨#[123]⟩ : ByteArray).size = 1 := rfl
  have h3 : (⟨#[125]⟩ : ByteArray).size = 1 := rfl
  omega
theorem pr_size {t u : ByteArray} {k : UInt8} {n m : Nat} (h : 1 ≤ t.size ∧ t.size ≤ n) (h' : 1 ≤ u.size ∧ u.size ≤ n) (hm : m = 2 * n + 3) : 1 ≤ (⟨#[40]⟩ ++ t ++ ⟨#[k]⟩ ++ u ++ ⟨#[41]⟩ : ByteArray).size ∧ (⟨#[40]⟩ ++ t ++ ⟨#[k]⟩ ++ u ++ ⟨#[41]⟩ : ByteArray).size ≤ m := by
  rw [ByteArray.size_append, ByteArray.size_append, ByteArray.size_append, ByteArray.size_append]
  have h2 : (⟨#[40]⟩ : ByteArray).size = 1 := rfl
  have h3 : (⟨#[41]⟩ : ByteArray).size = 1 := rfl
  have h4 : (⟨#[k]⟩ : ByteArray).size = 1 := rfl
  omega
theorem tests_by3' : ∀ p ∈ tests, p.length = 3 := by decide

set_option maxHeartbeats 4000000 in
theorem draw_zero {B : Nat} {W : World} {rb k : Nat} (hx : Rd B W rb k) (hk : k ≤ 899997) :
    Calls Tryz.prog 89 #[.pointer (some ⟨rb, 0, none⟩), .int .i64 0] W (RanS B rb 1 5 (k + 3) W) := by
  have hG := Below.refl rb W
  go_enter Tryz.func89, Tryz.ntmps89
  go_wp2_with fail
  go_at_call 66
  refine (pick36 hx (by omega) (by omega) (by omega)).mono ?_
  rintro e W2 ⟨y, rfl, y0, y1, h2, g2⟩
  have hG2 := hG.trans (below_of_grown g2 (by have := hx.lt; omega))
  by_cases q0 : y = 0
  · subst q0
    go_wp2_with fail
    go_at_call 100
    refine (good46 h2 (by omega)).mono ?_
    rintro e W3 ⟨p, hp, rfl, ⟨j, hj, h3⟩, g3⟩
    have hp3 := tests_by3' p hp
    have l1 : 1 + p.length ≤ 9223372036854775807 := by omega
    have l2 : 1 + p.length + 1 ≤ 9223372036854775807 := by omega
    have HP := Lib.hid hp3
    clear hp hp3
    go_wp2_with fail
    go_ret
    exact ⟨_, sq_size HP.out (by omega), rfl, ⟨j, by omega, h3⟩, hG2.trans g3⟩
  · have n0 : (y == 0) = false := by simpa using q0
    by_cases q1 : y = 1
    · subst q1
      go_wp2_with fail
      go_at_call 67
      refine Calls.mono (ofPnew (P := fun t => 1 ≤ t.size ∧ t.size ≤ 5) h2 (by omega) _ 3 ?_ (by omega) (by omega) ?_) ?_
      · rfl
      · intro v hv
        simp at hv
        rcases hv with rfl | rfl | rfl <;> exact ⟨_, by decide, rfl⟩
      rintro e W3 ⟨t, ht, rfl, h3, g3⟩
      go_wp2_with fail
      go_ret
      exact ⟨t, ⟨ht.1, Nat.le_trans ht.2 (by omega)⟩, rfl, ⟨_, by omega, h3⟩, hG2.trans g3⟩
    · have n1 : (y == 1) = false := by simpa using q1
      go_wp2_with fail
      go_at_call 67
      refine Calls.mono (ofPnew (P := fun t => 1 ≤ t.size ∧ t.size ≤ 5) h2 (by omega) _ 9 ?_ (by omega) (by omega) ?_) ?_
      · rfl
      · intro v hv
        simp at hv
        rcases hv with rfl | rfl | rfl | rfl | rfl | rfl | rfl | rfl | rfl <;> exact ⟨_, by decide, rfl⟩
      rintro e W3 ⟨t, ht, rfl, h3, g3⟩
      go_wp2_with fail
      go_ret
      exact ⟨t, ⟨ht.1, Nat.le_trans ht.2 (by omega)⟩, rfl, ⟨_, by omega, h3⟩, hG2.trans g3⟩

set_option maxHeartbeats 4000000 in
theorem draw_succ (d : Nat) (hd : d ≤ 3) {B rb k : Nat} (hk : k ≤ 900000 - cost (d + 1)) (IH : ∀ {k : Nat} (W : World), Rd B W rb k → k ≤ 900000 - cost d → Calls Tryz.prog 89 #[.pointer (some ⟨rb, 0, none⟩), .int .i64 (d : Int)] W (RanS B rb 1 (lenB d) (k + cost d) W)) {W : World} (h : Rd B W rb k) :
    Calls Tryz.prog 89 #[.pointer (some ⟨rb, 0, none⟩), .int .i64 ((d : Int) + 1)] W (RanS B rb 1 (lenB (d + 1)) (k + cost (d + 1)) W) := by
  have hl := lenB_le (d := d) (by omega)
  have hc := cost_le (d := d) (by omega)
  have hls : lenB (d + 1) = 2 * lenB d + 3 := rfl
  have hcs : cost (d + 1) = 2 * cost d + 5 := rfl
  have hdi : (d : Int) ≤ 3 := by omega
  have hd0 : (0 : Int) ≤ (d : Int) := by omega
  have hne : ((d : Int) + 1 == 0) = false := by simp; omega
  go_enter Tryz.func89, Tryz.ntmps89
  go_wp2_with fail
  go_at_call 66
  refine (pick36 h (by omega) (by omega) (by omega)).mono ?_
  rintro e W1 ⟨x, rfl, x0, x1, hx, g1⟩
  have hG := below_of_grown g1 (by have := h.lt; omega)
  by_cases qx : x = 0
  · subst qx
    go_wp2_with fail
    go_at_call 66
    refine (pick36 hx (by omega) (by omega) (by omega)).mono ?_
    rintro e W2 ⟨y, rfl, y0, y1, h2, g2⟩
    have hG2 := hG.trans (below_of_grown g2 (by have := hx.lt; omega))
    by_cases q0 : y = 0
    · subst q0
      go_wp2_with fail
      go_at_call 100
      refine (good46 h2 (by omega)).mono ?_
      rintro e W3 ⟨p, hp, rfl, ⟨j, hj, h3⟩, g3⟩
      have hp3 := tests_by3' p hp
      have l1 : 1 + p.length ≤ 9223372036854775807 := by omega
      have l2 : 1 + p.length + 1 ≤ 9223372036854775807 := by omega
      have HP := Lib.hid hp3
      clear hp hp3
      go_wp2_with fail
      go_ret
      exact ⟨_, sq_size HP.out (by omega), rfl, ⟨j, by omega, h3⟩, hG2.trans g3⟩
    · have n0 : (y == 0) = false := by simpa using q0
      by_cases q1 : y = 1
      · subst q1
        go_wp2_with fail
        go_at_call 67
        refine Calls.mono (ofPnew (P := fun t => 1 ≤ t.size ∧ t.size ≤ 5) h2 (by omega) _ 3 ?_ (by omega) (by omega) ?_) ?_
        · rfl
        · intro v hv
          simp at hv
          rcases hv with rfl | rfl | rfl <;> exact ⟨_, by decide, rfl⟩
        rintro e W3 ⟨t, ht, rfl, h3, g3⟩
        go_wp2_with fail
        go_ret
        exact ⟨t, ⟨ht.1, Nat.le_trans ht.2 (by omega)⟩, rfl, ⟨_, by omega, h3⟩, hG2.trans g3⟩
      · have n1 : (y == 1) = false := by simpa using q1
        go_wp2_with fail
        go_at_call 67
        refine Calls.mono (ofPnew (P := fun t => 1 ≤ t.size ∧ t.size ≤ 5) h2 (by omega) _ 9 ?_ (by omega) (by omega) ?_) ?_
        · rfl
        · intro v hv
          simp at hv
          rcases hv with rfl | rfl | rfl | rfl | rfl | rfl | rfl | rfl | rfl <;> exact ⟨_, by decide, rfl⟩
        rintro e W3 ⟨t, ht, rfl, h3, g3⟩
        go_wp2_with fail
        go_ret
        exact ⟨t, ⟨ht.1, Nat.le_trans ht.2 (by omega)⟩, rfl, ⟨_, by omega, h3⟩, hG2.trans g3⟩
  · have nx : (x == 0) = false := by simpa using qx
    go_wp2_with fail
    go_at_call 66
    refine (pick36 hx (by omega) (by omega) (by omega)).mono ?_
    rintro e W2 ⟨y, rfl, y0, y1, h2, g2⟩
    have hG2 := hG.trans (below_of_grown g2 (by have := hx.lt; omega))
    by_cases q0 : y = 0
    · subst q0
      go_wp2_with fail
      go_at_call 89
      refine (IH _ h2 (by omega)).mono ?_
      rintro e W3 ⟨t, ht, rfl, ⟨j, hj, h3⟩, g3⟩
      have l1 : 1 + t.size ≤ 9223372036854775807 := by omega
      have l2 : 1 + t.size + 1 ≤ 9223372036854775807 := by omega
      have HT := Lib.hid ht
      clear ht
      go_wp2_with fail
      go_ret
      exact ⟨_, br_size HT.out hls, rfl, ⟨j, by omega, h3⟩, hG2.trans g3⟩
    · have n0 : (y == 0) = false := by simpa using q0
      by_cases q1 : y = 1
      · subst q1
        go_wp2_with fail
        go_at_call 89
        refine (IH _ h2 (by omega)).mono ?_
        rintro e W3 ⟨t, ht, rfl, ⟨j, hj, h3⟩, g3⟩
        have hG3 := hG2.trans g3
        go_wp2_with fail
        go_at_call 89
        refine (IH _ h3 (by omega)).mono ?_
        rintro e W4 ⟨u, hu, rfl, ⟨j2, hj2, h4⟩, g4⟩
        have l1 : 1 + t.size ≤ 9223372036854775807 := by omega
        have l2 : 1 + t.size + 1 ≤ 9223372036854775807 := by omega
        have l3 : 1 + t.size + 1 + u.size ≤ 9223372036854775807 := by omega
        have l4 : 1 + t.size + 1 + u.size + 1 ≤ 9223372036854775807 := by omega
        have HT := Lib.hid ht
        have HU := Lib.hid hu
        clear ht hu
        go_wp2_with fail
        go_ret
        exact ⟨_, pr_size HT.out HU.out hls, rfl, ⟨j2, by omega, h4⟩, hG3.trans g4⟩
      · have n1 : (y == 1) = false := by simpa using q1
        by_cases q2 : y = 2
        · subst q2
          go_wp2_with fail
          go_at_call 89
          refine (IH _ h2 (by omega)).mono ?_
          rintro e W3 ⟨t, ht, rfl, ⟨j, hj, h3⟩, g3⟩
          have hG3 := hG2.trans g3
          go_wp2_with fail
          go_at_call 89
          refine (IH _ h3 (by omega)).mono ?_
          rintro e W4 ⟨u, hu, rfl, ⟨j2, hj2, h4⟩, g4⟩
          have l1 : 1 + t.size ≤ 9223372036854775807 := by omega
          have l2 : 1 + t.size + 1 ≤ 9223372036854775807 := by omega
          have l3 : 1 + t.size + 1 + u.size ≤ 9223372036854775807 := by omega
          have l4 : 1 + t.size + 1 + u.size + 1 ≤ 9223372036854775807 := by omega
          have HT := Lib.hid ht
          have HU := Lib.hid hu
          clear ht hu
          go_wp2_with fail
          go_ret
          exact ⟨_, pr_size HT.out HU.out hls, rfl, ⟨j2, by omega, h4⟩, hG3.trans g4⟩
        · have n2 : (y == 2) = false := by simpa using q2
          go_wp2_with fail
          go_at_call 89
          refine (IH _ h2 (by omega)).mono ?_
          rintro e W3 ⟨t, ht, rfl, ⟨j, hj, h3⟩, g3⟩
          have hG3 := hG2.trans g3
          go_wp2_with fail
          go_at_call 89
          refine (IH _ h3 (by omega)).mono ?_
          rintro e W4 ⟨u, hu, rfl, ⟨j2, hj2, h4⟩, g4⟩
          have l1 : 1 + t.size ≤ 9223372036854775807 := by omega
          have l2 : 1 + t.size + 1 ≤ 9223372036854775807 := by omega
          have l3 : 1 + t.size + 1 + u.size ≤ 9223372036854775807 := by omega
          have l4 : 1 + t.size + 1 + u.size + 1 ≤ 9223372036854775807 := by omega
          have HT := Lib.hid ht
          have HU := Lib.hid hu
          clear ht hu
          go_wp2_with fail
          go_ret
          exact ⟨_, pr_size HT.out HU.out hls, rfl, ⟨j2, by omega, h4⟩, hG3.trans g4⟩

theorem draw69 : ∀ (d : Nat), d ≤ 4 → ∀ {B rb k : Nat} (W : World), Rd B W rb k → k ≤ 900000 - cost d → Calls Tryz.prog 89 #[.pointer (some ⟨rb, 0, none⟩), .int .i64 (d : Int)] W (RanS B rb 1 (lenB d) (k + cost d) W)
  | 0, _, _, _, _, W, h, hk => draw_zero h (by have : cost 0 = 3 := rfl; omega)
  | d + 1, hd, B, rb, k, W, h, hk => by
    have hcs : cost (d + 1) = 2 * cost d + 5 := rfl
    have hc := cost_le (d := d) (by omega)
    rw [show ((d + 1 : Nat) : Int) = (d : Int) + 1 from rfl]
    exact draw_succ d (by omega) (by omega) (fun W' h' hk' => draw69 d (by omega) W' h' (by omega)) h
end Go.Proofs.YtnejphdbnfdbhaaGreatDoor

