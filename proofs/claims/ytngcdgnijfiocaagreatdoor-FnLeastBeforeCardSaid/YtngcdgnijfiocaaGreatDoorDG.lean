/- Draws that write nothing but the reader's own block: numbers, texts, tests, sets, programs. -/
import Derived.Test.YtngcdgnijfiocaaGreatDoorD5
namespace Go.Proofs.YtngcdgnijfiocaaGreatDoor
open Go.ChangeShapes Go.WideShapes Go.ChangeAt Go.RowKit Go.Shelf
set_option maxRecDepth 100000
attribute [local go_sem] Oper.semAt_some

theorem grown_of_belowD {W W' : World} (h : Below W.heap.size W W') (row : Option Nat) : W.grownBy W' row := ⟨h.os, h.tape, h.output, h.size, fun i hi _ => h.block i hi⟩
theorem num38g {B : Nat} {W : World} {rb k : Nat} (h : Rd B W rb k) (hk : k ≤ 1000000) (cs : Array Value) (m : Nat) (hm : cs.size = m) (m1 : 0 < m) (m2 : m ≤ 1000) (hc : ∀ v ∈ cs.toList, ∃ z : Int, v = .int .i64 z) :
    Calls Tryz.prog 58 #[.pointer (some ⟨rb, 0, none⟩), .slice (some ⟨W.heap.size, 0, none⟩) m m] (W.alloc (.cells cs 3)) fun e W' => ∃ z : Int, e = .returned (.int .i64 z) ∧ Rd B W' rb (k + 1) ∧ W.grownBy W' (some rb) := by
  subst hm
  have hlt := h.lt
  refine (num38 (h.below ((Below.refl _ _).alloc (Nat.le_refl _) _)) hk m1 m2 (by omega) (ints_new W cs 3 hc)).mono ?_
  rintro e W' ⟨z, he, hr, hg⟩
  exact ⟨z, he, hr, grown_trans (World.grownBy_alloc W _ (some rb)) hg⟩
set_option maxHeartbeats 400000 in
theorem good37g {B : Nat} {W : World} {rb k : Nat} (h : Rd B W rb k) (hk : k ≤ 900000) :
    Calls Tryz.prog 68 #[.pointer (some ⟨rb, 0, none⟩)] W fun e W' => ∃ z : Int, e = .returned (.int .i64 z) ∧ (∃ j, j ≤ k + 8 ∧ Rd B W' rb j) ∧ W.grownBy W' (some rb) := by
  go_enter Tryz.func68, Tryz.ntmps68
  go_wp2_with fail
  go_at_call 34
  refine (pick36 h (by omega) (by omega) (by omega)).mono ?_
  rintro e W1 ⟨x1, rfl, a1, b1, h1, g1⟩
  go_wp2_with fail
  go_at_call 34
  refine (pick36 h1 (by omega) (by omega) (by omega)).mono ?_
  rintro e W2 ⟨x2, rfl, a2, b2, h2, g2⟩
  go_wp2_with fail
  go_at_call 34
  refine (pick36 h2 (by omega) (by omega) (by omega)).mono ?_
  rintro e W3 ⟨x3, rfl, a3, b3, h3, g3⟩
  go_wp2_with fail
  go_at_call 34
  refine (pick36 h3 (by omega) (by omega) (by omega)).mono ?_
  rintro e W4 ⟨x4, rfl, a4, b4, h4, g4⟩
  go_wp2_with fail
  go_at_call 34
  refine (pick36 h4 (by omega) (by omega) (by omega)).mono ?_
  rintro e W5 ⟨x5, rfl, a5, b5, h5, g5⟩
  go_wp2_with fail
  go_at_call 34
  refine (pick36 h5 (by omega) (by omega) (by omega)).mono ?_
  rintro e W6 ⟨x6, rfl, a6, b6, h6, g6⟩
  have G := Lib.hid (grown_trans g1 (grown_trans g2 (grown_trans g3 (grown_trans g4 (grown_trans g5 g6)))))
  clear g1 g2 g3 g4 g5 g6
  go_wp2_with fail
  go_at_call 58
  refine Calls.mono (num38g h6 (by omega) _ 8 ?_ (by omega) (by omega) ?_) ?_
  · rfl
  · intro v hv
    simp at hv
    rcases hv with rfl | rfl | rfl | rfl | rfl | rfl | rfl | rfl <;> exact ⟨_, rfl⟩
  rintro e W7 ⟨z, rfl, h7, g7⟩
  go_wp2
  go_ret
  exact ⟨z, rfl, ⟨_, by omega, h7⟩, grown_trans G.out g7⟩
theorem ofPg {P : ByteArray → Prop} {B : Nat} {W : World} {rb k : Nat} (h : Rd B W rb k) (hk : k ≤ 1000000) (cs : Array Value) (m : Nat) (hm : cs.size = m) (m1 : 0 < m) (m2 : m ≤ 1000) (hc : ∀ v ∈ cs.toList, ∃ t : ByteArray, P t ∧ v = .string t) :
    Calls Tryz.prog 59 #[.pointer (some ⟨rb, 0, none⟩), .slice (some ⟨W.heap.size, 0, none⟩) m m] (W.alloc (.cells cs 9)) fun e W' => ∃ t : ByteArray, P t ∧ e = .returned (.string t) ∧ Rd B W' rb (k + 1) ∧ W.grownBy W' (some rb) := by
  subst hm
  have hlt := h.lt
  refine (ofP (P := P) (h.below ((Below.refl _ _).alloc (Nat.le_refl _) _)) hk m1 m2 (by omega) (fun i hi => ?_)).mono ?_
  · obtain ⟨t, ht, hz⟩ := hc cs[i] (by simp)
    refine ⟨t, ht, ?_⟩
    rw [cell_of_row _ W.heap.size i cs 9 (0, 0) (heap_alloc_new W _), ← hz]
    simp [hi]
  · rintro e W' ⟨t, ht, he, hr, hg⟩
    exact ⟨t, ht, he, hr, grown_trans (World.grownBy_alloc W _ (some rb)) hg⟩
set_option maxHeartbeats 1000000 in
theorem good46g {B : Nat} {W : World} {rb k : Nat} (h : Rd B W rb k) (hk : k ≤ 900000) :
    Calls Tryz.prog 110 #[.pointer (some ⟨rb, 0, none⟩)] W fun e W' => ∃ p, p ∈ tests ∧ e = .returned (.string ⟨p.toArray⟩) ∧ (∃ j, j ≤ k + 1 ∧ Rd B W' rb j) ∧ W.grownBy W' (some rb) := by
  have hW := Lib.hid h.lt
  go_enter Tryz.func110, Tryz.ntmps110
  go_wp2_with fail
  go_at_call 127
  refine (all39 _).mono ?_
  rintro e W1 ⟨v, rfl, hown, hb⟩
  obtain ⟨g, cap, rfl, hgB, hgl, hcells⟩ := tests_at hown
  have HC := Lib.hid hcells
  have h1 := h.below hb
  clear hcells hown
  go_wp2_with fail
  go_at_call 34
  refine (pick36 h1 (by omega) (by omega) (by omega)).mono ?_
  rintro e W2 ⟨r, rfl, r0, r1, h2, g2⟩
  obtain ⟨q, rfl⟩ : ∃ q : Nat, r = (q : Int) := ⟨r.toNat, by omega⟩
  have hq : q < 20 := by omega
  obtain ⟨p, hp⟩ := tests_some q hq
  have hne : g ≠ rb := by have := hW.out; omega
  have c1 := g2.cell (HC.out q p hp) (by simpa using hne)
  have HP := Lib.hid hp
  clear hp
  go_wp2
  go_ret
  exact ⟨p, some_mem HP.out, rfl, ⟨_, by omega, h2⟩, grown_trans (grown_of_belowD hb _) g2⟩

def RanNg (B rb d k : Nat) (W : World) (e : Ending) (W' : World) : Prop :=
  ∃ t : ByteArray, Gen d t ∧ e = .returned (.string t) ∧ (∃ j, j ≤ k ∧ Rd B W' rb j) ∧ W.grownBy W' (some rb)
/-! ### Drawing a program -/
set_option maxHeartbeats 4000000 in
theorem draw_zerog {B : Nat} {W : World} {rb k : Nat} (hx : Rd B W rb k) (hk : k ≤ 899997) :
    Calls Tryz.prog 92 #[.pointer (some ⟨rb, 0, none⟩), .int .i64 0] W (RanNg B rb 0 (k + 3) W) := by
  have hG := grown_refl W (some rb)
  go_enter Tryz.func92, Tryz.ntmps92
  go_wp2_with fail
  go_at_call 34
  refine (pick36 hx (by omega) (by omega) (by omega)).mono ?_
  rintro e W2 ⟨y, rfl, y0, y1, h2, g2⟩
  have hG2 := grown_trans hG g2
  by_cases q0 : y = 0
  · subst q0
    go_wp2_with fail
    go_at_call 110
    refine (good46g h2 (by omega)).mono ?_
    rintro e W3 ⟨p, hp, rfl, ⟨j, hj, h3⟩, g3⟩
    have hp3 := tests_by3' p hp
    have l1 : 1 + p.length ≤ 9223372036854775807 := by omega
    have l2 : 1 + p.length + 1 ≤ 9223372036854775807 := by omega
    have HP := Lib.hid hp
    clear hp hp3
    go_wp2_with fail
    go_ret
    exact ⟨_, gen_sq HP.out _, rfl, ⟨j, by omega, h3⟩, (grown_trans hG2 g3)⟩
  · have n0 : (y == 0) = false := by simpa using q0
    by_cases q1 : y = 1
    · subst q1
      go_wp2_with fail
      go_at_call 59
      refine Calls.mono (ofPg (P := Gen 0) h2 (by omega) _ 3 ?_ (by omega) (by omega) ?_) ?_
      · rfl
      · intro v hv
        simp at hv
        exact gen_word (by rcases hv with rfl | rfl | rfl <;> simp)
      rintro e W3 ⟨t, ht, rfl, h3, g3⟩
      go_wp2_with fail
      go_ret
      exact ⟨t, ht, rfl, ⟨_, by omega, h3⟩, (grown_trans hG2 g3)⟩
    · have n1 : (y == 1) = false := by simpa using q1
      go_wp2_with fail
      go_at_call 59
      refine Calls.mono (ofPg (P := Gen 0) h2 (by omega) _ 9 ?_ (by omega) (by omega) ?_) ?_
      · rfl
      · intro v hv
        simp at hv
        rcases hv with rfl | rfl | rfl | rfl | rfl | rfl | rfl | rfl | rfl <;> exact gen_twos (by decide)
      rintro e W3 ⟨t, ht, rfl, h3, g3⟩
      go_wp2_with fail
      go_ret
      exact ⟨t, ht, rfl, ⟨_, by omega, h3⟩, (grown_trans hG2 g3)⟩

set_option maxHeartbeats 4000000 in
theorem draw_succg (d : Nat) (hd : d ≤ 3) {B rb k : Nat} (hk : k ≤ 900000 - cost (d + 1)) (IH : ∀ {k : Nat} (W : World), Rd B W rb k → k ≤ 900000 - cost d → Calls Tryz.prog 92 #[.pointer (some ⟨rb, 0, none⟩), .int .i64 (d : Int)] W (RanNg B rb d (k + cost d) W)) {W : World} (h : Rd B W rb k) :
    Calls Tryz.prog 92 #[.pointer (some ⟨rb, 0, none⟩), .int .i64 ((d : Int) + 1)] W (RanNg B rb (d + 1) (k + cost (d + 1)) W) := by
  have hl := lenB_le (d := d) (by omega)
  have hc := cost_le (d := d) (by omega)
  have hls : lenB (d + 1) = 2 * lenB d + 3 := rfl
  have hcs : cost (d + 1) = 2 * cost d + 5 := rfl
  have hdi : (d : Int) ≤ 3 := by omega
  have hd0 : (0 : Int) ≤ (d : Int) := by omega
  have hne : ((d : Int) + 1 == 0) = false := by simp; omega
  go_enter Tryz.func92, Tryz.ntmps92
  go_wp2_with fail
  go_at_call 34
  refine (pick36 h (by omega) (by omega) (by omega)).mono ?_
  rintro e W1 ⟨x, rfl, x0, x1, hx, g1⟩
  have hG := g1
  by_cases qx : x = 0
  · subst qx
    go_wp2_with fail
    go_at_call 34
    refine (pick36 hx (by omega) (by omega) (by omega)).mono ?_
    rintro e W2 ⟨y, rfl, y0, y1, h2, g2⟩
    have hG2 := grown_trans hG g2
    by_cases q0 : y = 0
    · subst q0
      go_wp2_with fail
      go_at_call 110
      refine (good46g h2 (by omega)).mono ?_
      rintro e W3 ⟨p, hp, rfl, ⟨j, hj, h3⟩, g3⟩
      have hp3 := tests_by3' p hp
      have l1 : 1 + p.length ≤ 9223372036854775807 := by omega
      have l2 : 1 + p.length + 1 ≤ 9223372036854775807 := by omega
      have HP := Lib.hid hp
      clear hp hp3
      go_wp2_with fail
      go_ret
      exact ⟨_, gen_sq HP.out _, rfl, ⟨j, by omega, h3⟩, (grown_trans hG2 g3)⟩
    · have n0 : (y == 0) = false := by simpa using q0
      by_cases q1 : y = 1
      · subst q1
        go_wp2_with fail
        go_at_call 59
        refine Calls.mono (ofPg (P := Gen (d + 1)) h2 (by omega) _ 3 ?_ (by omega) (by omega) ?_) ?_
        · rfl
        · intro v hv
          simp at hv
          exact gen_word (by rcases hv with rfl | rfl | rfl <;> simp)
        rintro e W3 ⟨t, ht, rfl, h3, g3⟩
        go_wp2_with fail
        go_ret
        exact ⟨t, ht, rfl, ⟨_, by omega, h3⟩, (grown_trans hG2 g3)⟩
      · have n1 : (y == 1) = false := by simpa using q1
        go_wp2_with fail
        go_at_call 59
        refine Calls.mono (ofPg (P := Gen (d + 1)) h2 (by omega) _ 9 ?_ (by omega) (by omega) ?_) ?_
        · rfl
        · intro v hv
          simp at hv
          rcases hv with rfl | rfl | rfl | rfl | rfl | rfl | rfl | rfl | rfl <;> exact gen_twos (by decide)
        rintro e W3 ⟨t, ht, rfl, h3, g3⟩
        go_wp2_with fail
        go_ret
        exact ⟨t, ht, rfl, ⟨_, by omega, h3⟩, (grown_trans hG2 g3)⟩
  · have nx : (x == 0) = false := by simpa using qx
    go_wp2_with fail
    go_at_call 34
    refine (pick36 hx (by omega) (by omega) (by omega)).mono ?_
    rintro e W2 ⟨y, rfl, y0, y1, h2, g2⟩
    have hG2 := grown_trans hG g2
    by_cases q0 : y = 0
    · subst q0
      go_wp2_with fail
      go_at_call 92
      refine (IH _ h2 (by omega)).mono ?_
      rintro e W3 ⟨t, ht, rfl, ⟨j, hj, h3⟩, g3⟩
      have hs1 := ht.2.2
      have l1 : 1 + t.size ≤ 9223372036854775807 := by omega
      have l1 : 1 + t.size ≤ 9223372036854775807 := by omega
      have l2 : 1 + t.size + 1 ≤ 9223372036854775807 := by omega
      have HT := Lib.hid ht
      clear ht
      go_wp2_with fail
      go_ret
      exact ⟨_, gen_br HT.out rfl, rfl, ⟨j, by omega, h3⟩, (grown_trans hG2 g3)⟩
    · have n0 : (y == 0) = false := by simpa using q0
      by_cases q1 : y = 1
      · subst q1
        go_wp2_with fail
        go_at_call 92
        refine (IH _ h2 (by omega)).mono ?_
        rintro e W3 ⟨t, ht, rfl, ⟨j, hj, h3⟩, g3⟩
        have hs1 := ht.2.2
        have l1 : 1 + t.size ≤ 9223372036854775807 := by omega
        have hG3 := (grown_trans hG2 g3)
        go_wp2_with fail
        go_at_call 92
        refine (IH _ h3 (by omega)).mono ?_
        rintro e W4 ⟨u, hu, rfl, ⟨j2, hj2, h4⟩, g4⟩
        have l1 : 1 + t.size ≤ 9223372036854775807 := by omega
        have l2 : 1 + t.size + 1 ≤ 9223372036854775807 := by omega
        have hs2 := hu.2.2
        have l3 : 1 + t.size + 1 + u.size ≤ 9223372036854775807 := by omega
        have l4 : 1 + t.size + 1 + u.size + 1 ≤ 9223372036854775807 := by omega
        have HT := Lib.hid ht
        have HU := Lib.hid hu
        clear ht hu
        go_wp2_with fail
        go_ret
        exact ⟨_, gen_pr HT.out HU.out (by decide) rfl, rfl, ⟨j2, by omega, h4⟩, (grown_trans hG3 g4)⟩
      · have n1 : (y == 1) = false := by simpa using q1
        by_cases q2 : y = 2
        · subst q2
          go_wp2_with fail
          go_at_call 92
          refine (IH _ h2 (by omega)).mono ?_
          rintro e W3 ⟨t, ht, rfl, ⟨j, hj, h3⟩, g3⟩
          have hs1 := ht.2.2
          have l1 : 1 + t.size ≤ 9223372036854775807 := by omega
          have hG3 := (grown_trans hG2 g3)
          go_wp2_with fail
          go_at_call 92
          refine (IH _ h3 (by omega)).mono ?_
          rintro e W4 ⟨u, hu, rfl, ⟨j2, hj2, h4⟩, g4⟩
          have l1 : 1 + t.size ≤ 9223372036854775807 := by omega
          have l2 : 1 + t.size + 1 ≤ 9223372036854775807 := by omega
          have hs2 := hu.2.2
          have l3 : 1 + t.size + 1 + u.size ≤ 9223372036854775807 := by omega
          have l4 : 1 + t.size + 1 + u.size + 1 ≤ 9223372036854775807 := by omega
          have HT := Lib.hid ht
          have HU := Lib.hid hu
          clear ht hu
          go_wp2_with fail
          go_ret
          exact ⟨_, gen_pr HT.out HU.out (by decide) rfl, rfl, ⟨j2, by omega, h4⟩, (grown_trans hG3 g4)⟩
        · have n2 : (y == 2) = false := by simpa using q2
          go_wp2_with fail
          go_at_call 92
          refine (IH _ h2 (by omega)).mono ?_
          rintro e W3 ⟨t, ht, rfl, ⟨j, hj, h3⟩, g3⟩
          have hs1 := ht.2.2
          have l1 : 1 + t.size ≤ 9223372036854775807 := by omega
          have hG3 := (grown_trans hG2 g3)
          go_wp2_with fail
          go_at_call 92
          refine (IH _ h3 (by omega)).mono ?_
          rintro e W4 ⟨u, hu, rfl, ⟨j2, hj2, h4⟩, g4⟩
          have l1 : 1 + t.size ≤ 9223372036854775807 := by omega
          have l2 : 1 + t.size + 1 ≤ 9223372036854775807 := by omega
          have hs2 := hu.2.2
          have l3 : 1 + t.size + 1 + u.size ≤ 9223372036854775807 := by omega
          have l4 : 1 + t.size + 1 + u.size + 1 ≤ 9223372036854775807 := by omega
          have HT := Lib.hid ht
          have HU := Lib.hid hu
          clear ht hu
          go_wp2_with fail
          go_ret
          exact ⟨_, gen_pr HT.out HU.out (by decide) rfl, rfl, ⟨j2, by omega, h4⟩, (grown_trans hG3 g4)⟩

theorem draw69g : ∀ (d : Nat), d ≤ 4 → ∀ {B rb k : Nat} (W : World), Rd B W rb k → k ≤ 900000 - cost d → Calls Tryz.prog 92 #[.pointer (some ⟨rb, 0, none⟩), .int .i64 (d : Int)] W (RanNg B rb d (k + cost d) W)
  | 0, _, _, _, _, W, h, hk => draw_zerog h (by have : cost 0 = 3 := rfl; omega)
  | d + 1, hd, B, rb, k, W, h, hk => by
    have hcs : cost (d + 1) = 2 * cost d + 5 := rfl
    have hc := cost_le (d := d) (by omega)
    rw [show ((d + 1 : Nat) : Int) = (d : Int) + 1 from rfl]
    exact draw_succg d (by omega) (by omega) (fun W' h' hk' => draw69g d (by omega) W' h' (by omega)) h
set_option maxHeartbeats 2000000 in
theorem good55g {B : Nat} {W : World} {rb k : Nat} (h : Rd B W rb k) (hk : k ≤ 890000) :
    Calls Tryz.prog 60 #[.pointer (some ⟨rb, 0, none⟩)] W fun e W' => ∃ t : ByteArray, IsP60 t ∧ e = .returned (.string t) ∧ (∃ j, j ≤ k + 300 ∧ Rd B W' rb j) ∧ W.grownBy W' (some rb) := by
  go_enter Tryz.func60, Tryz.ntmps60
  go_wp2_with fail
  go_at_call 34
  refine (pick36 h (by omega) (by omega) (by omega)).mono ?_
  rintro e W1 ⟨x, rfl, x0, x1, h1, g1⟩
  have hG := g1
  by_cases qx : x = 0
  · subst qx
    go_wp2_with fail
    go_at_call 34
    refine (pick36 h1 (by omega) (by omega) (by omega)).mono ?_
    rintro e W2 ⟨y, rfl, y0, y1, h2, g2⟩
    have hG2 := grown_trans hG g2
    obtain ⟨q, rfl⟩ : ∃ q : Nat, y = (q : Int) := ⟨y.toNat, by omega⟩
    go_wp2_with fail
    go_at_call 91
    refine (known68n q (by omega) _).mono ?_
    rintro e W3 ⟨⟨t, ht, rfl⟩, hb⟩
    have HT := Lib.hid ht
    clear ht
    go_wp2_with fail
    go_ret
    exact ⟨t, HT.out, rfl, ⟨_, by omega, h2.below hb⟩, grown_trans hG2 (grown_of_belowD hb _)⟩
  · have nx : (x == 0) = false := by simpa using qx
    go_wp2_with fail
    go_at_call 34
    refine (pick36 h1 (by omega) (by omega) (by omega)).mono ?_
    rintro e W2 ⟨y, rfl, y0, y1, h2, g2⟩
    have hG2 := grown_trans hG g2
    obtain ⟨q, rfl⟩ : ∃ q : Nat, y = (q : Int) := ⟨y.toNat, by omega⟩
    have hc := cost_le (d := q + 1) (by omega)
    have hl := lenB_le (d := q + 1) (by omega)
    have HD := draw69g (q + 1) (by omega) W2 h2 (by omega)
    have hqe : ((q + 1 : Nat) : Int) = 1 + (q : Int) := by omega
    rw [hqe] at HD
    go_wp2_with fail
    go_at_call 92
    refine HD.mono ?_
    rintro e W3 ⟨t, ht, rfl, ⟨j, hj, h3⟩, g3⟩
    by_cases h60 : (t.size : Int) ≤ 60
    · have HT := Lib.hid ht
      clear ht
      go_wp2_with fail
      go_ret
      exact ⟨t, gen_isP HT.out (by omega) (by omega), rfl, ⟨j, by omega, h3⟩, (grown_trans hG2 g3)⟩
    · have h60' : (60 : Int) < (t.size : Int) := by omega
      clear ht
      go_wp2_with fail
      go_ret
      exact ⟨_, ⟨by rw [Lib.toList_data]; decide +kernel, by decide, by decide⟩, rfl, ⟨j, by omega, h3⟩, (grown_trans hG2 g3)⟩

end Go.Proofs.YtngcdgnijfiocaaGreatDoor

