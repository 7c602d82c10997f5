/- The drawn programs of chapter 3, known to be programs. -/
import Derived.Test.YtngcdgnijfiocaaGreatDoorD4
import Derived.Test.YtngcdgnijfiocaaGreatDoorTree
namespace Go.Proofs.YtngcdgnijfiocaaGreatDoor
open Go.ChangeShapes Go.WideShapes Go.ChangeAt Go.RowKit Go.Shelf
set_option maxRecDepth 100000
attribute [local go_sem] Oper.semAt_some

/-- A program of so many loops within each other, and of so many bytes. -/
def Gen (d : Nat) (t : ByteArray) : Prop := (∃ nd : Node, nd.ok ∧ t.toList = nd.text ∧ nd.loops ≤ d) ∧ 1 ≤ t.size ∧ t.size ≤ lenB d
def RanN (B rb d k : Nat) (W : World) (e : Ending) (W' : World) : Prop :=
  ∃ t : ByteArray, Gen d t ∧ e = .returned (.string t) ∧ (∃ j, j ≤ k ∧ Rd B W' rb j) ∧ Below rb W W'
/-- A program, one of at most sixty bytes. -/
def IsP60 (t : ByteArray) : Prop := isP t.toList = true ∧ 1 ≤ t.size ∧ t.size ≤ 60
theorem lenB_five (d : Nat) : 5 ≤ lenB d := by
  cases d with
  | zero => decide
  | succ d => show 5 ≤ 2 * lenB d + 3; have := lenB_five d; omega
theorem gen_atom {a : List UInt8} (h : (Node.atom a).ok) (h1 : 1 ≤ a.length ∧ a.length ≤ 5) (d : Nat) : Gen d ⟨a.toArray⟩ := by
  have hs : (⟨a.toArray⟩ : ByteArray).size = a.length := rfl
  have := lenB_five d
  exact ⟨⟨.atom a, h, by rw [Lib.toList_data]; rfl, Nat.zero_le _⟩, by rw [hs]; exact h1.1, by rw [hs]; omega⟩
theorem gen_sq {p : List UInt8} (h : p ∈ tests) (d : Nat) : Gen d (⟨#[91]⟩ ++ ⟨p.toArray⟩ ++ ⟨#[93]⟩ : ByteArray) := by
  have e : (⟨#[91]⟩ ++ ⟨p.toArray⟩ ++ ⟨#[93]⟩ : ByteArray) = ⟨(91 :: (p ++ [93])).toArray⟩ := by
    apply ByteArray.ext
    simp [ByteArray.data_append]
  have hp := tests_by3' p h
  rw [e]
  exact gen_atom (.inr (.inr (.inr ⟨p, h, rfl⟩))) (by simp [hp]) d
theorem gen_br {t : ByteArray} {d m : Nat} (h : Gen d t) (hm : m = d + 1) : Gen m (⟨#[123]⟩ ++ t ++ ⟨#[125]⟩ : ByteArray) := by
  subst hm
  obtain ⟨⟨nd, h1, h2, h3⟩, h4⟩ := h
  refine ⟨⟨.loop nd, h1, ?_, by simp [Node.loops]; omega⟩, br_size h4 rfl⟩
  rw [Lib.toList_data] at h2 ⊢
  simp [ByteArray.data_append, h2, Node.text]
theorem gen_pr {t u : ByteArray} {k : UInt8} {d m : Nat} (h : Gen d t) (h' : Gen d u) (hk : k = 59 ∨ k = 124) (hm : m = d + 1) : Gen m (⟨#[40]⟩ ++ t ++ ⟨#[k]⟩ ++ u ++ ⟨#[41]⟩ : ByteArray) := by
  subst hm
  obtain ⟨⟨nd, h1, h2, h3⟩, h4⟩ := h
  obtain ⟨⟨nd', h1', h2', h3'⟩, h4'⟩ := h'
  refine ⟨⟨.pair k nd nd', ⟨hk, h1, h1'⟩, ?_, by simp [Node.loops]; omega⟩, pr_size h4 h4' rfl⟩
  rw [Lib.toList_data] at h2 h2' ⊢
  simp [ByteArray.data_append, h2, h2', Node.text]
theorem gen_isP {t : ByteArray} {d : Nat} (h : Gen d t) (hd : d ≤ 6) (h60 : t.size ≤ 60) : IsP60 t := by
  obtain ⟨⟨nd, h1, h2, h3⟩, h4, _⟩ := h
  refine ⟨?_, h4, h60⟩
  have hl : t.toList.length = t.size := by rw [Lib.toList_data, Array.length_toList]; rfl
  unfold isP
  rw [readP_iff.2 ⟨h1, h2, by omega, by omega⟩]
  rfl
theorem gen_word {d : Nat} {v : Value} (h : v = .string ⟨#[33]⟩ ∨ v = .string ⟨#[46]⟩) : ∃ t : ByteArray, Gen d t ∧ v = .string t := by
  rcases h with rfl | rfl
  · exact ⟨_, gen_atom (a := [33]) (.inr (.inl rfl)) (by decide) d, rfl⟩
  · exact ⟨_, gen_atom (a := [46]) (.inl rfl) (by decide) d, rfl⟩
theorem gen_twos {d : Nat} {a : List UInt8} (h : a ∈ twos) : ∃ t : ByteArray, Gen d t ∧ Value.string ⟨a.toArray⟩ = .string t := by
  have h2 : ∀ a ∈ twos, a.length = 2 := by decide
  exact ⟨_, gen_atom (.inr (.inr (.inl h))) (by rw [h2 a h]; omega) d, rfl⟩

/-! ### The known programs -/
set_option maxHeartbeats 4000000 in
theorem known68n (q : Nat) (hq : q < 15) (W : World) :
    Calls Tryz.prog 91 #[.int .i64 (q : Int)] W fun e W' => (∃ t : ByteArray, IsP60 t ∧ e = .returned (.string t)) ∧ Below W.heap.size W W' := by
  rcases (by omega : q = 0 ∨ q = 1 ∨ q = 2 ∨ q = 3 ∨ q = 4 ∨ q = 5 ∨ q = 6 ∨ q = 7 ∨ q = 8 ∨ q = 9 ∨ q = 10 ∨ q = 11 ∨ q = 12 ∨ q = 13 ∨ q = 14) with rfl | rfl | rfl | rfl | rfl | rfl | rfl | rfl | rfl | rfl | rfl | rfl | rfl | rfl | rfl
  all_goals
    go_enter Tryz.func91, Tryz.ntmps91
    go_wp2
    go_ret
    exact ⟨⟨_, ⟨by rw [Lib.toList_data]; decide +kernel, by decide, by decide⟩, rfl⟩, (Below.refl _ _).alloc (Nat.le_refl _) _⟩

/-! ### Drawing a program -/
set_option maxHeartbeats 4000000 in
theorem draw_zeron {B : Nat} {W : World} {rb k : Nat} (hx : Rd B W rb k) (hk : k ≤ 899997) :
    Calls Tryz.prog 92 #[.pointer (some ⟨rb, 0, none⟩), .int .i64 0] W (RanN B rb 0 (k + 3) W) := by
  have hG := Below.refl rb W
  go_enter Tryz.func92, Tryz.ntmps92
  go_wp2_with fail
  go_at_call 34
  refine (pick36 hx (by omega) (by omega) (by omega)).mono ?_
  rintro e W2 ⟨y, rfl, y0, y1, h2, g2⟩
  have hG2 := hG.trans (below_of_grown g2 (by have := hx.lt; omega))
  by_cases q0 : y = 0
  · subst q0
    go_wp2_with fail
    go_at_call 110
    refine (good46 h2 (by omega)).mono ?_
    rintro e W3 ⟨p, hp, rfl, ⟨j, hj, h3⟩, g3⟩
    have hp3 := tests_by3' p hp
    have l1 : 1 + p.length ≤ 9223372036854775807 := by omega
    have l2 : 1 + p.length + 1 ≤ 9223372036854775807 := by omega
    have HP := Lib.hid hp
    clear hp hp3
    go_wp2_with fail
    go_ret
    exact ⟨_, gen_sq HP.out _, rfl, ⟨j, by omega, h3⟩, hG2.trans g3⟩
  · have n0 : (y == 0) = false := by simpa using q0
    by_cases q1 : y = 1
    · subst q1
      go_wp2_with fail
      go_at_call 59
      refine Calls.mono (ofPnew (P := Gen 0) h2 (by omega) _ 3 ?_ (by omega) (by omega) ?_) ?_
      · rfl
      · intro v hv
        simp at hv
        exact gen_word (by rcases hv with rfl | rfl | rfl <;> simp)
      rintro e W3 ⟨t, ht, rfl, h3, g3⟩
      go_wp2_with fail
      go_ret
      exact ⟨t, ht, rfl, ⟨_, by omega, h3⟩, hG2.trans g3⟩
    · have n1 : (y == 1) = false := by simpa using q1
      go_wp2_with fail
      go_at_call 59
      refine Calls.mono (ofPnew (P := Gen 0) h2 (by omega) _ 9 ?_ (by omega) (by omega) ?_) ?_
      · rfl
      · intro v hv
        simp at hv
        rcases hv with rfl | rfl | rfl | rfl | rfl | rfl | rfl | rfl | rfl <;> exact gen_twos (by decide)
      rintro e W3 ⟨t, ht, rfl, h3, g3⟩
      go_wp2_with fail
      go_ret
      exact ⟨t, ht, rfl, ⟨_, by omega, h3⟩, hG2.trans g3⟩

set_option maxHeartbeats 4000000 in
theorem draw_succn (d : Nat) (hd : d ≤ 3) {B rb k : Nat} (hk : k ≤ 900000 - cost (d + 1)) (IH : ∀ {k : Nat} (W : World), Rd B W rb k → k ≤ 900000 - cost d → Calls Tryz.prog 92 #[.pointer (some ⟨rb, 0, none⟩), .int .i64 (d : Int)] W (RanN B rb d (k + cost d) W)) {W : World} (h : Rd B W rb k) :
    Calls Tryz.prog 92 #[.pointer (some ⟨rb, 0, none⟩), .int .i64 ((d : Int) + 1)] W (RanN B rb (d + 1) (k + cost (d + 1)) W) := by
  have hl := lenB_le (d := d) (by omega)
  have hc := cost_le (d := d) (by omega)
  have hls : lenB (d + 1) = 2 * lenB d + 3 := rfl
  have hcs : cost (d + 1) = 2 * cost d + 5 := rfl
  have hdi : (d : Int) ≤ 3 := by omega
  have hd0 : (0 : Int) ≤ (d : Int) := by omega
  have hne : ((d : Int) + 1 == 0) = false := by simp; omega
  go_enter Tryz.func92, Tryz.ntmps92
  go_wp2_with fail
  go_at_call 34
  refine (pick36 h (by omega) (by omega) (by omega)).mono ?_
  rintro e W1 ⟨x, rfl, x0, x1, hx, g1⟩
  have hG := below_of_grown g1 (by have := h.lt; omega)
  by_cases qx : x = 0
  · subst qx
    go_wp2_with fail
    go_at_call 34
    refine (pick36 hx (by omega) (by omega) (by omega)).mono ?_
    rintro e W2 ⟨y, rfl, y0, y1, h2, g2⟩
    have hG2 := hG.trans (below_of_grown g2 (by have := hx.lt; omega))
    by_cases q0 : y = 0
    · subst q0
      go_wp2_with fail
      go_at_call 110
      refine (good46 h2 (by omega)).mono ?_
      rintro e W3 ⟨p, hp, rfl, ⟨j, hj, h3⟩, g3⟩
      have hp3 := tests_by3' p hp
      have l1 : 1 + p.length ≤ 9223372036854775807 := by omega
      have l2 : 1 + p.length + 1 ≤ 9223372036854775807 := by omega
      have HP := Lib.hid hp
      clear hp hp3
      go_wp2_with fail
      go_ret
      exact ⟨_, gen_sq HP.out _, rfl, ⟨j, by omega, h3⟩, hG2.trans g3⟩
    · have n0 : (y == 0) = false := by simpa using q0
      by_cases q1 : y = 1
      · subst q1
        go_wp2_with fail
        go_at_call 59
        refine Calls.mono (ofPnew (P := Gen (d + 1)) h2 (by omega) _ 3 ?_ (by omega) (by omega) ?_) ?_
        · rfl
        · intro v hv
          simp at hv
          exact gen_word (by rcases hv with rfl | rfl | rfl <;> simp)
        rintro e W3 ⟨t, ht, rfl, h3, g3⟩
        go_wp2_with fail
        go_ret
        exact ⟨t, ht, rfl, ⟨_, by omega, h3⟩, hG2.trans g3⟩
      · have n1 : (y == 1) = false := by simpa using q1
        go_wp2_with fail
        go_at_call 59
        refine Calls.mono (ofPnew (P := Gen (d + 1)) h2 (by omega) _ 9 ?_ (by omega) (by omega) ?_) ?_
        · rfl
        · intro v hv
          simp at hv
          rcases hv with rfl | rfl | rfl | rfl | rfl | rfl | rfl | rfl | rfl <;> exact gen_twos (by decide)
        rintro e W3 ⟨t, ht, rfl, h3, g3⟩
        go_wp2_with fail
        go_ret
        exact ⟨t, ht, rfl, ⟨_, by omega, h3⟩, hG2.trans g3⟩
  · have nx : (x == 0) = false := by simpa using qx
    go_wp2_with fail
    go_at_call 34
    refine (pick36 hx (by omega) (by omega) (by omega)).mono ?_
    rintro e W2 ⟨y, rfl, y0, y1, h2, g2⟩
    have hG2 := hG.trans (below_of_grown g2 (by have := hx.lt; omega))
    by_cases q0 : y = 0
    · subst q0
      go_wp2_with fail
      go_at_call 92
      refine (IH _ h2 (by omega)).mono ?_
      rintro e W3 ⟨t, ht, rfl, ⟨j, hj, h3⟩, g3⟩
      have hs1 := ht.2.2
      have l1 : 1 + t.size ≤ 9223372036854775807 := by omega
      have l1 : 1 + t.size ≤ 9223372036854775807 := by omega
      have l2 : 1 + t.size + 1 ≤ 9223372036854775807 := by omega
      have HT := Lib.hid ht
      clear ht
      go_wp2_with fail
      go_ret
      exact ⟨_, gen_br HT.out rfl, rfl, ⟨j, by omega, h3⟩, hG2.trans g3⟩
    · have n0 : (y == 0) = false := by simpa using q0
      by_cases q1 : y = 1
      · subst q1
        go_wp2_with fail
        go_at_call 92
        refine (IH _ h2 (by omega)).mono ?_
        rintro e W3 ⟨t, ht, rfl, ⟨j, hj, h3⟩, g3⟩
        have hs1 := ht.2.2
        have l1 : 1 + t.size ≤ 9223372036854775807 := by omega
        have hG3 := hG2.trans g3
        go_wp2_with fail
        go_at_call 92
        refine (IH _ h3 (by omega)).mono ?_
        rintro e W4 ⟨u, hu, rfl, ⟨j2, hj2, h4⟩, g4⟩
        have l1 : 1 + t.size ≤ 9223372036854775807 := by omega
        have l2 : 1 + t.size + 1 ≤ 9223372036854775807 := by omega
        have hs2 := hu.2.2
        have l3 : 1 + t.size + 1 + u.size ≤ 9223372036854775807 := by omega
        have l4 : 1 + t.size + 1 + u.size + 1 ≤ 9223372036854775807 := by omega
        have HT := Lib.hid ht
        have HU := Lib.hid hu
        clear ht hu
        go_wp2_with fail
        go_ret
        exact ⟨_, gen_pr HT.out HU.out (by decide) rfl, rfl, ⟨j2, by omega, h4⟩, hG3.trans g4⟩
      · have n1 : (y == 1) = false := by simpa using q1
        by_cases q2 : y = 2
        · subst q2
          go_wp2_with fail
          go_at_call 92
          refine (IH _ h2 (by omega)).mono ?_
          rintro e W3 ⟨t, ht, rfl, ⟨j, hj, h3⟩, g3⟩
          have hs1 := ht.2.2
          have l1 : 1 + t.size ≤ 9223372036854775807 := by omega
          have hG3 := hG2.trans g3
          go_wp2_with fail
          go_at_call 92
          refine (IH _ h3 (by omega)).mono ?_
          rintro e W4 ⟨u, hu, rfl, ⟨j2, hj2, h4⟩, g4⟩
          have l1 : 1 + t.size ≤ 9223372036854775807 := by omega
          have l2 : 1 + t.size + 1 ≤ 9223372036854775807 := by omega
          have hs2 := hu.2.2
          have l3 : 1 + t.size + 1 + u.size ≤ 9223372036854775807 := by omega
          have l4 : 1 + t.size + 1 + u.size + 1 ≤ 9223372036854775807 := by omega
          have HT := Lib.hid ht
          have HU := Lib.hid hu
          clear ht hu
          go_wp2_with fail
          go_ret
          exact ⟨_, gen_pr HT.out HU.out (by decide) rfl, rfl, ⟨j2, by omega, h4⟩, hG3.trans g4⟩
        · have n2 : (y == 2) = false := by simpa using q2
          go_wp2_with fail
          go_at_call 92
          refine (IH _ h2 (by omega)).mono ?_
          rintro e W3 ⟨t, ht, rfl, ⟨j, hj, h3⟩, g3⟩
          have hs1 := ht.2.2
          have l1 : 1 + t.size ≤ 9223372036854775807 := by omega
          have hG3 := hG2.trans g3
          go_wp2_with fail
          go_at_call 92
          refine (IH _ h3 (by omega)).mono ?_
          rintro e W4 ⟨u, hu, rfl, ⟨j2, hj2, h4⟩, g4⟩
          have l1 : 1 + t.size ≤ 9223372036854775807 := by omega
          have l2 : 1 + t.size + 1 ≤ 9223372036854775807 := by omega
          have hs2 := hu.2.2
          have l3 : 1 + t.size + 1 + u.size ≤ 9223372036854775807 := by omega
          have l4 : 1 + t.size + 1 + u.size + 1 ≤ 9223372036854775807 := by omega
          have HT := Lib.hid ht
          have HU := Lib.hid hu
          clear ht hu
          go_wp2_with fail
          go_ret
          exact ⟨_, gen_pr HT.out HU.out (by decide) rfl, rfl, ⟨j2, by omega, h4⟩, hG3.trans g4⟩

theorem draw69n : ∀ (d : Nat), d ≤ 4 → ∀ {B rb k : Nat} (W : World), Rd B W rb k → k ≤ 900000 - cost d → Calls Tryz.prog 92 #[.pointer (some ⟨rb, 0, none⟩), .int .i64 (d : Int)] W (RanN B rb d (k + cost d) W)
  | 0, _, _, _, _, W, h, hk => draw_zeron h (by have : cost 0 = 3 := rfl; omega)
  | d + 1, hd, B, rb, k, W, h, hk => by
    have hcs : cost (d + 1) = 2 * cost d + 5 := rfl
    have hc := cost_le (d := d) (by omega)
    rw [show ((d + 1 : Nat) : Int) = (d : Int) + 1 from rfl]
    exact draw_succn d (by omega) (by omega) (fun W' h' hk' => draw69n d (by omega) W' h' (by omega)) h
set_option maxHeartbeats 2000000 in
theorem good55n {B : Nat} {W : World} {rb k : Nat} (h : Rd B W rb k) (hk : k ≤ 890000) :
    Calls Tryz.prog 60 #[.pointer (some ⟨rb, 0, none⟩)] W fun e W' => ∃ t : ByteArray, IsP60 t ∧ e = .returned (.string t) ∧ (∃ j, j ≤ k + 300 ∧ Rd B W' rb j) ∧ Below rb W W' := by
  go_enter Tryz.func60, Tryz.ntmps60
  go_wp2_with fail
  go_at_call 34
  refine (pick36 h (by omega) (by omega) (by omega)).mono ?_
  rintro e W1 ⟨x, rfl, x0, x1, h1, g1⟩
  have hG := below_of_grown g1 (by have := h.lt; omega)
  by_cases qx : x = 0
  · subst qx
    go_wp2_with fail
    go_at_call 34
    refine (pick36 h1 (by omega) (by omega) (by omega)).mono ?_
    rintro e W2 ⟨y, rfl, y0, y1, h2, g2⟩
    have hG2 := hG.trans (below_of_grown g2 (by have := h1.lt; omega))
    obtain ⟨q, rfl⟩ : ∃ q : Nat, y = (q : Int) := ⟨y.toNat, by omega⟩
    go_wp2_with fail
    go_at_call 91
    refine (known68n q (by omega) _).mono ?_
    rintro e W3 ⟨⟨t, ht, rfl⟩, hb⟩
    have HT := Lib.hid ht
    clear ht
    go_wp2_with fail
    go_ret
    exact ⟨t, HT.out, rfl, ⟨_, by omega, h2.below hb⟩, hG2.trans (hb.mono (by have := h2.lt; omega))⟩
  · have nx : (x == 0) = false := by simpa using qx
    go_wp2_with fail
    go_at_call 34
    refine (pick36 h1 (by omega) (by omega) (by omega)).mono ?_
    rintro e W2 ⟨y, rfl, y0, y1, h2, g2⟩
    have hG2 := hG.trans (below_of_grown g2 (by have := h1.lt; omega))
    obtain ⟨q, rfl⟩ : ∃ q : Nat, y = (q : Int) := ⟨y.toNat, by omega⟩
    have hc := cost_le (d := q + 1) (by omega)
    have hl := lenB_le (d := q + 1) (by omega)
    have HD := draw69n (q + 1) (by omega) W2 h2 (by omega)
    have hqe : ((q + 1 : Nat) : Int) = 1 + (q : Int) := by omega
    rw [hqe] at HD
    go_wp2_with fail
    go_at_call 92
    refine HD.mono ?_
    rintro e W3 ⟨t, ht, rfl, ⟨j, hj, h3⟩, g3⟩
    by_cases h60 : (t.size : Int) ≤ 60
    · have HT := Lib.hid ht
      clear ht
      go_wp2_with fail
      go_ret
      exact ⟨t, gen_isP HT.out (by omega) (by omega), rfl, ⟨j, by omega, h3⟩, hG2.trans g3⟩
    · have h60' : (60 : Int) < (t.size : Int) := by omega
      clear ht
      go_wp2_with fail
      go_ret
      exact ⟨_, ⟨by rw [Lib.toList_data]; decide +kernel, by decide, by decide⟩, rfl, ⟨j, by omega, h3⟩, hG2.trans g3⟩

end Go.Proofs.YtngcdgnijfiocaaGreatDoor

