/- The drawn arguments of the law on texts of sets: a number, and a text that is mostly that of a set. -/
import Derived.Test.YtopibdhfkemnmaaDoorWP
import Derived.Test.YtopibdhfkemnmaaDoorBase3
namespace Go.Proofs.YtopibdhfkemnmaaDoor
open Go.ChangeShapes Go.WideShapes Go.ChangeAt Go.RowKit Go.Shelf

theorem back_all : ∀ n : Fin 512, parseL (setL (n.val : Int)) = some n.val := by decide +kernel
theorem parse_empty : parseL [] = none := by decide
theorem back_set {s : Int} (h : isSet s = true) : parseN (setL s) = s ∧ parseOk (setL s) = true := by
  have hb := of_decide_eq_true h
  obtain ⟨n, rfl⟩ : ∃ n : Nat, s = (n : Int) := ⟨s.toNat, by omega⟩
  have := back_all ⟨n, by omega⟩
  unfold parseN parseOk
  rw [this]
  exact ⟨rfl, rfl⟩
theorem back_no {s : Int} (h : isSet s = false) : parseOk (setL s) = false := by
  rw [setL_none h]; unfold parseOk; rw [parse_empty]; rfl
theorem text_back {t : List UInt8} {n : Nat} (h : parseL t = some n) : setL (n : Int) = t := by
  by_cases h0 : t = [45]
  · subst h0
    have : n = 0 := by
      unfold parseL at h
      rw [if_pos rfl] at h
      exact (Option.some.inj h).symm
    subst this
    exact setL_zero
  · cases ha : allW (cutL t) with
    | none => unfold parseL at h; rw [if_neg h0, ha] at h; cases h
    | some xs =>
      rw [parse_model h0 ha] at h
      split at h
      · rename_i he
        cases h
        exact he
      · cases h

theorem or_bd {a b : Int} (a0 : 0 ≤ a) (a1 : a ≤ 511) (b0 : 0 ≤ b) (b1 : b ≤ 511) : 0 ≤ bits .or .i64 a b ∧ bits .or .i64 a b ≤ 511 := by
  obtain ⟨m, rfl⟩ : ∃ m : Nat, a = (m : Int) := ⟨a.toNat, by omega⟩
  obtain ⟨n, rfl⟩ : ∃ n : Nat, b = (n : Int) := ⟨b.toNat, by omega⟩
  rw [or_nat m n (by omega) (by omega)]
  have := Nat.or_lt_two_pow (n := 9) (x := m) (y := n) (by omega) (by omega)
  omega
theorem pow_bd : ∀ q : Fin 9, (0 : Int) ≤ 2 ^ q.val ∧ (2 : Int) ^ q.val ≤ 256 := by decide

theorem num24Q (Q : Int → Prop) {B : Nat} {W : World} {rb k g m : Nat} (h : Rd B W rb k) (hk : k ≤ 1000000) (m1 : 0 < m) (m2 : m ≤ 1000) (hg : g ≠ rb)
    (hc : ∀ i, i < m → ∃ z : Int, Q z ∧ W.cell? ⟨g, i, none⟩ = some (.int .i64 z)) :
    Calls Tryd.prog 24 #[.pointer (some ⟨rb, 0, none⟩), .slice (some ⟨g, 0, none⟩) m m] W fun e W' => ∃ z : Int, Q z ∧ e = .returned (.int .i64 z) ∧ Rd B W' rb (k + 1) ∧ W.grownBy W' (some rb) := by
  have HC := Lib.hid hc
  have m3 : (1 : Int) ≤ (m : Int) := by omega
  have m4 : (m : Int) ≤ 1000 := by omega
  clear hc
  go_enter Tryd.func24, Tryd.ntmps24
  go_wp2_with fail
  go_at_call 21
  refine (pick36 h hk m3 m4).mono ?_
  rintro e W1 ⟨r, rfl, r0, r1, h1, g1⟩
  obtain ⟨q, rfl⟩ : ∃ q : Nat, r = (q : Int) := ⟨r.toNat, by omega⟩
  have hq : q < m := by omega
  obtain ⟨z, hQ, hz⟩ := HC.out q hq
  have HQ := Lib.hid hQ
  have hz1 := g1.cell hz (by simpa using hg)
  clear hz hQ
  go_wp2
  go_ret
  exact ⟨z, HQ.out, rfl, h1, g1⟩
theorem num24new (Q : Int → Prop) {B : Nat} {W : World} {rb k : Nat} (h : Rd B W rb k) (hk : k ≤ 1000000) (cs : Array Value) (m : Nat) (hm : cs.size = m) (m1 : 0 < m) (m2 : m ≤ 1000) (hc : ∀ v ∈ cs.toList, ∃ z : Int, Q z ∧ v = .int .i64 z) :
    Calls Tryd.prog 24 #[.pointer (some ⟨rb, 0, none⟩), .slice (some ⟨W.heap.size, 0, none⟩) m m] (W.alloc (.cells cs 3)) fun e W' => ∃ z : Int, Q z ∧ e = .returned (.int .i64 z) ∧ Rd B W' rb (k + 1) ∧ Below rb W W' := by
  subst hm
  have hlt := h.lt
  refine (num24Q Q (h.below ((Below.refl _ _).alloc (Nat.le_refl _) _)) hk m1 m2 (by omega) (fun i hi => ?_)).mono ?_
  · obtain ⟨z, hQ, hz⟩ := hc cs[i] (by simp)
    refine ⟨z, hQ, ?_⟩
    rw [cell_of_row _ W.heap.size i cs 3 (0, 0) (heap_alloc_new W _), ← hz]
    simp [hi]
  · rintro e W' ⟨z, hQ, he, hr, hg⟩
    exact ⟨z, hQ, he, hr, ((Below.refl rb W).alloc (by omega) _).trans (below_of_grown hg (by simp; omega))⟩

set_option maxHeartbeats 400000 in
theorem good20 {B : Nat} {W : World} {rb k : Nat} (h : Rd B W rb k) (hk : k ≤ 900000) :
    Calls Tryd.prog 20 #[.pointer (some ⟨rb, 0, none⟩)] W fun e W' => ∃ z : Int, (0 ≤ z ∧ z ≤ 511) ∧ e = .returned (.int .i64 z) ∧ (∃ j, j ≤ k + 8 ∧ Rd B W' rb j) ∧ Below rb W W' := by
  go_enter Tryd.func20, Tryd.ntmps20
  go_wp2_with fail
  go_at_call 21
  refine (pick36 h (by omega) (by omega) (by omega)).mono ?_
  rintro e W1 ⟨x1, rfl, a1, b1, h1, g1⟩
  go_wp2_with fail
  go_at_call 21
  refine (pick36 h1 (by omega) (by omega) (by omega)).mono ?_
  rintro e W2 ⟨x2, rfl, a2, b2, h2, g2⟩
  go_wp2_with fail
  go_at_call 21
  refine (pick36 h2 (by omega) (by omega) (by omega)).mono ?_
  rintro e W3 ⟨x3, rfl, a3, b3, h3, g3⟩
  obtain ⟨q3, rfl⟩ : ∃ q : Fin 9, x3 = (q.val : Int) := ⟨⟨x3.toNat, by omega⟩, by simp; omega⟩
  have p3 := pow_bd q3
  go_wp2_with fail
  go_at_call 21
  refine (pick36 h3 (by omega) (by omega) (by omega)).mono ?_
  rintro e W4 ⟨x4, rfl, a4, b4, h4, g4⟩
  go_wp2_with fail
  go_at_call 21
  refine (pick36 h4 (by omega) (by omega) (by omega)).mono ?_
  rintro e W5 ⟨x5, rfl, a5, b5, h5, g5⟩
  obtain ⟨q5, rfl⟩ : ∃ q : Fin 9, x5 = (q.val : Int) := ⟨⟨x5.toNat, by omega⟩, by simp; omega⟩
  have p5 := pow_bd q5
  go_wp2_with fail
  go_at_call 21
  refine (pick36 h5 (by omega) (by omega) (by omega)).mono ?_
  rintro e W6 ⟨x6, rfl, a6, b6, h6, g6⟩
  obtain ⟨q6, rfl⟩ : ∃ q : Fin 9, x6 = (q.val : Int) := ⟨⟨x6.toNat, by omega⟩, by simp; omega⟩
  have p6 := pow_bd q6
  have G := Lib.hid (grown_trans g1 (grown_trans g2 (grown_trans g3 (grown_trans g4 (grown_trans g5 g6)))))
  clear g1 g2 g3 g4 g5 g6
  go_wp2_with fail
  go_at_call 24
  refine Calls.mono (num24new (fun z => 0 ≤ z ∧ z ≤ 511) h6 (by omega) _ 8 ?_ (by omega) (by omega) ?_) ?_
  · rfl
  · intro v hv
    simp at hv
    rcases hv with rfl | rfl | rfl | rfl | rfl | rfl | rfl | rfl <;> first | exact ⟨_, ⟨by omega, by omega⟩, rfl⟩ | exact ⟨_, or_bd (by omega) (by omega) (by omega) (by omega), rfl⟩
  rintro e W7 ⟨z, hQ, rfl, h7, g7⟩
  go_wp2
  go_ret
  have hW := h.lt
  have hG := below_of_grown G.out (by omega)
  exact ⟨z, hQ, rfl, ⟨_, by omega, h7⟩, hG.trans g7⟩

theorem draw5 {B : Nat} {W : World} {a : Option Addr} {len cap : Nat} (h : Code B W a len cap) (hB : B ≤ W.heap.size) :
    Calls Tryd.prog 5 #[.slice a len cap] W fun e W' => ∃ z : Int, e = .returned (.int .i64 z) ∧ Below W.heap.size W W' := by
  go_enter Tryd.func5, Tryd.ntmps5
  go_wp2_with fail
  go_at_call 14
  refine (open33 h hB).mono ?_
  rintro e W1 ⟨rfl, h1, b1, z1⟩
  have Z := Lib.hid z1
  clear z1
  go_wp2_with fail
  go_at_call 13
  refine (draw32 h1 (by omega)).mono ?_
  rintro e W2 ⟨z, rfl, _, b2⟩
  go_wp2
  go_ret
  exact ⟨z, rfl, b1.trans b2⟩
end Go.Proofs.YtopibdhfkemnmaaDoor
