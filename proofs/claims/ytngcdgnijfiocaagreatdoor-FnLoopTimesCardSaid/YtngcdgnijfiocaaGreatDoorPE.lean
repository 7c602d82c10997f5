/- Chapter 7: a loop reaches all in nine times at most; what is drawn for the law on its times. -/
import Derived.Test.YtngcdgnijfiocaaGreatDoorPA
import Derived.Test.YtngcdgnijfiocaaGreatDoorDR
import Derived.Test.YtngcdgnijfiocaaGreatDoorQC
namespace Go.Proofs.YtngcdgnijfiocaaGreatDoor
open Go.ChangeShapes Go.WideShapes Go.ChangeAt Go.RowKit Go.Shelf
set_option maxRecDepth 100000
attribute [local go_sem] Oper.semAt_some

theorem fP_stay {p : Node} {m t : Nat} (e : fP p m (t + 1) = fP p m t) : ∀ d, fP p m (t + d) = fP p m t
  | 0 => rfl
  | d + 1 => by
    show fP p m (t + d) ||| (runR p (fP p m (t + d))).1 = _
    rw [fP_stay e d]
    exact e
theorem fP_cnt {p : Node} (h : p.ok) {m : Nat} (hm : m < 512) : ∀ t, (∀ j, j < t → fP p m (j + 1) ≠ fP p m j) → t ≤ cnt (fP p m t) 9
  | 0, _ => Nat.zero_le _
  | t + 1, hne => by
    have ih := fP_cnt h hm t (fun j hj => hne j (by omega))
    have hn := hne t (by omega)
    have m1 := cnt_mono (fP p m t) (runR p (fP p m t)).1 9
    have hlt := fP_lt h hm t
    have e : fP p m (t + 1) = fP p m t ||| (runR p (fP p m t)).1 := rfl
    rw [e] at hn ⊢
    rcases Nat.lt_or_ge (cnt (fP p m t) 9) (cnt (fP p m t ||| (runR p (fP p m t)).1) 9) with h1 | h1
    · omega
    · exact absurd (or_same hlt (run_lt p h _ hlt).1 h1) hn
theorem fP_nine {p : Node} (h : p.ok) {m : Nat} (hm : m < 512) : fP p m 9 = fP p m 18 := by
  by_cases hx : ∃ j, j ≤ 9 ∧ fP p m (j + 1) = fP p m j
  · obtain ⟨j, hj, e⟩ := hx
    have e1 := fP_stay e (9 - j)
    have e2 := fP_stay e (18 - j)
    rw [show j + (9 - j) = 9 by omega] at e1
    rw [show j + (18 - j) = 18 by omega] at e2
    rw [e1, e2]
  · have := fP_cnt h hm 10 (fun j hj e => hx ⟨j, by omega, e⟩)
    have := cnt_le (fP p m 10) 9
    omega
theorem least_spec {f : Nat → Bool} : ∀ (n s t : Nat), s ≤ t → t ≤ s + n → f t = true → f (leastT f n s) = true ∧ leastT f n s ≤ t ∧ ∀ j, s ≤ j → j < leastT f n s → f j = false
  | 0, s, t, h1, h2, h3 => by
    obtain rfl : s = t := by omega
    exact ⟨h3, Nat.le_refl _, fun j ha hb => absurd hb (by show ¬ j < s; omega)⟩
  | n + 1, s, t, h1, h2, h3 => by
    unfold leastT
    by_cases e : f s = true
    · rw [if_pos e]
      exact ⟨e, h1, fun j ha hb => absurd hb (by omega)⟩
    · rw [if_neg e]
      have hne : s ≠ t := fun h => e (by rw [h]; exact h3)
      obtain ⟨k1, k2, k3⟩ := least_spec n (s + 1) t (by omega) (by omega) h3
      refine ⟨k1, k2, fun j ha hb => ?_⟩
      by_cases hj : j = s
      · rw [hj]; exact Bool.eq_false_iff.2 e
      · exact k3 j (by omega) hb
/-- In so many times all is reached, in fewer it is not, and they are nine at most. -/
theorem times_all {p : Node} (h : p.ok) {m : Nat} (hm : m < 512) {x : Int} (hx : x = 0 ∨ x = 1) :
    timesN p x m ≤ 9 ∧ wM p x m (timesN p x m + 1) = exitN x (runR (.loop p) m) ∧ ∀ j, timesN p x m = j + 1 → wM p x m (j + 1) ≠ exitN x (runR (.loop p) m) := by
  have h9 : eqAt p x m 9 = true := decide_eq_true (by
    rw [← up_end h hm]
    unfold upP
    rw [fP_nine h hm])
  obtain ⟨k1, k2, k3⟩ := least_spec (f := eqAt p x m) 18 0 9 (Nat.zero_le _) (by omega) h9
  refine ⟨k2, ?_, fun j hj => ?_⟩
  · rw [within_up p m hx]
    exact of_decide_eq_true k1
  · rw [within_up p m hx]
    exact of_decide_eq_false (k3 j (Nat.zero_le _) (by unfold timesN at hj; omega))
/-- What was before, one round ahead. -/
def lastM (p : Node) (x : Int) (m : Nat) : Nat → Nat
  | 0 => 0
  | k + 1 => wM p x m k

theorem loopTx_size (p : ByteArray) : (loopTx p).size = p.size + 2 := by
  unfold loopTx
  rw [ByteArray.size_append, ByteArray.size_append]
  show 1 + p.size + 1 = _
  omega
set_option maxHeartbeats 2000000 in
theorem drawL9 {B : Nat} {W : World} {a : Option Addr} {len cap : Nat} (h : Code B W a len cap) (hB : B ≤ W.heap.size) :
    Calls Tryz.prog 6 #[.slice a len cap] W fun e W' => ∃ (p : ByteArray) (s x : Int), p.size ≤ 132 ∧ e = .returned (.tuple #[.string p, .int .i64 s, .int .i64 x]) ∧ Below W.heap.size W W' := by
  go_enter Tryz.func6, Tryz.ntmps6
  go_wp2_with fail
  go_at_call 31
  refine (open33 h hB).mono ?_
  rintro e W1 ⟨rfl, h1, b1, _⟩
  go_wp2_with fail
  go_at_call 32
  refine (any38 h1 (by omega)).mono ?_
  rintro e W2 ⟨p, hp, rfl, ⟨j, hj, h2⟩, g2⟩
  have hsz := loopTx_size p
  have hp2 := hp.2
  have hlo := loop33 p (by omega) W2
  unfold madeV at hlo
  generalize loopTx p = q at hlo hsz
  generalize madeOk q [p] = ok at hlo
  cases ok with
  | false =>
    rw [if_neg (by decide)] at hlo
    go_wp2_with fail
    go_at_call 33
    refine hlo.mono ?_
    rintro e W3 ⟨rfl, b3⟩
    have h3 := h2.below b3
    go_wp2_with fail
    go_at_call 35
    refine (draw32 h3 (by omega)).mono ?_
    rintro e W4 ⟨s, rfl, ⟨j4, hj4, h4⟩, g4⟩
    go_wp2_with fail
    go_at_call 36
    refine (exit24 h4 (by omega)).mono ?_
    rintro e W5 ⟨x, rfl, _, g5⟩
    go_wp2_with fail
    refine bodyPost_ret (v := .tuple #[.string p, .int .i64 s, .int .i64 x]) (by simp [results, Tryz.results6, go_sem]) rfl ?_
    exact ⟨p, s, x, by omega, rfl, (((b1.trans g2).trans (b3.mono (by have := b1.size; have := g2.size; omega))).trans g4).trans g5⟩
  | true =>
    rw [if_pos rfl] at hlo
    go_wp2_with fail
    go_at_call 33
    refine hlo.mono ?_
    rintro e W3 ⟨rfl, b3⟩
    have G := b3
    go_wp2_with fail
    go_at_call 34
    refine (pick36 (h2.below b3) (by omega) (by omega) (by omega)).mono ?_
    rintro e W4 ⟨x1, rfl, a1, e1, h4, g4⟩
    have hB4 : Below W.heap.size W W4 := ((b1.trans g2).trans (b3.mono (by have := b1.size; have := g2.size; omega))).trans (below_of_grown g4 (by have := b1.size; have := g2.size; have := b3.size; omega))
    clear g4 G b3 hlo
    by_cases hx1 : 0 < x1
    · go_wp2_with fail
      go_at_call 35
      refine (draw32 h4 (by omega)).mono ?_
      rintro e W5 ⟨s, rfl, ⟨j5, hj5, h5⟩, g5⟩
      go_wp2_with fail
      go_at_call 36
      refine (exit24 h5 (by omega)).mono ?_
      rintro e W6 ⟨x, rfl, _, g6⟩
      go_wp2_with fail
      refine bodyPost_ret (v := .tuple #[.string q, .int .i64 s, .int .i64 x]) (by simp [results, Tryz.results6, go_sem]) rfl ?_
      exact ⟨q, s, x, by omega, rfl, (hB4.trans g5).trans g6⟩
    · go_wp2_with fail
      go_at_call 35
      refine (draw32 h4 (by omega)).mono ?_
      rintro e W5 ⟨s, rfl, ⟨j5, hj5, h5⟩, g5⟩
      go_wp2_with fail
      go_at_call 36
      refine (exit24 h5 (by omega)).mono ?_
      rintro e W6 ⟨x, rfl, _, g6⟩
      go_wp2_with fail
      refine bodyPost_ret (v := .tuple #[.string p, .int .i64 s, .int .i64 x]) (by simp [results, Tryz.results6, go_sem]) rfl ?_
      exact ⟨p, s, x, by omega, rfl, (hB4.trans g5).trans g6⟩
end Go.Proofs.YtngcdgnijfiocaaGreatDoor

