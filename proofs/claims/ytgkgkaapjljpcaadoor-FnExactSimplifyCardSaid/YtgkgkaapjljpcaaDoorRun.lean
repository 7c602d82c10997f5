/- What programs reach, as sets of states: numbers below 512 by their bits. No program of Go in it. -/
import Derived.Test.YtgkgkaapjljpcaaDoorTree
import Derived.Test.YtgkgkaapjljpcaaDoorA2
namespace Go.Proofs.YtgkgkaapjljpcaaDoor
set_option maxRecDepth 100000

/-- Two sets of results: those in which it goes on, and those in which it has failed; both together. -/
def both2 (a b : Nat × Nat) : Nat × Nat := (a.1 ||| b.1, a.2 ||| b.2)
/-- What an assignment of two bytes reaches from a state. -/
def putS (c : UInt8) (s v : Nat) : Nat := if c = 120 then 2 ^ (3 * v + s % 3) else 2 ^ (3 * (s / 3) + v)
def asgS (c d : UInt8) (s : Nat) : Nat :=
  if d = 43 then putS c s (((if c = 120 then s / 3 else s % 3) + 1) % 3)
  else if d = 63 then putS c s 0 ||| putS c s 1 ||| putS c s 2
  else if d = 120 then putS c s (s / 3) else if d = 121 then putS c s (s % 3) else putS c s (d.toNat - 48)
/-- All that the states of a set among the first k reach. -/
def over (f : Nat → Nat) (m : Nat) : Nat → Nat
  | 0 => 0
  | k + 1 => if m.testBit k then over f m k ||| f k else over f m k
/-- What an atom reaches from a set. -/
def atomR : List UInt8 → Nat → Nat × Nat
  | [46], m => (m, 0)
  | [33], m => (0, m)
  | [c, d], m => (over (asgS c d) m 9, 0)
  | [_, a, b, c, _], m => (m &&& (whereL [a, b, c]).toNat, 0)
  | _, _ => (0, 0)
def iter (f : Nat × Nat → Nat × Nat) : Nat → Nat × Nat → Nat × Nat
  | 0, x => x
  | n + 1, x => iter f n (f x)
/-- One more time through a loop. -/
def stepL (r : Nat → Nat × Nat) (x : Nat × Nat) : Nat × Nat := (x.1 ||| (r x.1).1, x.2 ||| (r x.1).2)
/-- What a program reaches from a set. -/
def runR : Node → Nat → Nat × Nat
  | .atom a, m => atomR a m
  | .loop p, m => iter (stepL (runR p)) 18 (m, 0)
  | .pair k p q, m => if k = 59 then ((runR q (runR p m).1).1, (runR p m).2 ||| (runR q (runR p m).1).2) else both2 (runR p m) (runR q m)

theorem or_lt {a b : Nat} (ha : a < 512) (hb : b < 512) : a ||| b < 512 := Nat.or_lt_two_pow (n := 9) ha hb
theorem and_lt {a b : Nat} (ha : a < 512) : a &&& b < 512 := Nat.lt_of_le_of_lt Nat.and_le_left ha

/-! ### Sets stay sets -/
theorem asg_lt : ∀ p ∈ twos, ∀ s, s < 9 → asgS (p.getD 0 0) (p.getD 1 0) s < 512 := by
  have h : (twos.all fun p => (List.range 9).all fun s => decide (asgS (p.getD 0 0) (p.getD 1 0) s < 512)) = true := by decide +kernel
  intro p hp s hs
  have h1 := List.all_eq_true.1 (List.all_eq_true.1 h p hp) s (List.mem_range.2 hs)
  simpa using h1
theorem over_lt {f : Nat → Nat} (hf : ∀ s, s < 9 → f s < 512) (m : Nat) : ∀ k, k ≤ 9 → over f m k < 512
  | 0, _ => by simp [over]
  | k + 1, h => by
    unfold over
    split
    · exact or_lt (over_lt hf m k (by omega)) (hf k (by omega))
    · exact over_lt hf m k (by omega)
theorem atom_lt {a : List UInt8} (h : (Node.atom a).ok) {m : Nat} (hm : m < 512) : (atomR a m).1 < 512 ∧ (atomR a m).2 < 512 := by
  rcases h with rfl | rfl | h | ⟨t, ht, rfl⟩
  · exact ⟨hm, (by decide : (0 : Nat) < 512)⟩
  · exact ⟨(by decide : (0 : Nat) < 512), hm⟩
  · obtain ⟨c, d, rfl, _⟩ := twos_shape h
    have e : ∀ s, s < 9 → asgS c d s < 512 := fun s hs => asg_lt [c, d] h s hs
    have : atomR [c, d] m = (over (asgS c d) m 9, 0) := by
      obtain ⟨c', d', e1, hc⟩ := twos_shape h
      cases e1
      rcases hc with rfl | rfl <;> rfl
    rw [this]
    exact ⟨over_lt e m 9 (Nat.le_refl _), (by decide : (0 : Nat) < 512)⟩
  · obtain ⟨a, b, c, rfl⟩ := test_three ht
    exact ⟨and_lt hm, (by decide : (0 : Nat) < 512)⟩
theorem step_lt {r : Nat → Nat × Nat} (hr : ∀ m, m < 512 → (r m).1 < 512 ∧ (r m).2 < 512) {x : Nat × Nat} (hx : x.1 < 512 ∧ x.2 < 512) : (stepL r x).1 < 512 ∧ (stepL r x).2 < 512 :=
  ⟨or_lt hx.1 (hr _ hx.1).1, or_lt hx.2 (hr _ hx.1).2⟩
theorem iter_lt {r : Nat → Nat × Nat} (hr : ∀ m, m < 512 → (r m).1 < 512 ∧ (r m).2 < 512) : ∀ n {x : Nat × Nat}, x.1 < 512 ∧ x.2 < 512 → (iter (stepL r) n x).1 < 512 ∧ (iter (stepL r) n x).2 < 512
  | 0, _, h => h
  | n + 1, _, h => iter_lt hr n (step_lt hr h)
theorem run_lt : ∀ (nd : Node), nd.ok → ∀ m, m < 512 → (runR nd m).1 < 512 ∧ (runR nd m).2 < 512
  | .atom a, h, m, hm => by unfold runR; exact atom_lt h hm
  | .loop p, h, m, hm => by unfold runR; exact iter_lt (run_lt p h) 18 ⟨hm, (by decide : (0 : Nat) < 512)⟩
  | .pair k p q, h, m, hm => by
    have hp := run_lt p h.2.1 m hm
    unfold runR
    split
    · have hq := run_lt q h.2.2 _ hp.1
      exact ⟨hq.1, or_lt hp.2 hq.2⟩
    · have hq := run_lt q h.2.2 m hm
      exact ⟨or_lt hp.1 hq.1, or_lt hp.2 hq.2⟩

/-! ### A set reaches what its states reach -/
theorem over_or (f : Nat → Nat) (a b : Nat) : ∀ k, over f (a ||| b) k = over f a k ||| over f b k
  | 0 => by simp [over]
  | k + 1 => by
    unfold over
    rw [Nat.testBit_or, over_or f a b k]
    cases a.testBit k <;> cases b.testBit k <;> simp only [Bool.or_self, Bool.or_true, Bool.true_or, Bool.false_eq_true, if_true, if_false]
    · ac_rfl
    · ac_rfl
    · apply Nat.eq_of_testBit_eq
      intro i
      simp only [Nat.testBit_or]
      cases (over f a k).testBit i <;> cases (over f b k).testBit i <;> cases (f k).testBit i <;> rfl
theorem over_zero (f : Nat → Nat) : ∀ k, over f 0 k = 0
  | 0 => rfl
  | k + 1 => by unfold over; rw [Nat.zero_testBit, over_zero f k]; rfl
theorem atom_or (l : List UInt8) (a b : Nat) : atomR l (a ||| b) = both2 (atomR l a) (atomR l b) := by
  unfold atomR
  split
  · simp [both2]
  · simp [both2]
  · rw [over_or]; simp [both2]
  · unfold both2
    refine Prod.ext ?_ (by simp)
    apply Nat.eq_of_testBit_eq
    intro i
    simp only [Nat.testBit_or, Nat.testBit_and]
    cases a.testBit i <;> cases b.testBit i <;> simp
  · simp [both2]
theorem step_or {r : Nat → Nat × Nat} (hr : ∀ a b, r (a ||| b) = both2 (r a) (r b)) (x y : Nat × Nat) : stepL r (both2 x y) = both2 (stepL r x) (stepL r y) := by
  unfold stepL both2
  simp only [hr]
  unfold both2
  refine Prod.ext ?_ ?_
  · simp only; ac_rfl
  · simp only; ac_rfl
theorem iter_or {r : Nat → Nat × Nat} (hr : ∀ a b, r (a ||| b) = both2 (r a) (r b)) : ∀ n (x y : Nat × Nat), iter (stepL r) n (both2 x y) = both2 (iter (stepL r) n x) (iter (stepL r) n y)
  | 0, _, _ => rfl
  | n + 1, x, y => by
    show iter (stepL r) n (stepL r (both2 x y)) = _
    rw [step_or hr, iter_or hr n]; rfl
theorem run_or : ∀ (nd : Node) (a b : Nat), runR nd (a ||| b) = both2 (runR nd a) (runR nd b)
  | .atom l, a, b => by unfold runR; exact atom_or l a b
  | .loop p, a, b => by
    unfold runR
    rw [← iter_or (run_or p) 18 (a, 0) (b, 0)]
    simp [both2]
  | .pair k p q, a, b => by
    unfold runR
    split
    · rw [run_or p a b]
      unfold both2
      simp only
      rw [run_or q]
      unfold both2
      refine Prod.ext rfl ?_
      simp only; ac_rfl
    · rw [run_or p, run_or q]
      unfold both2
      refine Prod.ext ?_ ?_
      · simp only; ac_rfl
      · simp only; ac_rfl

/-! ### Loops come to an end -/
/-- How many of the first k states a set has. -/
def cnt (m : Nat) : Nat → Nat
  | 0 => 0
  | k + 1 => cnt m k + (if m.testBit k then 1 else 0)
theorem cnt_le (m : Nat) : ∀ k, cnt m k ≤ k
  | 0 => Nat.le_refl _
  | k + 1 => by have := cnt_le m k; unfold cnt; split <;> omega
theorem cnt_mono (a b : Nat) : ∀ k, cnt a k ≤ cnt (a ||| b) k
  | 0 => Nat.le_refl _
  | k + 1 => by
    have := cnt_mono a b k
    unfold cnt
    rw [Nat.testBit_or]
    cases a.testBit k <;> cases b.testBit k <;> simp <;> omega
theorem cnt_same (a b : Nat) : ∀ k, cnt (a ||| b) k ≤ cnt a k → ∀ i, i < k → (a ||| b).testBit i = a.testBit i
  | 0, _, i, hi => by omega
  | k + 1, h, i, hi => by
    have hm := cnt_mono a b k
    unfold cnt at h
    by_cases e : i = k
    · subst e
      rw [Nat.testBit_or] at h ⊢
      cases ha : a.testBit i <;> cases hb : b.testBit i <;> simp [ha, hb] at h ⊢
      omega
    · refine cnt_same a b k ?_ i (by omega)
      rw [Nat.testBit_or] at h
      cases ha : a.testBit k <;> cases hb : b.testBit k <;> simp [ha, hb] at h <;> omega
theorem or_same {a b : Nat} (ha : a < 512) (hb : b < 512) (h : cnt (a ||| b) 9 ≤ cnt a 9) : a ||| b = a := by
  apply Nat.eq_of_testBit_eq
  intro i
  by_cases hi : i < 9
  · exact cnt_same a b 9 h i hi
  · rw [Nat.testBit_lt_two_pow (Nat.lt_of_lt_of_le (or_lt ha hb) (Nat.pow_le_pow_right (n := 2) (by omega) (by omega : 9 ≤ i)))]
    rw [Nat.testBit_lt_two_pow (Nat.lt_of_lt_of_le ha (Nat.pow_le_pow_right (n := 2) (by omega) (by omega : 9 ≤ i)))]

def cnt2 (x : Nat × Nat) : Nat := cnt x.1 9 + cnt x.2 9
theorem cnt2_le (x : Nat × Nat) : cnt2 x ≤ 18 := by have := cnt_le x.1 9; have := cnt_le x.2 9; unfold cnt2; omega
theorem step_grows {r : Nat → Nat × Nat} (hr : ∀ m, m < 512 → (r m).1 < 512 ∧ (r m).2 < 512) {x : Nat × Nat} (hx : x.1 < 512 ∧ x.2 < 512) (h : stepL r x ≠ x) : cnt2 x < cnt2 (stepL r x) := by
  have m1 := cnt_mono x.1 (r x.1).1 9
  have m2 := cnt_mono x.2 (r x.1).2 9
  rcases Nat.lt_or_ge (cnt2 x) (cnt2 (stepL r x)) with h1 | h1
  · exact h1
  · exfalso
    unfold cnt2 stepL at h1
    simp only at h1
    apply h
    unfold stepL
    refine Prod.ext ?_ ?_
    · exact or_same hx.1 (hr _ hx.1).1 (by omega)
    · exact or_same hx.2 (hr _ hx.1).2 (by omega)
theorem iter_fix {f : Nat × Nat → Nat × Nat} {x : Nat × Nat} (h : f x = x) : ∀ n, iter f n x = x
  | 0 => rfl
  | n + 1 => by show iter f n (f x) = x; rw [h]; exact iter_fix h n
theorem iter_end {r : Nat → Nat × Nat} (hr : ∀ m, m < 512 → (r m).1 < 512 ∧ (r m).2 < 512) : ∀ n {x : Nat × Nat}, x.1 < 512 ∧ x.2 < 512 → 18 ≤ cnt2 x + n → stepL r (iter (stepL r) n x) = iter (stepL r) n x
  | 0, x, hx, h => by
    by_cases e : stepL r x = x
    · exact e
    · have := step_grows hr hx e
      have := cnt2_le (stepL r x)
      omega
  | n + 1, x, hx, h => by
    show stepL r (iter (stepL r) n (stepL r x)) = iter (stepL r) n (stepL r x)
    by_cases e : stepL r x = x
    · rw [e, iter_fix e]; exact e
    · exact iter_end hr n (step_lt hr hx) (by have := step_grows hr hx e; omega)
/-- A loop's results are no more after one more time. -/
theorem loop_end {p : Node} (h : p.ok) {m : Nat} (hm : m < 512) : stepL (runR p) (runR (.loop p) m) = runR (.loop p) m := by
  rw [runR]
  exact iter_end (run_lt p h) 18 ⟨hm, (by decide : (0 : Nat) < 512)⟩ (by omega)

/-! ### What a loop's results are -/
theorem iter_succ (f : Nat × Nat → Nat × Nat) : ∀ n (x : Nat × Nat), iter f (n + 1) x = f (iter f n x)
  | 0, _ => rfl
  | n + 1, x => iter_succ f n (f x)
theorem iter_add (f : Nat × Nat → Nat × Nat) : ∀ a b (x : Nat × Nat), iter f (a + b) x = iter f b (iter f a x)
  | 0, b, x => by rw [Nat.zero_add]; rfl
  | a + 1, b, x => by rw [Nat.add_right_comm]; exact iter_add f a b (f x)
/-- Wherever going on changes nothing, the end has been reached. -/
theorem fix_end {r : Nat → Nat × Nat} (hr : ∀ m, m < 512 → (r m).1 < 512 ∧ (r m).2 < 512) {x : Nat × Nat} (hx : x.1 < 512 ∧ x.2 < 512) {n : Nat} (h : stepL r (iter (stepL r) n x) = iter (stepL r) n x) : iter (stepL r) n x = iter (stepL r) 18 x := by
  have h18 := iter_end hr 18 hx (by omega)
  rcases Nat.le_total n 18 with hn | hn
  · have e := iter_add (stepL r) n (18 - n) x
    rw [show n + (18 - n) = 18 by omega, iter_fix h] at e
    exact e.symm
  · obtain ⟨d, rfl⟩ : ∃ d, n = 18 + d := ⟨n - 18, by omega⟩
    rw [iter_add, iter_fix h18]
theorem or_left (a b : Nat) : a ||| (a ||| b) = a ||| b := by rw [← Nat.or_assoc, Nat.or_self]
theorem iter_first {r : Nat → Nat × Nat} : ∀ n (x : Nat × Nat), x.1 ||| (iter (stepL r) n x).1 = (iter (stepL r) n x).1
  | 0, x => Nat.or_self _
  | n + 1, x => by
    have h := iter_first (r := r) n (stepL r x)
    show x.1 ||| (iter (stepL r) n (stepL r x)).1 = (iter (stepL r) n (stepL r x)).1
    rw [← h]
    unfold stepL
    simp only
    rw [← Nat.or_assoc, or_left]
/-- The errors are those of the part, from all that is reached by then. -/
theorem iter_errs {r : Nat → Nat × Nat} (hr : ∀ a b, r (a ||| b) = both2 (r a) (r b)) : ∀ n (x : Nat × Nat), x.2 ||| (r x.1).2 = (r x.1).2 → (iter (stepL r) n x).2 ||| (r (iter (stepL r) n x).1).2 = (r (iter (stepL r) n x).1).2
  | 0, _, h => h
  | n + 1, x, h => by
    refine iter_errs hr n (stepL r x) ?_
    unfold stepL
    simp only [hr]
    unfold both2
    simp only
    rw [h, or_left]
theorem loop_errs {p : Node} (h : p.ok) {m : Nat} (hm : m < 512) : (runR (.loop p) m).2 = (runR p (runR (.loop p) m).1).2 := by
  have h1 : (runR (.loop p) m).2 ||| (runR p (runR (.loop p) m).1).2 = (runR (.loop p) m).2 := congrArg Prod.snd (loop_end h hm)
  have h2 : (runR (.loop p) m).2 ||| (runR p (runR (.loop p) m).1).2 = (runR p (runR (.loop p) m).1).2 := iter_errs (run_or p) 18 (m, 0) (by simp)
  exact h1.symm.trans h2
theorem loop_more {p : Node} (h : p.ok) {m : Nat} (hm : m < 512) : (runR (.loop p) m).1 ||| (runR p (runR (.loop p) m).1).1 = (runR (.loop p) m).1 := congrArg Prod.fst (loop_end h hm)
theorem loop_from {p : Node} (m : Nat) : m ||| (runR (.loop p) m).1 = (runR (.loop p) m).1 := iter_first (r := runR p) 18 (m, 0)
end Go.Proofs.YtgkgkaapjljpcaaDoor

