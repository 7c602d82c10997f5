/- Chapter 8: the least triple is least; plain words. -/
import Derived.Test.YtngcdgnijfiocaaGreatDoorYf
import Derived.Test.YtngcdgnijfiocaaGreatDoorYi
import Derived.Test.YtngcdgnijfiocaaGreatDoorYg
namespace Go.Proofs.YtngcdgnijfiocaaGreatDoor
open Go.ChangeShapes Go.WideShapes Go.ChangeAt Go.RowKit Go.Shelf
set_option maxRecDepth 100000

theorem drop_keep9 : ∀ s i : Fin 9, ∀ b : Fin 512, i ≠ s → (dropN b.val s.val).testBit i.val = b.val.testBit i.val := by decide +kernel
theorem drop_gone9 : ∀ s : Fin 9, ∀ b : Fin 512, (dropN b.val s.val).testBit s.val = false := by decide +kernel
def Sub9 (a b : Nat) : Prop := ∀ i, i < 9 → a.testBit i = true → b.testBit i = true
theorem leastA_down (S : Nat → Bool) {b : Nat} (hb : b < 512) (d : Nat) : ∀ e, d + e ≤ 9 → Sub9 (leastA S b (d + e)) (leastA S b d)
  | 0, _ => fun i _ h => h
  | e + 1, h => fun i hi hh => by
    refine leastA_down S hb d e (by omega) i hi ?_
    change (leastS S (leastA S b (d + e)) (8 - (d + e))).testBit i = true at hh
    unfold leastS at hh
    split at hh
    · exact drop_sub9 ⟨8 - (d + e), by omega⟩ ⟨i, hi⟩ ⟨leastA S b (d + e), leastA_lt S hb _⟩ hh
    · exact hh
theorem leastA_holds (S : Nat → Bool) {b : Nat} (h : S b = true) : ∀ d, S (leastA S b d) = true
  | 0 => h
  | d + 1 => by
    have ih := leastA_holds S h d
    unfold leastA leastS
    split
    · assumption
    · exact ih
/-- Without any of its states the least set is none. -/
theorem least_min (S : Nat → Bool) (hS : ∀ a c, a < 512 → c < 512 → Sub9 a c → S a = true → S c = true) {b : Nat} (hb : b < 512) {s : Nat} (hs : s < 9) (hbit : (leastT S b 0).testBit s = true) : S (dropN (leastT S b 0) s) = false := by
  have h1 : (leastA S b (8 - s + 1)).testBit s = true := by
    have := leastA_down S hb (8 - s + 1) s (by omega) s hs
    rw [show 8 - s + 1 + s = 9 by omega] at this
    exact this hbit
  have h2 : leastA S b (8 - s + 1) = leastS S (leastA S b (8 - s)) s := by rw [leastA, show 8 - (8 - s) = s by omega]
  have hlt := leastA_lt S hb (8 - s)
  have hLl : leastT S b 0 < 512 := leastA_lt S hb 9
  cases hc : S (dropN (leastA S b (8 - s)) s) with
  | true =>
    exfalso
    rw [h2] at h1
    unfold leastS at h1
    rw [if_pos hc, drop_gone9 ⟨s, hs⟩ ⟨leastA S b (8 - s), hlt⟩] at h1
    cases h1
  | false =>
    cases hL : S (dropN (leastT S b 0) s) with
    | false => rfl
    | true =>
      exfalso
      have h3 : S (dropN (leastA S b (8 - s)) s) = true := by
        refine hS _ _ (drop_lt hLl) (drop_lt hlt) (fun i hi hb2 => ?_) hL
        by_cases e : i = s
        · subst e
          rw [drop_gone9 ⟨i, hs⟩ ⟨leastT S b 0, hLl⟩] at hb2
          cases hb2
        · rw [drop_keep9 ⟨s, hs⟩ ⟨i, hi⟩ ⟨leastT S b 0, hLl⟩ (fun h => e (congrArg Fin.val h))] at hb2
          rw [drop_keep9 ⟨s, hs⟩ ⟨i, hi⟩ ⟨leastA S b (8 - s), hlt⟩ (fun h => e (congrArg Fin.val h))]
          have := leastA_down S hb (8 - s) (s + 1) (by omega) i hi
          rw [show 8 - s + (s + 1) = 9 by omega] at this
          exact this hb2
      rw [h3] at hc
      cases hc

theorem overL_bit {f : Nat → Nat} (j : Nat) (l : List (Fin 9)) : (overL f l).testBit j = true ↔ ∃ y ∈ l, (f y.val).testBit j = true := by
  have h : ∀ (l : List (Fin 9)) (a : Nat), (l.foldl (fun a x => a ||| f x.val) a).testBit j = true ↔ a.testBit j = true ∨ ∃ y ∈ l, (f y.val).testBit j = true := by
    intro l
    induction l with
    | nil => intro a; simp
    | cons y l ih =>
      intro a
      rw [List.foldl_cons, ih, Nat.testBit_or, Bool.or_eq_true]
      simp [or_assoc]
  have := h l 0
  rw [Nat.zero_testBit] at this
  simpa [overL] using this
theorem exit_bit (nd : Node) (x : Int) {n : Nat} (hn : n < 512) (j : Nat) : (exitN x (runR nd n)).testBit j = true ↔ ∃ u, u < 9 ∧ n.testBit u = true ∧ (exitN x (runR nd (2 ^ u))).testBit j = true := by
  rw [exit_over nd x hn, overL_bit]
  constructor
  · rintro ⟨y, hy, h⟩
    have := ((mem_upTo (n : Int) y 9).1 hy).2
    rw [hasB_bit hn y.isLt] at this
    exact ⟨y.val, y.isLt, this, h⟩
  · rintro ⟨u, hu, h1, h2⟩
    refine ⟨⟨u, hu⟩, (mem_upTo (n : Int) ⟨u, hu⟩ 9).2 ⟨hu, ?_⟩, h2⟩
    rw [hasB_bit hn hu]
    exact h1
theorem diff_zero {z m : Nat} (hz : z < 512) (hm : m < 512) : z &&& (511 - m) = 0 ↔ Sub9 z m := by
  constructor
  · intro h i hi hb
    have h1 := congrArg (fun q => q.testBit i) h
    simp only [Nat.testBit_and, compl_bit hm, Nat.zero_testBit, hb, Bool.true_and] at h1
    rw [decide_eq_true hi] at h1
    simpa using h1
  · intro h
    apply Nat.eq_of_testBit_eq
    intro i
    rw [Nat.testBit_and, compl_bit hm, Nat.zero_testBit]
    by_cases h9 : i < 9
    · cases hb : z.testBit i with
      | false => rfl
      | true => rw [h i h9 hb]; simp
    · rw [high_bit hz (by omega)]; rfl

/-! ### How many -/
theorem cnt_disj (a b : Nat) : ∀ k, (∀ i, i < k → ¬ (a.testBit i = true ∧ b.testBit i = true)) → cnt (a ||| b) k = cnt a k + cnt b k
  | 0, _ => rfl
  | k + 1, h => by
    have ih := cnt_disj a b k (fun i hi => h i (by omega))
    have hk := h k (by omega)
    unfold cnt
    rw [ih, Nat.testBit_or]
    cases ha : a.testBit k <;> cases hb : b.testBit k <;> simp [ha, hb] at hk ⊢ <;> omega
theorem cnt_sub {a b : Nat} : ∀ k, (∀ i, i < k → a.testBit i = true → b.testBit i = true) → cnt a k ≤ cnt b k
  | 0, _ => Nat.le_refl _
  | k + 1, h => by
    have ih := cnt_sub k (fun i hi => h i (by omega))
    have hk := h k (by omega)
    unfold cnt
    cases ha : a.testBit k with
    | false => simp; split <;> omega
    | true => rw [hk ha]; simp; omega
theorem cnt_pos {b i : Nat} : ∀ k, i < k → b.testBit i = true → 1 ≤ cnt b k
  | 0, h, _ => by omega
  | k + 1, h, hb => by
    unfold cnt
    by_cases e : i = k
    · subst e; rw [hb]; simp
    · have := cnt_pos k (by omega) hb; omega
/-- What a state of the set alone leads to. -/
def privW (E : Nat → Nat) (q L : Nat) (s : Nat) : Nat := q &&& (511 - E (dropN L s))
def unionW (E : Nat → Nat) (q L : Nat) : Nat → Nat
  | 0 => 0
  | k + 1 => if L.testBit k = true then unionW E q L k ||| privW E q L k else unionW E q L k
theorem least_count {E : Nat → Nat} {q L : Nat} (_hq : q < 512) (hL : L < 512) (hE : ∀ n, n < 512 → E n < 512)
    (hB : ∀ n, n < 512 → ∀ j, (E n).testBit j = true ↔ ∃ u, u < 9 ∧ n.testBit u = true ∧ (E (2 ^ u)).testBit j = true)
    (hs : Sub9 q (E L)) (hm : ∀ s, s < 9 → L.testBit s = true → ¬ Sub9 q (E (dropN L s))) : cnt L 9 ≤ cnt q 9 := by
  have hpb : ∀ s j, (privW E q L s).testBit j = true ↔ q.testBit j = true ∧ j < 9 ∧ (E (dropN L s)).testBit j = false := fun s j => by
    unfold privW
    rw [Nat.testBit_and, compl_bit (hE _ (drop_lt hL))]
    cases q.testBit j <;> cases (E (dropN L s)).testBit j <;> simp
  have apart : ∀ s s' j, s < 9 → s' < 9 → s ≠ s' → (privW E q L s).testBit j = true → (privW E q L s').testBit j = true → False := fun s s' j h1 h2 hne p1 p2 => by
    obtain ⟨a1, a2, a3⟩ := (hpb s j).1 p1
    obtain ⟨_, _, b3⟩ := (hpb s' j).1 p2
    obtain ⟨u, hu, hb, hj⟩ := (hB L hL j).1 (hs j a2 a1)
    by_cases e : u = s
    · have h3 : (dropN L s').testBit u = true := by
        rw [drop_keep9 ⟨s', h2⟩ ⟨u, hu⟩ ⟨L, hL⟩ (fun h => hne (e ▸ congrArg Fin.val h))]
        exact hb
      rw [(hB _ (drop_lt hL) j).2 ⟨u, hu, h3, hj⟩] at b3
      cases b3
    · have h3 : (dropN L s).testBit u = true := by
        rw [drop_keep9 ⟨s, h1⟩ ⟨u, hu⟩ ⟨L, hL⟩ (fun h => e (congrArg Fin.val h))]
        exact hb
      rw [(hB _ (drop_lt hL) j).2 ⟨u, hu, h3, hj⟩] at a3
      cases a3
  have main : ∀ k, k ≤ 9 → cnt L k ≤ cnt (unionW E q L k) 9 ∧ ∀ j, (unionW E q L k).testBit j = true → ∃ s, s < k ∧ (privW E q L s).testBit j = true := by
    intro k
    induction k with
    | zero => intro _; exact ⟨Nat.zero_le _, fun j h => by rw [unionW, Nat.zero_testBit] at h; cases h⟩
    | succ k ih =>
      intro hk
      obtain ⟨i1, i2⟩ := ih (by omega)
      unfold unionW
      cases hb : L.testBit k with
      | false =>
        rw [if_neg (by simp)]
        refine ⟨?_, fun j h => ?_⟩
        · show cnt L k + (if L.testBit k then 1 else 0) ≤ _
          rw [hb]
          simpa using i1
        · obtain ⟨s, hs1, hs2⟩ := i2 j h
          exact ⟨s, by omega, hs2⟩
      | true =>
        rw [if_pos rfl]
        refine ⟨?_, fun j h => ?_⟩
        · rw [cnt_disj _ _ 9 (fun i hi hh => by
            obtain ⟨s, hs1, hs2⟩ := i2 i hh.1
            exact apart s k i (by omega) (by omega) (by omega) hs2 hh.2)]
          have hne := hm k (by omega) hb
          have : ∃ i, i < 9 ∧ (privW E q L k).testBit i = true := by
            refine Classical.byContradiction fun hno => hne (fun i hi hqi => ?_)
            cases hx : (E (dropN L k)).testBit i with
            | true => rfl
            | false => exact absurd ⟨i, hi, (hpb k i).2 ⟨hqi, hi, hx⟩⟩ hno
          obtain ⟨i, hi, hp⟩ := this
          have := cnt_pos 9 hi hp
          show cnt L k + (if L.testBit k then 1 else 0) ≤ _
          rw [hb]
          simp
          omega
        · rw [Nat.testBit_or, Bool.or_eq_true] at h
          rcases h with h | h
          · obtain ⟨s, hs1, hs2⟩ := i2 j h
            exact ⟨s, by omega, hs2⟩
          · exact ⟨k, by omega, h⟩
  obtain ⟨m1, m2⟩ := main 9 (Nat.le_refl _)
  refine Nat.le_trans m1 (cnt_sub 9 fun i hi h => ?_)
  obtain ⟨s, _, h2⟩ := m2 i h
  exact ((hpb s i).1 h2).1
end Go.Proofs.YtngcdgnijfiocaaGreatDoor
