/- Chapter 8, plain words: what is reached, turned round; states taken out one by one. No program of Go in it. -/
import Derived.Test.YtngcdgnijfiocaaGreatDoorR5
namespace Go.Proofs.YtngcdgnijfiocaaGreatDoor
open Go.ChangeShapes Go.WideShapes Go.ChangeAt Go.RowKit Go.Shelf
set_option maxRecDepth 100000

/-- The states among the first k from which some result is in a set. -/
def backN (f : Nat → Nat) (m : Nat) : Nat → Nat
  | 0 => 0
  | k + 1 => if f k &&& m = 0 then backN f m k else backN f m k ||| 2 ^ k
/-- Of the first k states those that reach the state s. -/
def revN (f : Nat → Nat) (s : Nat) : Nat → Nat
  | 0 => 0
  | k + 1 => if (f k).testBit s then revN f s k ||| 2 ^ k else revN f s k
theorem backN_hit {f : Nat → Nat} {m k : Nat} (h : ¬ f k &&& m = 0) : backN f m (k + 1) = backN f m k ||| 2 ^ k := by rw [backN, if_neg h]
theorem backN_miss {f : Nat → Nat} {m k : Nat} (h : f k &&& m = 0) : backN f m (k + 1) = backN f m k := by rw [backN, if_pos h]

theorem backN_bit (f : Nat → Nat) (m : Nat) : ∀ k i, (backN f m k).testBit i = (decide (i < k) && (f i &&& m != 0))
  | 0, i => by simp [backN]
  | k + 1, i => by
    have ih := backN_bit f m k i
    by_cases hik : i = k
    · subst hik
      by_cases h : f i &&& m = 0
      · rw [backN_miss h, ih]; simp [h]
      · rw [backN_hit h, Nat.testBit_or, ih, Nat.testBit_two_pow_self]; simp [h]
    · have e : decide (i < k + 1) = decide (i < k) := by rw [Bool.eq_iff_iff]; simp; omega
      rw [e]
      by_cases h : f k &&& m = 0
      · rw [backN_miss h]; exact ih
      · rw [backN_hit h, Nat.testBit_or, ih, Nat.testBit_two_pow_of_ne (Ne.symm hik), Bool.or_false]
theorem revN_bit (f : Nat → Nat) (s : Nat) : ∀ k i, (revN f s k).testBit i = (decide (i < k) && (f i).testBit s)
  | 0, i => by simp [revN]
  | k + 1, i => by
    have ih := revN_bit f s k i
    by_cases hik : i = k
    · subst hik
      unfold revN
      cases h : (f i).testBit s with
      | false => rw [if_neg (by simp), ih, h]; simp
      | true => rw [if_pos rfl, Nat.testBit_or, ih, Nat.testBit_two_pow_self]; simp
    · have e : decide (i < k + 1) = decide (i < k) := by rw [Bool.eq_iff_iff]; simp; omega
      rw [e]
      unfold revN
      cases h : (f k).testBit s with
      | false => rw [if_neg (by simp)]; exact ih
      | true => rw [if_pos rfl, Nat.testBit_or, ih, Nat.testBit_two_pow_of_ne (Ne.symm hik), Bool.or_false]
theorem over_bit (g : Nat → Nat) (m : Nat) : ∀ k i, (over g m k).testBit i = true ↔ ∃ s, s < k ∧ m.testBit s = true ∧ (g s).testBit i = true
  | 0, i => by simp [over]
  | k + 1, i => by
    have ih := over_bit g m k i
    unfold over
    cases h : m.testBit k with
    | false =>
      rw [if_neg (by simp), ih]
      constructor
      · rintro ⟨s, h1, h2, h3⟩; exact ⟨s, by omega, h2, h3⟩
      · rintro ⟨s, h1, h2, h3⟩
        refine ⟨s, ?_, h2, h3⟩
        by_cases hs : s = k
        · subst hs; rw [h] at h2; cases h2
        · omega
    | true =>
      rw [if_pos rfl, Nat.testBit_or, Bool.or_eq_true, ih]
      constructor
      · rintro (⟨s, h1, h2, h3⟩ | h3)
        · exact ⟨s, by omega, h2, h3⟩
        · exact ⟨k, by omega, h, h3⟩
      · rintro ⟨s, h1, h2, h3⟩
        by_cases hs : s = k
        · subst hs; exact .inr h3
        · exact .inl ⟨s, by omega, h2, h3⟩
theorem meet_bit (a : Nat) {m : Nat} (hm : m < 512) : (a &&& m != 0) = true ↔ ∃ s, s < 9 ∧ m.testBit s = true ∧ a.testBit s = true := by
  rw [bne_iff_ne]
  constructor
  · intro h
    by_cases hx : ∃ s, s < 9 ∧ m.testBit s = true ∧ a.testBit s = true
    · exact hx
    · refine absurd (Nat.eq_of_testBit_eq (x := a &&& m) (y := 0) fun i => ?_) h
      rw [Nat.testBit_and, Nat.zero_testBit]
      by_cases hi : i < 9
      · cases h1 : a.testBit i with
        | false => rfl
        | true =>
          cases h2 : m.testBit i with
          | false => rfl
          | true => exact absurd ⟨i, hi, h2, h1⟩ hx
      · have : m.testBit i = false := Nat.testBit_lt_two_pow (Nat.lt_of_lt_of_le hm (by have := Nat.pow_le_pow_right (n := 2) (by omega) (show 9 ≤ i by omega); omega))
        rw [this, Bool.and_false]
  · rintro ⟨s, _, h2, h3⟩ h0
    have := congrArg (fun z => z.testBit s) h0
    simp [h2, h3] at this
/-- What is gone back to is what is counted state by state. -/
theorem into_back (f : Nat → Nat) {m : Nat} (hm : m < 512) : over (fun s => revN f s 9) m 9 = backN f m 9 := by
  apply Nat.eq_of_testBit_eq
  intro i
  rw [Bool.eq_iff_iff, over_bit, backN_bit, Bool.and_eq_true, meet_bit _ hm, decide_eq_true_eq]
  constructor
  · rintro ⟨s, h1, h2, h3⟩
    rw [revN_bit, Bool.and_eq_true, decide_eq_true_eq] at h3
    exact ⟨h3.1, s, h1, h2, h3.2⟩
  · rintro ⟨h1, s, h2, h3, h4⟩
    refine ⟨s, h2, h3, ?_⟩
    rw [revN_bit, Bool.and_eq_true, decide_eq_true_eq]
    exact ⟨h1, h4⟩
theorem backN_lt (f : Nat → Nat) (m : Nat) : ∀ k, k ≤ 9 → backN f m k < 512
  | 0, _ => by simp [backN]
  | k + 1, h => by
    by_cases hz : f k &&& m = 0
    · rw [backN_miss hz]; exact backN_lt f m k (by omega)
    · rw [backN_hit hz]; exact or_lt (backN_lt f m k (by omega)) (pow9 (by omega))
theorem revN_lt (f : Nat → Nat) (s : Nat) : ∀ k, k ≤ 9 → revN f s k < 512
  | 0, _ => by simp [revN]
  | k + 1, h => by
    unfold revN
    split
    · exact or_lt (revN_lt f s k (by omega)) (pow9 (by omega))
    · exact revN_lt f s k (by omega)

/-- From where a program has some result in a set, by its tree; by texts and numbers. -/
def canN (nd : Node) (x : Int) (m : Nat) : Nat := backN (fun k => exitN x (runR nd (2 ^ k))) m 9
theorem canN_lt (nd : Node) (x : Int) (m : Nat) : canN nd x m < 512 := backN_lt _ _ 9 (Nat.le_refl _)
def canZ (t : ByteArray) (s x : Int) : Int := match readP t.toList with
  | some nd => if (isSet s && inB x 0 1) = true then ((canN nd x s.toNat : Nat) : Int) else 0
  | none => 0
def onlyZ (t : ByteArray) (s x : Int) : Int := if reachB t s x = true then 511 - canZ t (511 - s) x else 0
theorem canZ_ok {t : ByteArray} {nd : Node} (h : readP t.toList = some nd) {m : Nat} (hm : m < 512) {x : Int} (hx : x = 0 ∨ x = 1) : canZ t (m : Int) x = ((canN nd x m : Nat) : Int) := by
  have hs : isSet (m : Int) = true := decide_eq_true (by omega)
  have hx' : inB x 0 1 = true := inB_yes (by omega)
  unfold canZ
  rw [h, hs, hx']
  rfl
theorem canZ_no {t : ByteArray} {s x : Int} (h : reachB t s x = false) : canZ t s x = 0 := by
  unfold canZ
  cases hP : readP t.toList with
  | none => rfl
  | some nd =>
    unfold reachB at h
    rw [hP] at h
    dsimp only
    rw [if_neg]
    intro h2
    rw [Bool.and_eq_true] at h2
    rw [h2.1, h2.2] at h
    cases h
theorem compl9 : ∀ m : Fin 512, bits .andNot .i64 511 (m.val : Int) = ((511 - m.val : Nat) : Int) := by decide +kernel
theorem compl_nat {m : Nat} (hm : m < 512) : bits .andNot .i64 511 (m : Int) = ((511 - m : Nat) : Int) := compl9 ⟨m, hm⟩
theorem onlyZ_ok {t : ByteArray} {nd : Node} (h : readP t.toList = some nd) {m : Nat} (hm : m < 512) {x : Int} (hx : x = 0 ∨ x = 1) : onlyZ t (m : Int) x = ((511 - canN nd x (511 - m) : Nat) : Int) := by
  unfold onlyZ
  rw [(reach_ok h hm hx).2, if_pos rfl, show (511 : Int) - (m : Int) = ((511 - m : Nat) : Int) by omega, canZ_ok h (by omega) hx]
  have := canN_lt nd x (511 - m)
  omega
theorem onlyZ_no {t : ByteArray} {s x : Int} (h : reachB t s x = false) : onlyZ t s x = 0 := by unfold onlyZ; rw [h]; rfl
theorem reachB_set {t : ByteArray} {m m' : Nat} (hm : m < 512) (hm' : m' < 512) (x : Int) : reachB t (m : Int) x = reachB t (m' : Int) x := by
  have h1 : isSet (m : Int) = true := decide_eq_true (by omega)
  have h2 : isSet (m' : Int) = true := decide_eq_true (by omega)
  unfold reachB
  rw [h1, h2]
theorem reachB_bad {t : ByteArray} {s : Int} (h : isSet s = false) (x : Int) : reachB t s x = false := by
  unfold reachB; rw [h, Bool.and_false, Bool.false_and]
end Go.Proofs.YtngcdgnijfiocaaGreatDoor

