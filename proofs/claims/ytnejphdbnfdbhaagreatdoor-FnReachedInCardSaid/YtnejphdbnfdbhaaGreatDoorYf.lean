/- Chapter 8, plain words: what is reached, turned round; states taken out one by one. No program of Go in it. Chapter 8, plain words: what the laws ask of the states from which a set is reached. -/
import Derived.Test.YtnejphdbnfdbhaaGreatDoorR5
import Derived.Test.YtnejphdbnfdbhaaGreatDoorE4
namespace Go.Proofs.YtnejphdbnfdbhaaGreatDoor
open Go.ChangeShapes Go.WideShapes Go.ChangeAt Go.RowKit Go.Shelf
set_option maxRecDepth 100000

/-- The states among the first k from which some result is in a set. -/
def backN (f : Nat → Nat) (m : Nat) : Nat → Nat
  | 0 => 0
  | k + 1 => if f k &&& m = 0 then backN f m k else backN f m k ||| 2 ^ k
/-- Of the first k states those that reach the state s. -/
def revN (f : Nat → Nat) (s : Nat) : Nat → Nat
  | 0 => 0
  | k + 1 => if (f k).testBit s then revN f s k ||| 2 ^ k else revN f s k
theorem backN_hit {f : Nat → Nat} {m k : Nat} (h : ¬ f k &&& m = 0) : backN f m (k + 1) = backN f m k ||| 2 ^ k := by rw [backN, if_neg h]
theorem backN_miss {f : Nat → Nat} {m k : Nat} (h : f k &&& m = 0) : backN f m (k + 1) = backN f m k := by rw [backN, if_pos h]

theorem backN_bit (f : Nat → Nat) (m : Nat) : ∀ k i, (backN f m k).testBit i = (decide (i < k) && (f i &&& m != 0))
  | 0, i => by simp [backN]
  | k + 1, i => by
    have ih := backN_bit f m k i
    by_cases hik : i = k
    · subst hik
      by_cases h : f i &&& m = 0
      · rw [backN_miss h, ih]; simp [h]
      · rw [backN_hit h, Nat.testBit_or, ih, Nat.testBit_two_pow_self]; simp [h]
    · have e : decide (i < k + 1) = decide (i < k) := by rw [Bool.eq_iff_iff]; simp; omega
      rw [e]
      by_cases h : f k &&& m = 0
      · rw [backN_miss h]; exact ih
      · rw [backN_hit h, Nat.testBit_or, ih, Nat.testBit_two_pow_of_ne (Ne.symm hik), Bool.or_false]
theorem revN_bit (f : Nat → Nat) (s : Nat) : ∀ k i, (revN f s k).testBit i = (decide (i < k) && (f i).testBit s)
  | 0, i => by simp [revN]
  | k + 1, i => by
    have ih := revN_bit f s k i
    by_cases hik : i = k
    · subst hik
      unfold revN
      cases h : (f i).testBit s with
      | false => rw [if_neg (by simp), ih, h]; simp
      | true => rw [if_pos rfl, Nat.testBit_or, ih, Nat.testBit_two_pow_self]; simp
    · have e : decide (i < k + 1) = decide (i < k) := by rw [Bool.eq_iff_iff]; simp; omega
      rw [e]
      unfold revN
      cases h : (f k).testBit s with
      | false => rw [if_neg (by simp)]; exact ih
      | true => rw [if_pos rfl, Nat.testBit_or, ih, Nat.testBit_two_pow_of_ne (Ne.symm hik), Bool.or_false]
theorem over_bit (g : Nat → Nat) (m : Nat) : ∀ k i, (over g m k).testBit i = true ↔ ∃ s, s < k ∧ m.testBit s = true ∧ (g s).testBit i = true
  | 0, i => by simp [over]
  | k + 1, i => by
    have ih := over_bit g m k i
    unfold over
    cases h : m.testBit k with
    | false =>
      rw [if_neg (by simp), ih]
      constructor
      · rintro ⟨s, h1, h2, h3⟩; exact ⟨s, by omega, h2, h3⟩
      · rintro ⟨s, h1, h2, h3⟩
        refine ⟨s, ?_, h2, h3⟩
        by_cases hs : s = k
        · subst hs; rw [h] at h2; cases h2
        · omega
    | true =>
      rw [if_pos rfl, Nat.testBit_or, Bool.or_eq_true, ih]
      constructor
      · rintro (⟨s, h1, h2, h3⟩ | h3)
        · exact ⟨s, by omega, h2, h3⟩
        · exact ⟨k, by omega, h, h3⟩
      · rintro ⟨s, h1, h2, h3⟩
        by_cases hs : s = k
        · subst hs; exact .inr h3
        · exact .inl ⟨s, by omega, h2, h3⟩
theorem meet_bit (a : Nat) {m : Nat} (hm : m < 512) : (a &&& m != 0) = true ↔ ∃ s, s < 9 ∧ m.testBit s = true ∧ a.testBit s = true := by
  rw [bne_iff_ne]
  constructor
  · intro h
    by_cases hx : ∃ s, s < 9 ∧ m.testBit s = true ∧ a.testBit s = true
    · exact hx
    · refine absurd (Nat.eq_of_testBit_eq (x := a &&& m) (y := 0) fun i => ?_) h
      rw [Nat.testBit_and, Nat.zero_testBit]
      by_cases hi : i < 9
      · cases h1 : a.testBit i with
        | false => rfl
        | true =>
          cases h2 : m.testBit i with
          | false => rfl
          | true => exact absurd ⟨i, hi, h2, h1⟩ hx
      · have : m.testBit i = false := Nat.testBit_lt_two_pow (Nat.lt_of_lt_of_le hm (by have := Nat.pow_le_pow_right (n := 2) (by omega) (show 9 ≤ i by omega); omega))
        rw [this, Bool.and_false]
  · rintro ⟨s, _, h2, h3⟩ h0
    have := congrArg (fun z => z.testBit s) h0
    simp [h2, h3] at this
/-- What is gone back to is what is counted state by state. -/
theorem into_back (f : Nat → Nat) {m : Nat} (hm : m < 512) : over (fun s => revN f s 9) m 9 = backN f m 9 := by
  apply Nat.eq_of_testBit_eq
  intro i
  rw [Bool.eq_iff_iff, over_bit, backN_bit, Bool.and_eq_true, meet_bit _ hm, decide_eq_true_eq]
  constructor
  · rintro ⟨s, h1, h2, h3⟩
    rw [revN_bit, Bool.and_eq_true, decide_eq_true_eq] at h3
    exact ⟨h3.1, s, h1, h2, h3.2⟩
  · rintro ⟨h1, s, h2, h3, h4⟩
    refine ⟨s, h2, h3, ?_⟩
    rw [revN_bit, Bool.and_eq_true, decide_eq_true_eq]
    exact ⟨h1, h4⟩
theorem backN_lt (f : Nat → Nat) (m : Nat) : ∀ k, k ≤ 9 → backN f m k < 512
  | 0, _ => by simp [backN]
  | k + 1, h => by
    by_cases hz : f k &&& m = 0
    · rw [backN_miss hz]; exact backN_lt f m k (by omega)
    · rw [backN_hit hz]; exact or_lt (backN_lt f m k (by omega)) (pow9 (by omega))
theorem revN_lt (f : Nat → Nat) (s : Nat) : ∀ k, k ≤ 9 → revN f s k < 512
  | 0, _ => by simp [revN]
  | k + 1, h => by
    unfold revN
    split
    · exact or_lt (revN_lt f s k (by omega)) (pow9 (by omega))
    · exact revN_lt f s k (by omega)

/-- From where a program has some result in a set, by its tree; by texts and numbers. -/
def canN (nd : Node) (x : Int) (m : Nat) : Nat := backN (fun k => exitN x (runR nd (2 ^ k))) m 9
theorem canN_lt (nd : Node) (x : Int) (m : Nat) : canN nd x m < 512 := backN_lt _ _ 9 (Nat.le_refl _)
def canZ (t : ByteArray) (s x : Int) : Int := match readP t.toList with
  | some nd => if (isSet s && inB x 0 1) = true then ((canN nd x s.toNat : Nat) : Int) else 0
  | none => 0
def onlyZ (t : ByteArray) (s x : Int) : Int := if reachB t s x = true then 511 - canZ t (511 - s) x else 0
theorem canZ_ok {t : ByteArray} {nd : Node} (h : readP t.toList = some nd) {m : Nat} (hm : m < 512) {x : Int} (hx : x = 0 ∨ x = 1) : canZ t (m : Int) x = ((canN nd x m : Nat) : Int) := by
  have hs : isSet (m : Int) = true := decide_eq_true (by omega)
  have hx' : inB x 0 1 = true := inB_yes (by omega)
  unfold canZ
  rw [h, hs, hx']
  rfl
theorem canZ_no {t : ByteArray} {s x : Int} (h : reachB t s x = false) : canZ t s x = 0 := by
  unfold canZ
  cases hP : readP t.toList with
  | none => rfl
  | some nd =>
    unfold reachB at h
    rw [hP] at h
    dsimp only
    rw [if_neg]
    intro h2
    rw [Bool.and_eq_true] at h2
    rw [h2.1, h2.2] at h
    cases h
theorem compl9 : ∀ m : Fin 512, bits .andNot .i64 511 (m.val : Int) = ((511 - m.val : Nat) : Int) := by decide +kernel
theorem compl_nat {m : Nat} (hm : m < 512) : bits .andNot .i64 511 (m : Int) = ((511 - m : Nat) : Int) := compl9 ⟨m, hm⟩
theorem onlyZ_ok {t : ByteArray} {nd : Node} (h : readP t.toList = some nd) {m : Nat} (hm : m < 512) {x : Int} (hx : x = 0 ∨ x = 1) : onlyZ t (m : Int) x = ((511 - canN nd x (511 - m) : Nat) : Int) := by
  unfold onlyZ
  rw [(reach_ok h hm hx).2, if_pos rfl, show (511 : Int) - (m : Int) = ((511 - m : Nat) : Int) by omega, canZ_ok h (by omega) hx]
  have := canN_lt nd x (511 - m)
  omega
theorem onlyZ_no {t : ByteArray} {s x : Int} (h : reachB t s x = false) : onlyZ t s x = 0 := by unfold onlyZ; rw [h]; rfl
theorem reachB_set {t : ByteArray} {m m' : Nat} (hm : m < 512) (hm' : m' < 512) (x : Int) : reachB t (m : Int) x = reachB t (m' : Int) x := by
  have h1 : isSet (m : Int) = true := decide_eq_true (by omega)
  have h2 : isSet (m' : Int) = true := decide_eq_true (by omega)
  unfold reachB
  rw [h1, h2]
theorem reachB_bad {t : ByteArray} {s : Int} (h : isSet s = false) (x : Int) : reachB t s x = false := by
  unfold reachB; rw [h, Bool.and_false, Bool.false_and]
end Go.Proofs.YtnejphdbnfdbhaaGreatDoor

namespace Go.Proofs.YtnejphdbnfdbhaaGreatDoor
open Go.ChangeShapes Go.WideShapes Go.ChangeAt Go.RowKit Go.Shelf
set_option maxRecDepth 100000

theorem isSet_n {m : Nat} (h : m < 512) : isSet (m : Int) = true := decide_eq_true (by omega)
theorem can_bit (nd : Node) (x : Int) (m : Nat) {s : Nat} (hs : s < 9) : (canN nd x m).testBit s = (exitN x (runR nd (2 ^ s)) &&& m != 0) := by
  unfold canN
  rw [backN_bit, decide_eq_true hs, Bool.true_and]
theorem compl_bit {m : Nat} (hm : m < 512) (i : Nat) : (511 - m).testBit i = (decide (i < 9) && !m.testBit i) := by
  have := Nat.testBit_two_pow_sub_succ (n := 9) hm i
  rw [show 2 ^ 9 - (m + 1) = 511 - m by omega] at this
  exact this
theorem high_bit {m : Nat} (hm : m < 512) {i : Nat} (hi : 9 ≤ i) : m.testBit i = false :=
  Nat.testBit_lt_two_pow (Nat.lt_of_lt_of_le hm (by have := Nat.pow_le_pow_right (n := 2) (by omega) hi; omega))
theorem andNot_512 {z m : Nat} (hz : z < 512) (hm : m < 512) : bits .andNot .i64 (z : Int) (m : Int) = ((z &&& (511 - m) : Nat) : Int) := by
  have hlt : z &&& (511 - m) < 512 := and_lt hz
  have e : (BitVec.ofInt 64 (z : Int) &&& ~~~ BitVec.ofInt 64 (m : Int)) = BitVec.ofNat 64 (z &&& (511 - m)) := by
    apply BitVec.eq_of_getLsbD_eq
    intro i hi
    rw [BitVec.ofInt_natCast, BitVec.ofInt_natCast]
    simp only [BitVec.getLsbD_and, BitVec.getLsbD_not, BitVec.getLsbD_ofNat, hi, decide_true, Bool.true_and, Nat.testBit_and, compl_bit hm]
    by_cases h9 : i < 9
    · simp [h9]
    · rw [high_bit hz (by omega)]; simp
  show IntKind.i64.wrap ((BitVec.ofInt 64 (z : Int) &&& ~~~ BitVec.ofInt 64 (m : Int)).toNat : Int) = _
  rw [e, BitVec.toNat_ofNat, Nat.mod_eq_of_lt (by omega)]
  exact IntWalk.i64_in _ (by omega)
theorem withinBit9 : ∀ s : Fin 9, ∀ c : Fin 512, (bits .andNot .i64 ((2 ^ s.val : Nat) : Int) (c.val : Int) == 0) = c.val.testBit s.val := by decide +kernel
theorem within_pow {s c : Nat} (hs : s < 9) (hc : c < 512) : within ((2 ^ s : Nat) : Int) (c : Int) = c.testBit s := by
  unfold within
  rw [isSet_n (pow9 hs), isSet_n hc]
  exact withinBit9 ⟨s, hs⟩ ⟨c, hc⟩
theorem only_bit (nd : Node) (x : Int) {m : Nat} (_ : m < 512) {s : Nat} (hs : s < 9) : (511 - canN nd x (511 - m)).testBit s = (exitN x (runR nd (2 ^ s)) &&& (511 - m) == 0) := by
  rw [compl_bit (canN_lt nd x _), can_bit nd x _ hs, decide_eq_true hs, Bool.true_and, bne, Bool.not_not]
/-- What has no state outside a set lies in it. -/
theorem inside_or {z m : Nat} (hz : z < 512) (hm : m < 512) (h : z &&& (511 - m) = 0) : z ||| m = m := by
  apply Nat.eq_of_testBit_eq
  intro i
  have h1 := congrArg (fun q => q.testBit i) h
  simp only [Nat.testBit_and, compl_bit hm, Nat.zero_testBit] at h1
  rw [Nat.testBit_or]
  by_cases h9 : i < 9
  · rw [decide_eq_true h9, Bool.true_and] at h1
    cases ha : z.testBit i <;> cases hb : m.testBit i <;> simp [ha, hb] at h1 ⊢
  · rw [high_bit hz (by omega), high_bit hm (by omega)]; rfl
theorem overL_or {f : Nat → Nat} {m : Nat} : ∀ (l : List (Fin 9)), (∀ y ∈ l, f y.val ||| m = m) → overL f l ||| m = m := by
  have H : ∀ (l : List (Fin 9)) (a : Nat), a ||| m = m → (∀ y ∈ l, f y.val ||| m = m) → l.foldl (fun a y => a ||| f y.val) a ||| m = m := by
    intro l
    induction l with
    | nil => intro a ha _; exact ha
    | cons y l ih =>
      intro a ha hl
      refine ih _ ?_ (fun z hz => hl z (List.mem_cons_of_mem _ hz))
      rw [Nat.or_assoc, hl y (List.mem_cons_self ..), ha]
  exact fun l hl => H l 0 (Nat.zero_or m) hl
theorem mem_up (s : Int) (y : Fin 9) : ∀ k, y ∈ upTo s k → hasB s y.val = true
  | 0, h => by simp [upTo] at h
  | k + 1, h => by
    unfold upTo at h
    split at h
    · rename_i hc
      rw [List.mem_append, List.mem_singleton] at h
      rcases h with h | rfl
      · exact mem_up s y k h
      · exact hc.2
    · exact mem_up s y k h
theorem exit_over (nd : Node) (x : Int) {c : Nat} (hc : c < 512) : exitN x (runR nd c) = overL (fun s => exitN x (runR nd (2 ^ s))) (upTo (c : Int) 9) := by
  have h := run_states nd hc
  unfold exitN
  split
  · rw [h]
  · rw [h]
/-- What is reached from there is within the set. -/
theorem only_all (nd : Node) (hok : nd.ok) (x : Int) {m : Nat} (hm : m < 512) : exitN x (runR nd (511 - canN nd x (511 - m))) ||| m = m := by
  have hc : 511 - canN nd x (511 - m) < 512 := by omega
  rw [exit_over nd x hc]
  refine overL_or _ fun y hy => ?_
  have h1 := mem_up _ y 9 hy
  rw [hasB_bit hc y.isLt, only_bit nd x hm y.isLt, beq_iff_eq] at h1
  have hz := run_lt nd hok (2 ^ y.val) (pow9 y.isLt)
  exact inside_or (by unfold exitN; split <;> first | exact hz.2 | exact hz.1) hm h1
theorem exit_lt (nd : Node) (hok : nd.ok) (x : Int) {m : Nat} (hm : m < 512) : exitN x (runR nd m) < 512 := by
  have hz := run_lt nd hok m hm
  unfold exitN; split <;> first | exact hz.2 | exact hz.1
theorem within_or {a b : Nat} (ha : a < 512) (hb : b < 512) (h : a ||| b = b) : within (a : Int) (b : Int) = true := by
  have hz : a &&& (511 - b) = 0 := by
    apply Nat.eq_of_testBit_eq
    intro i
    have h1 := congrArg (fun q => q.testBit i) h
    simp only [Nat.testBit_or] at h1
    rw [Nat.testBit_and, compl_bit hb, Nat.zero_testBit]
    cases h2 : a.testBit i <;> cases h3 : b.testBit i <;> simp [h2, h3] at h1 ⊢
  unfold within
  rw [isSet_n ha, isSet_n hb, andNot_512 ha hb, hz]
  rfl
/-- Safe and failing states. -/
theorem safe_all (nd : Node) : 511 - canN nd 1 (511 - 0) ||| canN nd 1 511 = 511 := by
  have hl := canN_lt nd 1 511
  apply Nat.eq_of_testBit_eq
  intro i
  show (511 - canN nd 1 511 ||| canN nd 1 511).testBit i = _
  rw [Nat.testBit_or, compl_bit hl]
  by_cases h9 : i < 9
  · have : (511 : Nat).testBit i = true := by
      have := compl_bit (m := 0) (by omega) i
      rw [show 511 - 0 = 511 from rfl, decide_eq_true h9, Nat.zero_testBit] at this
      exact this
    rw [this, decide_eq_true h9]
    cases (canN nd 1 511).testBit i <;> rfl
  · rw [high_bit hl (by omega), high_bit (m := 511) (by omega) (by omega), decide_eq_false h9]; rfl
end Go.Proofs.YtnejphdbnfdbhaaGreatDoor
