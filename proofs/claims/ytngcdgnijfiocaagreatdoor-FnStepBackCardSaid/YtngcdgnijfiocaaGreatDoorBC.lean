/- Chapter 8, plain words: what the laws ask of the states from which a set is reached. -/
import Derived.Test.YtngcdgnijfiocaaGreatDoorBA
import Derived.Test.YtngcdgnijfiocaaGreatDoorE4
namespace Go.Proofs.YtngcdgnijfiocaaGreatDoor
open Go.ChangeShapes Go.WideShapes Go.ChangeAt Go.RowKit Go.Shelf
set_option maxRecDepth 100000

theorem isSet_n {m : Nat} (h : m < 512) : isSet (m : Int) = true := decide_eq_true (by omega)
theorem can_bit (nd : Node) (x : Int) (m : Nat) {s : Nat} (hs : s < 9) : (canN nd x m).testBit s = (exitN x (runR nd (2 ^ s)) &&& m != 0) := by
  unfold canN
  rw [backN_bit, decide_eq_true hs, Bool.true_and]
theorem compl_bit {m : Nat} (hm : m < 512) (i : Nat) : (511 - m).testBit i = (decide (i < 9) && !m.testBit i) := by
  have := Nat.testBit_two_pow_sub_succ (n := 9) hm i
  rw [show 2 ^ 9 - (m + 1) = 511 - m by omega] at this
  exact this
theorem high_bit {m : Nat} (hm : m < 512) {i : Nat} (hi : 9 ≤ i) : m.testBit i = false :=
  Nat.testBit_lt_two_pow (Nat.lt_of_lt_of_le hm (by have := Nat.pow_le_pow_right (n := 2) (by omega) hi; omega))
theorem andNot_512 {z m : Nat} (hz : z < 512) (hm : m < 512) : bits .andNot .i64 (z : Int) (m : Int) = ((z &&& (511 - m) : Nat) : Int) := by
  have hlt : z &&& (511 - m) < 512 := and_lt hz
  have e : (BitVec.ofInt 64 (z : Int) &&& ~~~ BitVec.ofInt 64 (m : Int)) = BitVec.ofNat 64 (z &&& (511 - m)) := by
    apply BitVec.eq_of_getLsbD_eq
    intro i hi
    rw [BitVec.ofInt_natCast, BitVec.ofInt_natCast]
    simp only [BitVec.getLsbD_and, BitVec.getLsbD_not, BitVec.getLsbD_ofNat, hi, decide_true, Bool.true_and, Nat.testBit_and, compl_bit hm]
    by_cases h9 : i < 9
    · simp [h9]
    · rw [high_bit hz (by omega)]; simp
  show IntKind.i64.wrap ((BitVec.ofInt 64 (z : Int) &&& ~~~ BitVec.ofInt 64 (m : Int)).toNat : Int) = _
  rw [e, BitVec.toNat_ofNat, Nat.mod_eq_of_lt (by omega)]
  exact IntWalk.i64_in _ (by omega)
theorem withinBit9 : ∀ s : Fin 9, ∀ c : Fin 512, (bits .andNot .i64 ((2 ^ s.val : Nat) : Int) (c.val : Int) == 0) = c.val.testBit s.val := by decide +kernel
theorem within_pow {s c : Nat} (hs : s < 9) (hc : c < 512) : within ((2 ^ s : Nat) : Int) (c : Int) = c.testBit s := by
  unfold within
  rw [isSet_n (pow9 hs), isSet_n hc]
  exact withinBit9 ⟨s, hs⟩ ⟨c, hc⟩
theorem only_bit (nd : Node) (x : Int) {m : Nat} (_ : m < 512) {s : Nat} (hs : s < 9) : (511 - canN nd x (511 - m)).testBit s = (exitN x (runR nd (2 ^ s)) &&& (511 - m) == 0) := by
  rw [compl_bit (canN_lt nd x _), can_bit nd x _ hs, decide_eq_true hs, Bool.true_and, bne, Bool.not_not]
/-- What has no state outside a set lies in it. -/
theorem inside_or {z m : Nat} (hz : z < 512) (hm : m < 512) (h : z &&& (511 - m) = 0) : z ||| m = m := by
  apply Nat.eq_of_testBit_eq
  intro i
  have h1 := congrArg (fun q => q.testBit i) h
  simp only [Nat.testBit_and, compl_bit hm, Nat.zero_testBit] at h1
  rw [Nat.testBit_or]
  by_cases h9 : i < 9
  · rw [decide_eq_true h9, Bool.true_and] at h1
    cases ha : z.testBit i <;> cases hb : m.testBit i <;> simp [ha, hb] at h1 ⊢
  · rw [high_bit hz (by omega), high_bit hm (by omega)]; rfl
theorem overL_or {f : Nat → Nat} {m : Nat} : ∀ (l : List (Fin 9)), (∀ y ∈ l, f y.val ||| m = m) → overL f l ||| m = m := by
  have H : ∀ (l : List (Fin 9)) (a : Nat), a ||| m = m → (∀ y ∈ l, f y.val ||| m = m) → l.foldl (fun a y => a ||| f y.val) a ||| m = m := by
    intro l
    induction l with
    | nil => intro a ha _; exact ha
    | cons y l ih =>
      intro a ha hl
      refine ih _ ?_ (fun z hz => hl z (List.mem_cons_of_mem _ hz))
      rw [Nat.or_assoc, hl y (List.mem_cons_self ..), ha]
  exact fun l hl => H l 0 (Nat.zero_or m) hl
theorem mem_up (s : Int) (y : Fin 9) : ∀ k, y ∈ upTo s k → hasB s y.val = true
  | 0, h => by simp [upTo] at h
  | k + 1, h => by
    unfold upTo at h
    split at h
    · rename_i hc
      rw [List.mem_append, List.mem_singleton] at h
      rcases h with h | rfl
      · exact mem_up s y k h
      · exact hc.2
    · exact mem_up s y k h
theorem exit_over (nd : Node) (x : Int) {c : Nat} (hc : c < 512) : exitN x (runR nd c) = overL (fun s => exitN x (runR nd (2 ^ s))) (upTo (c : Int) 9) := by
  have h := run_states nd hc
  unfold exitN
  split
  · rw [h]
  · rw [h]
/-- What is reached from there is within the set. -/
theorem only_all (nd : Node) (hok : nd.ok) (x : Int) {m : Nat} (hm : m < 512) : exitN x (runR nd (511 - canN nd x (511 - m))) ||| m = m := by
  have hc : 511 - canN nd x (511 - m) < 512 := by omega
  rw [exit_over nd x hc]
  refine overL_or _ fun y hy => ?_
  have h1 := mem_up _ y 9 hy
  rw [hasB_bit hc y.isLt, only_bit nd x hm y.isLt, beq_iff_eq] at h1
  have hz := run_lt nd hok (2 ^ y.val) (pow9 y.isLt)
  exact inside_or (by unfold exitN; split <;> first | exact hz.2 | exact hz.1) hm h1
theorem exit_lt (nd : Node) (hok : nd.ok) (x : Int) {m : Nat} (hm : m < 512) : exitN x (runR nd m) < 512 := by
  have hz := run_lt nd hok m hm
  unfold exitN; split <;> first | exact hz.2 | exact hz.1
theorem within_or {a b : Nat} (ha : a < 512) (hb : b < 512) (h : a ||| b = b) : within (a : Int) (b : Int) = true := by
  have hz : a &&& (511 - b) = 0 := by
    apply Nat.eq_of_testBit_eq
    intro i
    have h1 := congrArg (fun q => q.testBit i) h
    simp only [Nat.testBit_or] at h1
    rw [Nat.testBit_and, compl_bit hb, Nat.zero_testBit]
    cases h2 : a.testBit i <;> cases h3 : b.testBit i <;> simp [h2, h3] at h1 ⊢
  unfold within
  rw [isSet_n ha, isSet_n hb, andNot_512 ha hb, hz]
  rfl
/-- Safe and failing states. -/
theorem safe_all (nd : Node) : 511 - canN nd 1 (511 - 0) ||| canN nd 1 511 = 511 := by
  have hl := canN_lt nd 1 511
  apply Nat.eq_of_testBit_eq
  intro i
  show (511 - canN nd 1 511 ||| canN nd 1 511).testBit i = _
  rw [Nat.testBit_or, compl_bit hl]
  by_cases h9 : i < 9
  · have : (511 : Nat).testBit i = true := by
      have := compl_bit (m := 0) (by omega) i
      rw [show 511 - 0 = 511 from rfl, decide_eq_true h9, Nat.zero_testBit] at this
      exact this
    rw [this, decide_eq_true h9]
    cases (canN nd 1 511).testBit i <;> rfl
  · rw [high_bit hl (by omega), high_bit (m := 511) (by omega) (by omega), decide_eq_false h9]; rfl
end Go.Proofs.YtngcdgnijfiocaaGreatDoor

