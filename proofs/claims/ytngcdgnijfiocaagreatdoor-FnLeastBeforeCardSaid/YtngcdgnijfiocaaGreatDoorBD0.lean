/- Chapter 8, plain words: the states of a set in descending order; states taken out one by one. -/
import Derived.Test.YtngcdgnijfiocaaGreatDoorE4
namespace Go.Proofs.YtngcdgnijfiocaaGreatDoor
open Go.ChangeShapes Go.WideShapes Go.ChangeAt Go.RowKit Go.Shelf
attribute [local go_sem] Oper.semAt_some
set_option maxRecDepth 100000

/-- The states of s above the last 9 - d, in descending order. -/
def downTo (s : Int) : Nat → List (Fin 9)
  | 0 => []
  | d + 1 => if h : 8 - d < 9 ∧ hasB s (8 - d) = true then downTo s d ++ [⟨8 - d, h.1⟩] else downTo s d
/-- Those from k up. -/
def topL (s : Int) (k : Nat) : List (Fin 9) := downTo s (9 - k)
theorem topL_hit (s : Int) {k : Nat} (h : k < 9) (hb : hasB s k = true) : topL s k = topL s (k + 1) ++ [⟨k, h⟩] := by
  have e1 : 9 - k = (8 - k) + 1 := by omega
  have e2 : 9 - (k + 1) = 8 - k := by omega
  have e3 : 8 - (8 - k) = k := by omega
  unfold topL
  rw [e1, e2, downTo, dif_pos (by rw [e3]; exact ⟨h, hb⟩)]
  simp only [e3]
theorem topL_miss (s : Int) {k : Nat} (h : k < 9) (hb : hasB s k = false) : topL s k = topL s (k + 1) := by
  have e1 : 9 - k = (8 - k) + 1 := by omega
  have e2 : 9 - (k + 1) = 8 - k := by omega
  have e3 : 8 - (8 - k) = k := by omega
  unfold topL
  rw [e1, e2, downTo, dif_neg (by rw [e3, hb]; simp)]
theorem topL_len (s : Int) {k : Nat} (_ : k ≤ 9) : (topL s k).length ≤ 9 - k := by
  have H : ∀ d, (downTo s d).length ≤ d := by
    intro d
    induction d with
    | zero => exact Nat.le_refl _
    | succ d ih =>
      unfold downTo
      split
      · rw [List.length_append]; simp; omega
      · omega
  exact H (9 - k)
theorem topL_prefix (s : Int) {k : Nat} (h : k ≤ 9) : topL s k <+: topL s 0 := by
  have H : ∀ d e, downTo s d <+: downTo s (d + e) := by
    intro d e
    induction e with
    | zero => exact List.prefix_refl _
    | succ e ih =>
      refine ih.trans ?_
      show downTo s (d + e) <+: downTo s (d + e + 1)
      rw [downTo]
      split
      · exact List.prefix_append _ _
      · exact List.prefix_refl _
  have := H (9 - k) k
  rw [show 9 - k + k = 9 - 0 by omega] at this
  exact this

/-! ### States taken out -/
/-- A set without a state. -/
def dropN (b s : Nat) : Nat := if b.testBit s then b - 2 ^ s else b
theorem drop9 : ∀ s : Fin 9, ∀ b : Fin 512, bits .andNot .i64 (b.val : Int) ((2 ^ s.val : Nat) : Int) = ((dropN b.val s.val : Nat) : Int) := by decide +kernel
theorem drop_nat {b s : Nat} (hb : b < 512) (hs : s < 9) : bits .andNot .i64 (b : Int) ((2 ^ s : Nat) : Int) = ((dropN b s : Nat) : Int) := drop9 ⟨s, hs⟩ ⟨b, hb⟩
theorem drop_lt {b s : Nat} (hb : b < 512) : dropN b s < 512 := by unfold dropN; split <;> first | exact Nat.lt_of_le_of_lt (Nat.sub_le _ _) hb | exact hb
theorem drop_sub9 : ∀ s i : Fin 9, ∀ b : Fin 512, (dropN b.val s.val).testBit i.val = true → b.val.testBit i.val = true := by decide +kernel
/-- One state is tried. -/
def leastS (S : Nat → Bool) (b s : Nat) : Nat := if S (dropN b s) = true then dropN b s else b
/-- The states of a list are tried, one behind the other. -/
def leastL (S : Nat → Bool) (b : Nat) (l : List (Fin 9)) : Nat := l.foldl (fun b x => leastS S b x.val) b
theorem leastL_snoc (S : Nat → Bool) (b : Nat) (l : List (Fin 9)) (x : Fin 9) : leastL S b (l ++ [x]) = leastS S (leastL S b l) x.val := by simp [leastL, List.foldl_append]
theorem leastS_lt {S : Nat → Bool} {b s : Nat} (hb : b < 512) : leastS S b s < 512 := by unfold leastS; split <;> first | exact drop_lt hb | exact hb
theorem leastL_lt (S : Nat → Bool) {b : Nat} (hb : b < 512) (l : List (Fin 9)) : leastL S b l < 512 := by
  have H : ∀ (l : List (Fin 9)) (b : Nat), b < 512 → l.foldl (fun b x => leastS S b x.val) b < 512 := by
    intro l
    induction l with
    | nil => intro b hb; exact hb
    | cons x l ih => intro b hb; exact ih _ (leastS_lt hb)
  exact H l b hb
/-- All states from k up are tried. -/
def leastA (S : Nat → Bool) (b : Nat) : Nat → Nat
  | 0 => b
  | d + 1 => leastS S (leastA S b d) (8 - d)
def leastT (S : Nat → Bool) (b k : Nat) : Nat := leastA S b (9 - k)
theorem leastT_step (S : Nat → Bool) (b : Nat) {k : Nat} (h : k < 9) : leastT S b k = leastS S (leastT S b (k + 1)) k := by
  unfold leastT
  rw [show 9 - k = (9 - (k + 1)) + 1 by omega, leastA, show 8 - (9 - (k + 1)) = k by omega]
theorem leastA_lt (S : Nat → Bool) {b : Nat} (hb : b < 512) : ∀ d, leastA S b d < 512
  | 0 => hb
  | d + 1 => leastS_lt (leastA_lt S hb d)
theorem leastA_sub (S : Nat → Bool) {b : Nat} (hb : b < 512) {i : Nat} (hi : i < 9) : ∀ d, d ≤ 9 → (leastA S b d).testBit i = true → b.testBit i = true
  | 0, _, h => h
  | d + 1, hd, h => by
    refine leastA_sub S hb hi d (by omega) ?_
    unfold leastA leastS at h
    split at h
    · exact drop_sub9 ⟨8 - d, by omega⟩ ⟨i, hi⟩ ⟨leastA S b d, leastA_lt S hb d⟩ h
    · exact h
/-- What is not there need not be tried. -/
theorem least_down (S : Nat → Bool) {b : Nat} (hb : b < 512) : ∀ d, d ≤ 9 → leastL S b (downTo (b : Int) d) = leastA S b d
  | 0, _ => rfl
  | d + 1, hd => by
    have ih := least_down S hb d (by omega)
    have e := hasB_bit hb (k := 8 - d) (by omega)
    unfold downTo leastA
    cases hh : b.testBit (8 - d) with
    | true => rw [dif_pos ⟨by omega, e.trans hh⟩, leastL_snoc, ih]
    | false =>
      rw [dif_neg (by rw [e, hh]; simp), ih]
      have hn : (leastA S b d).testBit (8 - d) = false := by
        cases h : (leastA S b d).testBit (8 - d) with
        | false => rfl
        | true => rw [leastA_sub S hb (by omega) d (by omega) h] at hh; cases hh
      have hd' : dropN (leastA S b d) (8 - d) = leastA S b d := by unfold dropN; rw [hn]; rfl
      unfold leastS
      rw [hd']
      split <;> rfl
theorem least_top (S : Nat → Bool) {b : Nat} (hb : b < 512) : leastL S b (topL (b : Int) 0) = leastT S b 0 := least_down S hb 9 (Nat.le_refl _)
end Go.Proofs.YtngcdgnijfiocaaGreatDoor

