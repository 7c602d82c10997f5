/- What programs reach, state by state: sets as lists of states; no program of Go in it. -/
import Derived.Test.YtgkgkaapjljpcaaDoorRun
namespace Go.Proofs.YtgkgkaapjljpcaaDoor
open Go.ChangeShapes Go.WideShapes Go.ChangeAt Go.RowKit Go.Shelf
set_option maxRecDepth 100000

/-- An outcome as a value. -/
def outV (x : Nat × Nat) : Value := .agg #[.int .i64 (x.1 : Int), .int .i64 (x.2 : Int)]

theorem hasB_bit9 : ∀ k : Fin 9, ∀ m : Fin 512, hasB (m.val : Int) k.val = m.val.testBit k.val := by decide +kernel
theorem hasB_bit {m k : Nat} (hm : m < 512) (hk : k < 9) : hasB (m : Int) k = m.testBit k := hasB_bit9 ⟨k, hk⟩ ⟨m, hm⟩

/-- All that the states of a list reach. -/
def overL (f : Nat → Nat) (l : List (Fin 9)) : Nat := l.foldl (fun a x => a ||| f x.val) 0
theorem overL_nil (f : Nat → Nat) : overL f [] = 0 := rfl
theorem overL_snoc (f : Nat → Nat) (l : List (Fin 9)) (x : Fin 9) : overL f (l ++ [x]) = overL f l ||| f x.val := by simp [overL, List.foldl_append]
theorem overL_lt {f : Nat → Nat} (hf : ∀ s, s < 9 → f s < 512) : ∀ l : List (Fin 9), overL f l < 512 := by
  have h : ∀ (l : List (Fin 9)) (a : Nat), a < 512 → l.foldl (fun a x => a ||| f x.val) a < 512 := by
    intro l
    induction l with
    | nil => intro a ha; exact ha
    | cons x l ih => intro a ha; exact ih _ (or_lt ha (hf x.val x.isLt))
  exact fun l => h l 0 (by decide)
theorem over_upTo (f : Nat → Nat) {m : Nat} (hm : m < 512) : ∀ k, k ≤ 9 → over f m k = overL f (upTo (m : Int) k)
  | 0, _ => rfl
  | k + 1, h => by
    unfold over
    have e := hasB_bit hm (k := k) (by omega)
    cases hb : m.testBit k with
    | true =>
      rw [upTo_hit _ (by omega) (e.trans hb), overL_snoc, over_upTo f hm k (by omega)]; rfl
    | false =>
      rw [upTo_miss _ (e.trans hb), over_upTo f hm k (by omega)]; rfl

/-- A set is what its states are together. -/
theorem set_states9 : ∀ m : Fin 512, overL (fun s => 2 ^ s) (upTo (m.val : Int) 9) = m.val := by decide +kernel
theorem set_states {m : Nat} (hm : m < 512) : overL (fun s => 2 ^ s) (upTo (m : Int) 9) = m := set_states9 ⟨m, hm⟩

/-! ### From no state nothing is reached -/
theorem atom_zero (l : List UInt8) : atomR l 0 = (0, 0) := by
  unfold atomR
  split
  · rfl
  · rfl
  · rw [over_zero]
  · rw [Nat.zero_and]
  · rfl
theorem step_zero {r : Nat → Nat × Nat} (hr : r 0 = (0, 0)) : stepL r (0, 0) = (0, 0) := by unfold stepL; rw [hr]; rfl
theorem run_zero : ∀ nd : Node, runR nd 0 = (0, 0)
  | .atom l => by unfold runR; exact atom_zero l
  | .loop p => by unfold runR; exact iter_fix (step_zero (run_zero p)) 18
  | .pair k p q => by
    unfold runR
    split
    · rw [run_zero p]; dsimp only; rw [run_zero q]; rfl
    · rw [run_zero p, run_zero q]; rfl

/-- A set reaches what its states reach, list by list. -/
theorem run_list (nd : Node) : ∀ l : List (Fin 9), runR nd (overL (fun s => 2 ^ s) l) = (overL (fun s => (runR nd (2 ^ s)).1) l, overL (fun s => (runR nd (2 ^ s)).2) l) := by
  have h : ∀ (l : List (Fin 9)) (a : Nat) (x y : Nat), runR nd a = (x, y) → runR nd (l.foldl (fun a s => a ||| 2 ^ s.val) a) = (l.foldl (fun a s => a ||| (runR nd (2 ^ s.val)).1) x, l.foldl (fun a s => a ||| (runR nd (2 ^ s.val)).2) y) := by
    intro l
    induction l with
    | nil => intro a x y h; exact h
    | cons s l ih =>
      intro a x y h
      refine ih _ _ _ ?_
      rw [run_or, h]; rfl
  exact fun l => h l 0 0 0 (run_zero nd)
theorem run_states (nd : Node) {m : Nat} (hm : m < 512) : runR nd m = (overL (fun s => (runR nd (2 ^ s)).1) (upTo (m : Int) 9), overL (fun s => (runR nd (2 ^ s)).2) (upTo (m : Int) 9)) := by
  have h := run_list nd (upTo (m : Int) 9)
  rwa [set_states hm] at h

/-! ### From all states -/
theorem overL_pos {f : Nat → Nat} : ∀ l : List (Fin 9), overL f l ≠ 0 ↔ ∃ x ∈ l, f x.val ≠ 0 := by
  have h : ∀ (l : List (Fin 9)) (a : Nat), l.foldl (fun a x => a ||| f x.val) a ≠ 0 ↔ a ≠ 0 ∨ ∃ x ∈ l, f x.val ≠ 0 := by
    intro l
    induction l with
    | nil => intro a; simp
    | cons x l ih =>
      intro a
      rw [List.foldl_cons, ih]
      have e : a ||| f x.val ≠ 0 ↔ a ≠ 0 ∨ f x.val ≠ 0 := by
        rw [Ne, Nat.or_eq_zero_iff]; omega
      rw [e]
      simp only [List.mem_cons]
      constructor
      · rintro ((h | h) | ⟨y, hy, h⟩)
        · exact .inl h
        · exact .inr ⟨x, .inl rfl, h⟩
        · exact .inr ⟨y, .inr hy, h⟩
      · rintro (h | ⟨y, rfl | hy, h⟩)
        · exact .inl (.inl h)
        · exact .inl (.inr h)
        · exact .inr ⟨y, hy, h⟩
  intro l
  rw [overL, h l 0]
  simp
theorem all_states : upTo 511 9 = [0, 1, 2, 3, 4, 5, 6, 7, 8] := by decide +kernel
theorem mem_all (x : Fin 9) : x ∈ upTo 511 9 := by rw [all_states]; revert x; decide
/-- Does a program fail from some state. -/
def failsP (nd : Node) : Bool := (List.range 9).any fun s => (runR nd (2 ^ s)).2 != 0
theorem fails_all (nd : Node) : failsP nd = ((runR nd 511).2 != 0) := by
  have h := run_states nd (m := 511) (by decide)
  have e : (runR nd 511).2 = overL (fun s => (runR nd (2 ^ s)).2) (upTo 511 9) := congrArg Prod.snd h
  rw [e, Bool.eq_iff_iff]
  unfold failsP
  rw [List.any_eq_true, bne_iff_ne, overL_pos]
  constructor
  · rintro ⟨s, hs, h⟩
    exact ⟨⟨s, List.mem_range.1 hs⟩, mem_all _, by simpa using h⟩
  · rintro ⟨x, _, h⟩
    exact ⟨x.val, List.mem_range.2 x.isLt, by simpa using h⟩
/-- Has it no result from some state; has it at most one from each. -/
def sticksP (nd : Node) : Bool := (List.range 9).any fun s => runR nd (2 ^ s) == (0, 0)
def manyS (x : Nat × Nat) : Bool := decide (1 < (upTo (x.1 : Int) 9).length + (upTo (x.2 : Int) 9).length)
def singleP (nd : Node) : Bool := !((List.range 9).any fun s => manyS (runR nd (2 ^ s)))

theorem or_nat (a b : Nat) (ha : a < 4611686018427387904) (hb : b < 4611686018427387904) : bits .or .i64 (a : Int) (b : Int) = ((a ||| b : Nat) : Int) := by
  have hx : a ||| b < 2 ^ 62 := Nat.or_lt_two_pow (by omega) (by omega)
  have h1 : (BitVec.ofInt 64 (a : Int)).toNat = a := by
    rw [BitVec.ofInt_natCast, BitVec.toNat_ofNat]; exact Nat.mod_eq_of_lt (by omega)
  have h2 : (BitVec.ofInt 64 (b : Int)).toNat = b := by
    rw [BitVec.ofInt_natCast, BitVec.toNat_ofNat]; exact Nat.mod_eq_of_lt (by omega)
  show IntKind.i64.wrap ((BitVec.ofInt 64 (a : Int) ||| BitVec.ofInt 64 (b : Int)).toNat : Int) = _
  rw [BitVec.toNat_or, h1, h2]
  exact IntWalk.i64_in _ (by omega)
theorem and_nat (a b : Nat) (ha : a < 4611686018427387904) (hb : b < 4611686018427387904) : bits .and .i64 (a : Int) (b : Int) = ((a &&& b : Nat) : Int) := by
  have hx : a &&& b < 2 ^ 62 := Nat.and_lt_two_pow _ (by omega)
  have h1 : (BitVec.ofInt 64 (a : Int)).toNat = a := by
    rw [BitVec.ofInt_natCast, BitVec.toNat_ofNat]; exact Nat.mod_eq_of_lt (by omega)
  have h2 : (BitVec.ofInt 64 (b : Int)).toNat = b := by
    rw [BitVec.ofInt_natCast, BitVec.toNat_ofNat]; exact Nat.mod_eq_of_lt (by omega)
  show IntKind.i64.wrap ((BitVec.ofInt 64 (a : Int) &&& BitVec.ofInt 64 (b : Int)).toNat : Int) = _
  rw [BitVec.toNat_and, h1, h2]
  exact IntWalk.i64_in _ (by omega)
theorem pow_lt (n : Nat) (hn : n ≤ 8) : 2 ^ n < 512 := by
  rcases (by omega : n = 0 ∨ n = 1 ∨ n = 2 ∨ n = 3 ∨ n = 4 ∨ n = 5 ∨ n = 6 ∨ n = 7 ∨ n = 8) with rfl | rfl | rfl | rfl | rfl | rfl | rfl | rfl | rfl <;> decide

/-- What an outcome's block holds. -/
def readOut (W : World) (b : Nat) : Nat × Nat :=
  (match W.cell? ⟨b, 0, none⟩ with | some (.int _ z) => z.toNat | _ => 0, match W.cell? ⟨b, 1, none⟩ with | some (.int _ z) => z.toNat | _ => 0)

theorem pow9 {s : Nat} (hs : s < 9) : 2 ^ s < 512 := by
  have : (2 : Nat) ^ s ≤ 2 ^ 8 := Nat.pow_le_pow_right (by omega) (by omega)
  omega
end Go.Proofs.YtgkgkaapjljpcaaDoor

