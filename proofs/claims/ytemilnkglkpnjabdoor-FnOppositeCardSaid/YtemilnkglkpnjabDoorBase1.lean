/- Chapter 1, small functions: sets, states, their values, and the iterator over the states of a set. -/
import Derived.Test.YtemilnkglkpnjabDoorRows
import Derived.WalkKit
import Derived.ProofKit
import Derived.OpenShut
import Derived.IntWalk
import Derived.Deep.QuietTactic
import Derived.BigQuiet
import Derived.Lib.Hide
import Derived.WalkSmall
import Derived.Deep.RegionWith
import Derived.Deep.RegionHeld3
import Derived.LoopTactic
import Derived.ChangeKeysEq
import Derived.RangeFuncBox
import Derived.RangeFuncNested
import Derived.RangeFuncBound
import Derived.RangeFuncCalls
import Derived.RangeFuncLeaves
import Derived.Shelf.Abstract
import Derived.Shelf.RegionOpen
import Derived.OwnWalkIn
import Derived.TacticsInMore
import Derived.LoopNIn
import Derived.LoopIn
import Derived.Maps.AppendAt
namespace Go.Proofs.YtemilnkglkpnjabDoor
open Go.ChangeShapes Go.WideShapes Go.ChangeAt Go.RowKit Go.Shelf

set_option maxRecDepth 100000
theorem in40 (n lo hi : Int) (b : Bool) (h : b = decide (lo ≤ n ∧ n ≤ hi)) (w : World) :
    Calls Tryd.prog 42 #[.int .i64 n, .int .i64 lo, .int .i64 hi] w fun e w' => e = .returned (.bool b) ∧ w = w' := by
  by_cases h1 : lo ≤ n
  · by_cases h2 : n ≤ hi
    · obtain rfl : b = true := by rw [h]; exact decide_eq_true ⟨h1, h2⟩
      clear h
      go_enter Tryd.func42, Tryd.ntmps42
      go_wp2
      go_ret
      exact ⟨rfl, rfl⟩
    · obtain rfl : b = false := by rw [h]; exact decide_eq_false (fun h => h2 h.2)
      clear h
      go_enter Tryd.func42, Tryd.ntmps42
      go_wp2
      go_ret
      exact ⟨rfl, rfl⟩
  · obtain rfl : b = false := by rw [h]; exact decide_eq_false (fun h => h1 h.1)
    clear h
    go_enter Tryd.func42, Tryd.ntmps42
    go_wp2
    go_ret
    exact ⟨rfl, rfl⟩

/-- A number lies between two others. -/
def inB (n lo hi : Int) : Bool := decide (lo ≤ n ∧ n ≤ hi)
theorem inB_yes {n lo hi : Int} (h : lo ≤ n ∧ n ≤ hi) : inB n lo hi = true := decide_eq_true h
theorem inB_no {n lo hi : Int} (h : ¬ (lo ≤ n ∧ n ≤ hi)) : inB n lo hi = false := decide_eq_false h
theorem inB40 (n lo hi : Int) (w : World) :
    Calls Tryd.prog 42 #[.int .i64 n, .int .i64 lo, .int .i64 hi] w fun e w' => e = .returned (.bool (inB n lo hi)) ∧ w = w' := in40 n lo hi _ rfl w

def isSet (n : Int) : Bool := decide (0 ≤ n ∧ n ≤ 511)


theorem sv24 (n : Int) (w : World) :
    Calls Tryd.prog 44 #[.int .i64 n] w fun e w' => e = .returned (.bool (isSet n)) ∧ w = w' := by
  by_cases h1 : 0 ≤ n
  · by_cases h2 : n < 512
    · have h : isSet n = true := decide_eq_true ⟨h1, by omega⟩
      rw [h]
      clear h
      go_enter Tryd.func44, Tryd.ntmps44
      go_wp2
      go_ret
      exact ⟨rfl, rfl⟩
    · have h : isSet n = false := decide_eq_false (fun h => h2 (by omega))
      rw [h]
      clear h
      go_enter Tryd.func44, Tryd.ntmps44
      go_wp2
      go_ret
      exact ⟨rfl, rfl⟩
  · have h : isSet n = false := decide_eq_false (fun h => h1 h.1)
    rw [h]
    clear h
    go_enter Tryd.func44, Tryd.ntmps44
    go_wp2
    go_ret
    exact ⟨rfl, rfl⟩

/-- 'impl.valuesIn': the two values, in memory of its own. -/
theorem vi41 (n : Int) (w : World) (h0 : 0 ≤ n) (h8 : n ≤ 8) :
    Calls Tryd.prog 53 #[.int .i64 n] w fun e w' => e = .returned (.agg #[.int .i64 (n / 3), .int .i64 (n % 3)]) ∧ Below w.heap.size w w' := by
  go_enter Tryd.func53, Tryd.ntmps53
  go_wp2
  exact bodyPost_ret (v := .agg #[.int .i64 (n / 3), .int .i64 (n % 3)]) (by simp [results, Tryd.results53, go_sem]) rfl ⟨rfl, (Below.refl _ _).alloc (Nat.le_refl _) _⟩

/-! ### StateOf -/
def stateOf (x y : Int) : Int := if (0 ≤ x ∧ x ≤ 2) ∧ (0 ≤ y ∧ y ≤ 2) then 3 * x + y else 0
def stateOk (x y : Int) : Bool := decide ((0 ≤ x ∧ x ≤ 2) ∧ (0 ≤ y ∧ y ≤ 2))

theorem eqArr (a b c e : Int) (w : World) : (Op.equalIn 10000 69 (.agg #[.int .i64 a, .int .i64 b]) (.agg #[.int .i64 c, .int .i64 e])).run Tryd.prog w = .ok (a == c && b == e) w := by
  obtain ⟨i, hi⟩ : ∃ i, Tryd.prog.info? 3 = some i := by
    have h : (Tryd.prog.info? 3).isSome = true := by kernel_rfl
    exact Option.isSome_iff_exists.1 h
  rw [show (10000 : Nat) = 9999 + 1 from rfl, run_equalIn_array w 9999 (n := 2) (e := 3) _ _ (by kernel_rfl) hi]
  have u3 : ∀ (x y : Int) (w : World), (Op.equalIn 9999 3 (.int .i64 x) (.int .i64 y)).run Tryd.prog w = .ok (x == y) w := fun x y w => run_equalIn_int w 9998 3 .i64 .i64 x y Tryd.underlying3
  have p0 : ∀ (x y : Int) (w : World), (part 3 #[.int .i64 x, .int .i64 y] 0).run Tryd.prog w = .ok (.int .i64 x) w := fun x y w => by kernel_rfl
  have p1 : ∀ (x y : Int) (w : World), (part 3 #[.int .i64 x, .int .i64 y] 1).run Tryd.prog w = .ok (.int .i64 y) w := fun x y w => by kernel_rfl
  have hc : Tryd.prog.cellsOf 3 = 1 := by kernel_rfl
  rw [hc]
  simp only [Op.eqItems, List.range_succ, List.range_zero, List.nil_append, List.cons_append, Sem.run_bind, Nat.zero_mul, Nat.one_mul, p0, u3, Result.andThen_ok]
  cases h : (a == c) <;> cases h' : (b == e) <;> simp [p1, u3, h']

theorem eqNo (a b c e : Int) (h : ¬ (c = a ∧ e = b)) (w : World) : (Op.equalIn 10000 69 (.agg #[.int .i64 a, .int .i64 b]) (.agg #[.int .i64 c, .int .i64 e])).run Tryd.prog w = .ok false w := by
  rw [eqArr]
  have : (a == c && b == e) = false := by
    rw [Bool.eq_false_iff]; intro h'; simp at h'; exact h ⟨h'.1.symm, h'.2.symm⟩
  rw [this]
theorem eqYes (a b : Int) (w : World) : (Op.equalIn 10000 69 (.agg #[.int .i64 a, .int .i64 b]) (.agg #[.int .i64 a, .int .i64 b])).run Tryd.prog w = .ok true w := by
  rw [eqArr]; simp

theorem at_hit (k : Nat) (h : k < 9) : stateOf ((k : Int) / 3) ((k : Int) % 3) = k ∧ stateOk ((k : Int) / 3) ((k : Int) % 3) = true := by
  unfold stateOf stateOk
  have h1 : (0 ≤ (k : Int) / 3 ∧ (k : Int) / 3 ≤ 2) ∧ (0 ≤ (k : Int) % 3 ∧ (k : Int) % 3 ≤ 2) := by omega
  rw [if_pos h1]
  exact ⟨by omega, decide_eq_true h1⟩
theorem at_miss (x y : Int) (hno : ∀ j : Nat, j < 9 → ¬ (x = (j : Int) / 3 ∧ y = (j : Int) % 3)) : stateOf x y = 0 ∧ stateOk x y = false := by
  unfold stateOf stateOk
  have h1 : ¬ ((0 ≤ x ∧ x ≤ 2) ∧ (0 ≤ y ∧ y ≤ 2)) := by
    intro h
    exact hno (3 * x + y).toNat (by omega) (by omega)
  rw [if_neg h1]
  exact ⟨rfl, decide_eq_false h1⟩

theorem grown_refl (W : World) (row : Option Nat) : W.grownBy W row := ⟨rfl, rfl, rfl, Nat.le_refl _, fun _ _ _ => rfl⟩
theorem grown_trans {A B C : World} {row : Option Nat} (h : A.grownBy B row) (k : B.grownBy C row) : A.grownBy C row :=
  ⟨k.os.trans h.os, k.tape.trans h.tape, k.output.trans h.output, Nat.le_trans h.size k.size, fun i hi hr => (k.block i (Nat.lt_of_lt_of_le hi h.size) hr).trans (h.block i hi hr)⟩



attribute [local go_sem] Oper.semAt_some

theorem cellNew (W : World) (v : Value) (t : TypeId) : (W.alloc (.cells #[v] t)).cell? ⟨W.heap.size, 0, none⟩ = some v ∧ (W.alloc (.cells #[v] t)).frozen? ⟨W.heap.size, 0, none⟩ = false := ⟨(Boxed.new W t v).cell, (Boxed.new W t v).frozen⟩
theorem cellAlloc {W : World} {a : Addr} {v : Value} (o : Obj) (h : W.cell? a = some v) : (W.alloc o).cell? a = some v := cell_kept h (World.grownBy_alloc W o none) (fun r e => by cases e)
theorem frozenAlloc {W : World} {a : Addr} {v : Value} (o : Obj) (h : W.cell? a = some v) (hf : W.frozen? a = false) : (W.alloc o).frozen? a = false := (frozen_kept h (World.grownBy_alloc W o none) (fun r e => by cases e)).trans hf

/-- Has the set s the state i. -/
def hasB (s : Int) (i : Nat) : Bool := bits .and .i64 (s / 2 ^ i) 1 == 1

theorem has46 (s : Int) (i : Nat) (w : World) (i8 : i ≤ 8) :
    Calls Tryd.prog 41 #[.int .i64 s, .int .i64 (i : Int)] w fun e w' => e = .returned (.bool (hasB s i)) ∧ w = w' := by
  have i0 : (0 : Int) ≤ (i : Int) := by omega
  have i9 : (i : Int) ≤ 8 := by omega
  go_enter Tryd.func41, Tryd.ntmps41
  go_wp2
  go_ret
  exact ⟨by simp [hasB], rfl⟩

/-- The states of s below k, in ascending order. -/
def upTo (s : Int) : Nat → List (Fin 9)
  | 0 => []
  | k + 1 => if h : k < 9 ∧ hasB s k = true then upTo s k ++ [⟨k, h.1⟩] else upTo s k
theorem upTo_hit (s : Int) {k : Nat} (h : k < 9) (hb : hasB s k = true) : upTo s (k + 1) = upTo s k ++ [⟨k, h⟩] := by
  rw [upTo, dif_pos ⟨h, hb⟩]
theorem upTo_miss (s : Int) {k : Nat} (hb : hasB s k = false) : upTo s (k + 1) = upTo s k := by
  rw [upTo, dif_neg (by simp [hb])]
theorem upTo_len (s : Int) : ∀ k, (upTo s k).length ≤ k
  | 0 => Nat.le_refl _
  | k + 1 => by
    have := upTo_len s k
    unfold upTo
    split <;> simp <;> omega
theorem upTo_prefix (s : Int) (k : Nat) : ∀ d, upTo s k <+: upTo s (k + d)
  | 0 => List.prefix_refl _
  | d + 1 => by
    refine (upTo_prefix s k d).trans ?_
    show upTo s (k + d) <+: upTo s (k + d + 1)
    rw [upTo]
    split
    · exact List.prefix_append _ _
    · exact List.prefix_refl _

/-- WHAT A ROUND OF THE LOOP KEEPS FOR THE ITERATOR: the block of the captured set. -/
def KpB (b : Nat) (W W' : World) : Prop := W'.heap[b]? = W.heap[b]?
theorem kpB_t {b : Nat} {A B C : World} (h : KpB b A B) (k : KpB b B C) : KpB b A C := k.trans h
theorem kpB_b {b : Nat} {w : World} (hb : b < w.heap.size) (W : World) (l : Nat) (o o' : Obj) (hl : w.heap.size ≤ l) (_ : W.heap[l]? = some o) (_ : o.isCells = false) (_ : o.isWalk = false) : KpB b W (W.putObj l o') :=
  World.putObj_heap_other (by omega)

def encs (x : Fin 9) : Array Value := #[.int .i64 (x.val : Int)]





end Go.Proofs.YtemilnkglkpnjabDoor

