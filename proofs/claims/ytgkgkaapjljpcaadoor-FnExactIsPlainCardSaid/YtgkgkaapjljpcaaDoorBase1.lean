/- Chapter 1, small functions: sets, states, their values, and the iterator over the states of a set. -/
import Derived.Test.YtgkgkaapjljpcaaDoorRows
import Derived.WalkKit
import Derived.ProofKit
import Derived.OpenShut
import Derived.IntWalk
import Derived.Deep.QuietTactic
import Derived.BigQuiet
import Derived.Lib.Hide
import Derived.WalkSmall
import Derived.Deep.RegionWith
import Derived.Deep.RegionHeld3
import Derived.LoopTactic
import Derived.ChangeKeysEq
import Derived.RangeFuncBox
import Derived.RangeFuncNested
import Derived.RangeFuncBound
import Derived.RangeFuncCalls
import Derived.RangeFuncLeaves
import Derived.Shelf.Abstract
import Derived.Shelf.RegionOpen
import Derived.OwnWalkIn
import Derived.TacticsInMore
import Derived.LoopNIn
import Derived.LoopIn
import Derived.Maps.AppendAt
namespace Go.Proofs.YtgkgkaapjljpcaaDoor
open Go.ChangeShapes Go.WideShapes Go.ChangeAt Go.RowKit Go.Shelf

set_option maxRecDepth 100000
theorem in40 (n lo hi : Int) (b : Bool) (h : b = decide (lo ≤ n ∧ n ≤ hi)) (w : World) :
    Calls Tryd.prog 121 #[.int .i64 n, .int .i64 lo, .int .i64 hi] w fun e w' => e = .returned (.bool b) ∧ w = w' := by
  by_cases h1 : lo ≤ n
  · by_cases h2 : n ≤ hi
    · obtain rfl : b = true := by rw [h]; exact decide_eq_true ⟨h1, h2⟩
      clear h
      go_enter Tryd.func121, Tryd.ntmps121
      go_wp2
      go_ret
      exact ⟨rfl, rfl⟩
    · obtain rfl : b = false := by rw [h]; exact decide_eq_false (fun h => h2 h.2)
      clear h
      go_enter Tryd.func121, Tryd.ntmps121
      go_wp2
      go_ret
      exact ⟨rfl, rfl⟩
  · obtain rfl : b = false := by rw [h]; exact decide_eq_false (fun h => h1 h.1)
    clear h
    go_enter Tryd.func121, Tryd.ntmps121
    go_wp2
    go_ret
    exact ⟨rfl, rfl⟩

/-- A number lies between two others. -/
def inB (n lo hi : Int) : Bool := decide (lo ≤ n ∧ n ≤ hi)
theorem inB_yes {n lo hi : Int} (h : lo ≤ n ∧ n ≤ hi) : inB n lo hi = true := decide_eq_true h
theorem inB_no {n lo hi : Int} (h : ¬ (lo ≤ n ∧ n ≤ hi)) : inB n lo hi = false := decide_eq_false h
theorem inB40 (n lo hi : Int) (w : World) :
    Calls Tryd.prog 121 #[.int .i64 n, .int .i64 lo, .int .i64 hi] w fun e w' => e = .returned (.bool (inB n lo hi)) ∧ w = w' := in40 n lo hi _ rfl w

def isSet (n : Int) : Bool := decide (0 ≤ n ∧ n ≤ 511)



/-- 'impl.valuesIn': the two values, in memory of its own. -/
theorem vi41 (n : Int) (w : World) (h0 : 0 ≤ n) (h8 : n ≤ 8) :
    Calls Tryd.prog 139 #[.int .i64 n] w fun e w' => e = .returned (.agg #[.int .i64 (n / 3), .int .i64 (n % 3)]) ∧ Below w.heap.size w w' := by
  go_enter Tryd.func139, Tryd.ntmps139
  go_wp2
  exact bodyPost_ret (v := .agg #[.int .i64 (n / 3), .int .i64 (n % 3)]) (by simp [results, Tryd.results139, go_sem]) rfl ⟨rfl, (Below.refl _ _).alloc (Nat.le_refl _) _⟩

/-! ### StateOf -/
def stateOf (x y : Int) : Int := if (0 ≤ x ∧ x ≤ 2) ∧ (0 ≤ y ∧ y ≤ 2) then 3 * x + y else 0
def stateOk (x y : Int) : Bool := decide ((0 ≤ x ∧ x ≤ 2) ∧ (0 ≤ y ∧ y ≤ 2))

theorem eqArr (a b c e : Int) (w : World) : (Op.equalIn 10000 182 (.agg #[.int .i64 a, .int .i64 b]) (.agg #[.int .i64 c, .int .i64 e])).run Tryd.prog w = .ok (a == c && b == e) w := by
  obtain ⟨i, hi⟩ : ∃ i, Tryd.prog.info? 3 = some i := by
    have h : (Tryd.prog.info? 3).isSome = true := by kernel_rfl
    exact Option.isSome_iff_exists.1 h
  rw [show (10000 : Nat) = 9999 + 1 from rfl, run_equalIn_array w 9999 (n := 2) (e := 3) _ _ (by kernel_rfl) hi]
  have u3 : ∀ (x y : Int) (w : World), (Op.equalIn 9999 3 (.int .i64 x) (.int .i64 y)).run Tryd.prog w = .ok (x == y) w := fun x y w => run_equalIn_int w 9998 3 .i64 .i64 x y Tryd.underlying3
  have p0 : ∀ (x y : Int) (w : World), (part 3 #[.int .i64 x, .int .i64 y] 0).run Tryd.prog w = .ok (.int .i64 x) w := fun x y w => by kernel_rfl
  have p1 : ∀ (x y : Int) (w : World), (part 3 #[.int .i64 x, .int .i64 y] 1).run Tryd.prog w = .ok (.int .i64 y) w := fun x y w => by kernel_rfl
  have hc : Tryd.prog.cellsOf 3 = 1 := by kernel_rfl
  rw [hc]
  simp only [Op.eqItems, List.range_succ, List.range_zero, List.nil_append, List.cons_append, Sem.run_bind, Nat.zero_mul, Nat.one_mul, p0, u3, Result.andThen_ok]
  cases h : (a == c) <;> cases h' : (b == e) <;> simp [p1, u3, h']

theorem eqNo (a b c e : Int) (h : ¬ (c = a ∧ e = b)) (w : World) : (Op.equalIn 10000 182 (.agg #[.int .i64 a, .int .i64 b]) (.agg #[.int .i64 c, .int .i64 e])).run Tryd.prog w = .ok false w := by
  rw [eqArr]
  have : (a == c && b == e) = false := by
    rw [Bool.eq_false_iff]; intro h'; simp at h'; exact h ⟨h'.1.symm, h'.2.symm⟩
  rw [this]
theorem eqYes (a b : Int) (w : World) : (Op.equalIn 10000 182 (.agg #[.int .i64 a, .int .i64 b]) (.agg #[.int .i64 a, .int .i64 b])).run Tryd.prog w = .ok true w := by
  rw [eqArr]; simp

theorem at_hit (k : Nat) (h : k < 9) : stateOf ((k : Int) / 3) ((k : Int) % 3) = k ∧ stateOk ((k : Int) / 3) ((k : Int) % 3) = true := by
  unfold stateOf stateOk
  have h1 : (0 ≤ (k : Int) / 3 ∧ (k : Int) / 3 ≤ 2) ∧ (0 ≤ (k : Int) % 3 ∧ (k : Int) % 3 ≤ 2) := by omega
  rw [if_pos h1]
  exact ⟨by omega, decide_eq_true h1⟩
theorem at_miss (x y : Int) (hno : ∀ j : Nat, j < 9 → ¬ (x = (j : Int) / 3 ∧ y = (j : Int) % 3)) : stateOf x y = 0 ∧ stateOk x y = false := by
  unfold stateOf stateOk
  have h1 : ¬ ((0 ≤ x ∧ x ≤ 2) ∧ (0 ≤ y ∧ y ≤ 2)) := by
    intro h
    exact hno (3 * x + y).toNat (by omega) (by omega)
  rw [if_neg h1]
  exact ⟨rfl, decide_eq_false h1⟩

theorem sw39 (x y : Int) (w : World) :
    Calls Tryd.prog 144 #[.agg #[.int .i64 x, .int .i64 y]] w fun e w' => e = .returned (.tuple #[.int .i64 (stateOf x y), .bool (stateOk x y)]) ∧ Below w.heap.size w w' := by
  go_enter Tryd.func144, Tryd.ntmps144
  go_wp2
  go_loopw [5] (fun i wr => ∃ k : Nat, k ≤ 9 ∧ i = .int .i64 k ∧ (∀ j : Nat, j < k → ¬ (x = (j : Int) / 3 ∧ y = (j : Int) % 3)) ∧
      wr.cell? ⟨w.heap.size, 0, none⟩ = some (.int .i64 x) ∧ wr.cell? ⟨w.heap.size, 1, none⟩ = some (.int .i64 y) ∧ w.heap.size < wr.heap.size ∧ Below w.heap.size w wr)
    (fun i _ => 9 - (intOf i).toNat)
  case atStart => exact ⟨0, by omega, rfl, fun j hj => by omega, by simp, by simp, by simp, (Below.refl _ _).alloc (Nat.le_refl _) _⟩
  case round =>
    obtain ⟨k, hk, rfl, hno, hx, hy, hsz, hB⟩ := hrel
    by_cases hlt : k < 9
    · have k0 : (0 : Int) ≤ (k : Int) := by omega
      have k8 : (k : Int) ≤ 8 := by omega
      by_cases hit : x = (k : Int) / 3 ∧ y = (k : Int) % 3
      · obtain ⟨rfl, rfl⟩ := hit
        have he := eqYes ((k : Int) / 3) ((k : Int) % 3)
        have hn := Lib.hid hno
        have hh := Lib.hid (at_hit k hlt)
        clear hno
        go_wp2_with fail
        go_region_with (first | (go_at_call 139; refine (vi41 _ _ k0 k8).mono ?_; rintro e w1 ⟨rfl, hb⟩; have hx1 := (hb.cell (p := ⟨w.heap.size, 0, none⟩) (by first | exact hsz | (simp; omega))).trans hx; have hy1 := (hb.cell (p := ⟨w.heap.size, 1, none⟩) (by first | exact hsz | (simp; omega))).trans hy))
        all_goals go_wp2
        all_goals
          go_ret2
          refine ⟨by rw [hh.out.1, hh.out.2]; rfl, ?_⟩
          exact hB.drew.trans ((hb.mono (Nat.le_of_lt hsz)))
      · have he := eqNo ((k : Int) / 3) ((k : Int) % 3) x y hit
        have hn := Lib.hid hno
        have hm := Lib.hid hit
        clear hno hit
        go_wp2_with fail
        go_region_with (first | (go_at_call 139; refine (vi41 _ _ k0 k8).mono ?_; rintro e w1 ⟨rfl, hb⟩; have hx1 := (hb.cell (p := ⟨w.heap.size, 0, none⟩) (by first | exact hsz | (simp; omega))).trans hx; have hy1 := (hb.cell (p := ⟨w.heap.size, 1, none⟩) (by first | exact hsz | (simp; omega))).trans hy))
        all_goals go_wp2
        all_goals
          go_roundw
          case rel =>
            exact ⟨k + 1, by omega, by go_num, fun j hj => by
              by_cases e : j = k
              · subst e; exact hm.out
              · exact hn.out j (by omega), by assumption, by assumption, Nat.lt_of_lt_of_le hsz hb.size, hB.drew.trans (hb.mono (Nat.le_of_lt hsz))⟩
          case measure => simp [intOf]; omega
    · obtain rfl : k = 9 := by omega
      have hm := Lib.hid (at_miss x y hno)
      clear hno
      go_wp2
      go_ret2
      exact ⟨by rw [hm.out.1, hm.out.2]; rfl, hB⟩
theorem grown_refl (W : World) (row : Option Nat) : W.grownBy W row := ⟨rfl, rfl, rfl, Nat.le_refl _, fun _ _ _ => rfl⟩
theorem grown_trans {A B C : World} {row : Option Nat} (h : A.grownBy B row) (k : B.grownBy C row) : A.grownBy C row :=
  ⟨k.os.trans h.os, k.tape.trans h.tape, k.output.trans h.output, Nat.le_trans h.size k.size, fun i hi hr => (k.block i (Nat.lt_of_lt_of_le hi h.size) hr).trans (h.block i hi hr)⟩



attribute [local go_sem] Oper.semAt_some

theorem cellNew (W : World) (v : Value) (t : TypeId) : (W.alloc (.cells #[v] t)).cell? ⟨W.heap.size, 0, none⟩ = some v ∧ (W.alloc (.cells #[v] t)).frozen? ⟨W.heap.size, 0, none⟩ = false := ⟨(Boxed.new W t v).cell, (Boxed.new W t v).frozen⟩
theorem cellAlloc {W : World} {a : Addr} {v : Value} (o : Obj) (h : W.cell? a = some v) : (W.alloc o).cell? a = some v := cell_kept h (World.grownBy_alloc W o none) (fun r e => by cases e)
theorem frozenAlloc {W : World} {a : Addr} {v : Value} (o : Obj) (h : W.cell? a = some v) (hf : W.frozen? a = false) : (W.alloc o).frozen? a = false := (frozen_kept h (World.grownBy_alloc W o none) (fun r e => by cases e)).trans hf

/-- Has the set s the state i. -/
def hasB (s : Int) (i : Nat) : Bool := bits .and .i64 (s / 2 ^ i) 1 == 1

theorem has46 (s : Int) (i : Nat) (w : World) (i8 : i ≤ 8) :
    Calls Tryd.prog 142 #[.int .i64 s, .int .i64 (i : Int)] w fun e w' => e = .returned (.bool (hasB s i)) ∧ w = w' := by
  have i0 : (0 : Int) ≤ (i : Int) := by omega
  have i9 : (i : Int) ≤ 8 := by omega
  go_enter Tryd.func142, Tryd.ntmps142
  go_wp2
  go_ret
  exact ⟨by simp [hasB], rfl⟩
theorem has42 (s : Int) (i : Nat) (w : World) (i8 : i ≤ 8) :
    Calls Tryd.prog 119 #[.int .i64 s, .int .i64 (i : Int)] w fun e w' => e = .returned (.bool (hasB s i)) ∧ w = w' := by
  have i0 : (0 : Int) ≤ (i : Int) := by omega
  have i9 : (i : Int) ≤ 8 := by omega
  go_enter Tryd.func119, Tryd.ntmps119
  go_wp2
  go_ret
  exact ⟨by simp [hasB], rfl⟩

/-- The states of s below k, in ascending order. -/
def upTo (s : Int) : Nat → List (Fin 9)
  | 0 => []
  | k + 1 => if h : k < 9 ∧ hasB s k = true then upTo s k ++ [⟨k, h.1⟩] else upTo s k
theorem upTo_hit (s : Int) {k : Nat} (h : k < 9) (hb : hasB s k = true) : upTo s (k + 1) = upTo s k ++ [⟨k, h⟩] := by
  rw [upTo, dif_pos ⟨h, hb⟩]
theorem upTo_miss (s : Int) {k : Nat} (hb : hasB s k = false) : upTo s (k + 1) = upTo s k := by
  rw [upTo, dif_neg (by simp [hb])]
theorem upTo_len (s : Int) : ∀ k, (upTo s k).length ≤ k
  | 0 => Nat.le_refl _
  | k + 1 => by
    have := upTo_len s k
    unfold upTo
    split <;> simp <;> omega
theorem upTo_prefix (s : Int) (k : Nat) : ∀ d, upTo s k <+: upTo s (k + d)
  | 0 => List.prefix_refl _
  | d + 1 => by
    refine (upTo_prefix s k d).trans ?_
    show upTo s (k + d) <+: upTo s (k + d + 1)
    rw [upTo]
    split
    · exact List.prefix_append _ _
    · exact List.prefix_refl _

/-- WHAT A ROUND OF THE LOOP KEEPS FOR THE ITERATOR: the block of the captured set. -/
def KpB (b : Nat) (W W' : World) : Prop := W'.heap[b]? = W.heap[b]?
theorem kpB_t {b : Nat} {A B C : World} (h : KpB b A B) (k : KpB b B C) : KpB b A C := k.trans h
theorem kpB_b {b : Nat} {w : World} (hb : b < w.heap.size) (W : World) (l : Nat) (o o' : Obj) (hl : w.heap.size ≤ l) (_ : W.heap[l]? = some o) (_ : o.isCells = false) (_ : o.isWalk = false) : KpB b W (W.putObj l o') :=
  World.putObj_heap_other (by omega)

def encs (x : Fin 9) : Array Value := #[.int .i64 (x.val : Int)]

set_option maxHeartbeats 1000000 in
/-- **(stateSet).states: FOR EVERY LOOP BODY THAT KEEPS THE CAPTURED SET.** -/
theorem states_in (n : Nat) (hn : 1 ≤ n) (l Bn : Nat) (s : Int) (J Jx : List (Fin 9) → World → Prop)
    (hY : ∀ pre x W, J pre W → pre.length < 9 → YieldAt Fence.wide (n - 1) Tryd.prog l (encs x) W fun e W' =>
      (e = .returned (.bool true) ∧ J (pre ++ [x]) W' ∧ KpB Bn W W') ∨ (e = .returned (.bool false) ∧ Jx (pre ++ [x]) W'))
    (W : World) (hB : W.cell? ⟨Bn, 0, none⟩ = some (.int .i64 s)) (hJ0 : J [] W) :
    CallsIn Fence.wide n Tryd.prog 141 #[.func (.yield l) #[] #[], .pointer (some ⟨Bn, 0, none⟩)] W fun e W' => (∃ v, e = .returned v) ∧
      ((∃ ys, ys = upTo s 9 ∧ J ys W') ∨ (∃ pre, pre <+: upTo s 9 ∧ Jx pre W')) := by
  refine callsIn_of_wp Tryd.func141 rfl trivial ?_ rfl
  simp only [Tryd.ntmps141, List.size_toArray, List.length_cons, List.length_nil, Nat.reduceAdd, Nat.reduceSub, Array.replicate_succ, Array.replicate_zero, List.push_toArray, List.append_toArray, List.nil_append, List.cons_append]
  gi_wp2
  gi_loopw [4] (fun i wr => ∃ k : Nat, k ≤ 9 ∧ i = .int .i64 k ∧ wr.cell? ⟨Bn, 0, none⟩ = some (.int .i64 s) ∧ J (upTo s k) wr) (fun i _ => 9 - (intOf i).toNat)
  case atStart =>
    exact ⟨0, by omega, rfl, hB, hJ0⟩
  case round =>
    obtain ⟨k, hk, rfl, hc, hJ⟩ := hrel
    by_cases hlt : k < 9
    · have k8 : k ≤ 8 := by omega
      cases hh : hasB s k with
      | false =>
        have hu := Lib.hid (upTo_miss s hh)
        gi_wp2_with (refine ⟨trivial, ?_⟩; gi_at_call 142; refine (callsIn_wide.2 (has46 s k _ k8)).mono ?_; rintro e w' ⟨rfl, rfl⟩)
        refine ⟨fun _ h => (by cases h), ?_⟩
        gi_wp2
        go_roundw
        case rel => exact ⟨k + 1, by omega, by go_num, hc, by rw [hu.out]; exact hJ⟩
        case measure => simp [intOf]; omega
      | true =>
        have hu := Lib.hid (upTo_hit s hlt hh)
        obtain ⟨fn, tmps, assign, body, hy, hR⟩ := hY (upTo s k) ⟨k, hlt⟩ wr hJ (by have := upTo_len s k; omega)
        dsimp only [encs] at hy
        gi_wp2_with (refine ⟨trivial, ?_⟩; gi_at_call 142; refine (callsIn_wide.2 (has46 s k _ k8)).mono ?_; rintro e w' ⟨rfl, rfl⟩)
        refine hR.mono ?_
        rintro e W3 (⟨rfl, hJ3, hk3⟩ | ⟨rfl, hJx3⟩)
        · have hc3 : W3.cell? ⟨Bn, 0, none⟩ = some (.int .i64 s) := (World.cell?_of_block (w := wr) (w' := W3) (a := ⟨Bn, 0, none⟩) hk3).trans hc
          gi_wp2
          go_roundw
          case rel => exact ⟨k + 1, by omega, by go_num, hc3, by rw [hu.out]; exact hJ3⟩
          case measure => simp [intOf]; omega
        · gi_wp2
          refine bodyPost_ret (results_none rfl _ _ _) rfl ?_
          refine ⟨⟨_, rfl⟩, .inr ⟨upTo s k ++ [⟨k, hlt⟩], ?_, hJx3⟩⟩
          have hp := upTo_prefix s (k + 1) (9 - (k + 1))
          rw [hu.out, show k + 1 + (9 - (k + 1)) = 9 by omega] at hp
          exact hp
    · obtain rfl : k = 9 := by omega
      gi_wp2
      go_end0
      exact ⟨⟨_, rfl⟩, .inl ⟨_, rfl, hJ⟩⟩

/-- The maker: the set is boxed; the function value captures the box. -/
theorem maker_in (n : Nat) (s : Int) (w : World) :
    CallsIn Fence.wide n Tryd.prog 134 #[.int .i64 s] w fun e w' => e = .returned (.func (.func 141) #[] #[.pointer (some ⟨w.heap.size, 0, none⟩)]) ∧ w' = w.alloc (.cells #[.int .i64 s] 59) := by
  refine callsIn_of_wp Tryd.func134 rfl trivial ?_ rfl
  simp only [Tryd.ntmps134, List.size_toArray, List.length_cons, List.length_nil, Nat.reduceAdd, Nat.reduceSub, Array.replicate_succ, Array.replicate_zero, List.push_toArray, List.append_toArray, List.nil_append, List.cons_append]
  gi_wp2
  go_ret
  exact ⟨rfl, rfl⟩

theorem states_stops (n : Nat) (hn : 1 ≤ n) (Bn : Nat) (s : Int) (w : World) (hBn : Bn < w.heap.size) (hc : w.cell? ⟨Bn, 0, none⟩ = some (.int .i64 s)) :
    SeqStopsK Fence.wide n Tryd.prog 141 #[.pointer (some ⟨Bn, 0, none⟩)] encs (KpB Bn) (fun ys => ys = upTo s 9) (fun pre => pre <+: upTo s 9) 9 w := fun l J Jx W hW _ _ hY h0 =>
  states_in n hn l Bn s J Jx hY W ((hW.cell (p := ⟨Bn, 0, none⟩) hBn).trans hc) h0


end Go.Proofs.YtgkgkaapjljpcaaDoor

