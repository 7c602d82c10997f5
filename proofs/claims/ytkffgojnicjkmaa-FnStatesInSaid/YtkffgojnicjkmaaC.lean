/- The sets of states: the bits of a number below 512, the states in their order, and the iterator over them, for whatever loop body. -/
import Derived.RangeFuncBox
import Derived.RangeFuncNested
import Derived.RangeFuncBound
import Derived.RangeFuncCalls
import Derived.RangeFuncLeaves
import Derived.Shelf.Abstract
import Derived.Shelf.RegionOpen
import Derived.WalkKit
import Derived.OwnWalkIn
import Derived.TacticsInMore
import Derived.LoopNIn
import Derived.LoopIn
import Derived.Maps.AppendAt
import Derived.Test.YtkffgojnicjkmaaB
namespace Go.Proofs.Ytkffgojnicjkmaa
open Go.ChangeShapes Go.WideShapes Go.ChangeAt Go.RowKit Go.Shelf

attribute [local go_sem] Oper.semAt_some

theorem cellNew (W : World) (v : Value) (t : TypeId) : (W.alloc (.cells #[v] t)).cell? ⟨W.heap.size, 0, none⟩ = some v ∧ (W.alloc (.cells #[v] t)).frozen? ⟨W.heap.size, 0, none⟩ = false := ⟨(Boxed.new W t v).cell, (Boxed.new W t v).frozen⟩
theorem cellAlloc {W : World} {a : Addr} {v : Value} (o : Obj) (h : W.cell? a = some v) : (W.alloc o).cell? a = some v := cell_kept h (World.grownBy_alloc W o none) (fun r e => by cases e)
theorem frozenAlloc {W : World} {a : Addr} {v : Value} (o : Obj) (h : W.cell? a = some v) (hf : W.frozen? a = false) : (W.alloc o).frozen? a = false := (frozen_kept h (World.grownBy_alloc W o none) (fun r e => by cases e)).trans hf

/-- Has the set s the state i. -/
def hasB (s : Int) (i : Nat) : Bool := bits .and .i64 (s / 2 ^ i) 1 == 1

theorem has46 (s : Int) (i : Nat) (w : World) (i8 : i ≤ 8) :
    Calls Try.prog 33 #[.int .i64 s, .int .i64 (i : Int)] w fun e w' => e = .returned (.bool (hasB s i)) ∧ w = w' := by
  have i0 : (0 : Int) ≤ (i : Int) := by omega
  have i9 : (i : Int) ≤ 8 := by omega
  go_enter Try.func33, Try.ntmps33
  go_wp2
  go_ret
  exact ⟨by simp [hasB], rfl⟩
theorem has42 (s : Int) (i : Nat) (w : World) (i8 : i ≤ 8) :
    Calls Try.prog 34 #[.int .i64 s, .int .i64 (i : Int)] w fun e w' => e = .returned (.bool (hasB s i)) ∧ w = w' := by
  have i0 : (0 : Int) ≤ (i : Int) := by omega
  have i9 : (i : Int) ≤ 8 := by omega
  go_enter Try.func34, Try.ntmps34
  go_wp2
  go_ret
  exact ⟨by simp [hasB], rfl⟩

/-- The states of s below k, in ascending order. -/
def upTo (s : Int) : Nat → List (Fin 9)
  | 0 => []
  | k + 1 => if h : k < 9 ∧ hasB s k = true then upTo s k ++ [⟨k, h.1⟩] else upTo s k
theorem upTo_hit (s : Int) {k : Nat} (h : k < 9) (hb : hasB s k = true) : upTo s (k + 1) = upTo s k ++ [⟨k, h⟩] := by
  rw [upTo, dif_pos ⟨h, hb⟩]
theorem upTo_miss (s : Int) {k : Nat} (hb : hasB s k = false) : upTo s (k + 1) = upTo s k := by
  rw [upTo, dif_neg (by simp [hb])]
theorem upTo_len (s : Int) : ∀ k, (upTo s k).length ≤ k
  | 0 => Nat.le_refl _
  | k + 1 => by
    have := upTo_len s k
    unfold upTo
    split <;> simp <;> omega
theorem upTo_prefix (s : Int) (k : Nat) : ∀ d, upTo s k <+: upTo s (k + d)
  | 0 => List.prefix_refl _
  | d + 1 => by
    refine (upTo_prefix s k d).trans ?_
    show upTo s (k + d) <+: upTo s (k + d + 1)
    rw [upTo]
    split
    · exact List.prefix_append _ _
    · exact List.prefix_refl _

/-- WHAT A ROUND OF THE LOOP KEEPS FOR THE ITERATOR: the block of the captured set. -/
def KpB (b : Nat) (W W' : World) : Prop := W'.heap[b]? = W.heap[b]?
theorem kpB_t {b : Nat} {A B C : World} (h : KpB b A B) (k : KpB b B C) : KpB b A C := k.trans h
theorem kpB_b {b : Nat} {w : World} (hb : b < w.heap.size) (W : World) (l : Nat) (o o' : Obj) (hl : w.heap.size ≤ l) (_ : W.heap[l]? = some o) (_ : o.isCells = false) (_ : o.isWalk = false) : KpB b W (W.putObj l o') :=
  World.putObj_heap_other (by omega)

def encs (x : Fin 9) : Array Value := #[.int .i64 (x.val : Int)]

set_option maxHeartbeats 1000000 in
/-- **(stateSet).states: FOR EVERY LOOP BODY THAT KEEPS THE CAPTURED SET.** -/
theorem states_in (n : Nat) (hn : 1 ≤ n) (l Bn : Nat) (s : Int) (J Jx : List (Fin 9) → World → Prop)
    (hY : ∀ pre x W, J pre W → pre.length < 9 → YieldAt Fence.wide (n - 1) Try.prog l (encs x) W fun e W' =>
      (e = .returned (.bool true) ∧ J (pre ++ [x]) W' ∧ KpB Bn W W') ∨ (e = .returned (.bool false) ∧ Jx (pre ++ [x]) W'))
    (W : World) (hB : W.cell? ⟨Bn, 0, none⟩ = some (.int .i64 s)) (hJ0 : J [] W) :
    CallsIn Fence.wide n Try.prog 32 #[.func (.yield l) #[] #[], .pointer (some ⟨Bn, 0, none⟩)] W fun e W' => (∃ v, e = .returned v) ∧
      ((∃ ys, ys = upTo s 9 ∧ J ys W') ∨ (∃ pre, pre <+: upTo s 9 ∧ Jx pre W')) := by
  refine callsIn_of_wp Try.func32 rfl trivial ?_ rfl
  simp only [Try.ntmps32, List.size_toArray, List.length_cons, List.length_nil, Nat.reduceAdd, Nat.reduceSub, Array.replicate_succ, Array.replicate_zero, List.push_toArray, List.append_toArray, List.nil_append, List.cons_append]
  gi_wp2
  gi_loopw [4] (fun i wr => ∃ k : Nat, k ≤ 9 ∧ i = .int .i64 k ∧ wr.cell? ⟨Bn, 0, none⟩ = some (.int .i64 s) ∧ J (upTo s k) wr) (fun i _ => 9 - (intOf i).toNat)
  case atStart =>
    exact ⟨0, by omega, rfl, hB, hJ0⟩
  case round =>
    obtain ⟨k, hk, rfl, hc, hJ⟩ := hrel
    by_cases hlt : k < 9
    · have k8 : k ≤ 8 := by omega
      cases hh : hasB s k with
      | false =>
        have hu := Lib.hid (upTo_miss s hh)
        gi_wp2_with (refine ⟨trivial, ?_⟩; gi_at_call 33; refine (callsIn_wide.2 (has46 s k _ k8)).mono ?_; rintro e w' ⟨rfl, rfl⟩)
        refine ⟨fun _ h => (by cases h), ?_⟩
        gi_wp2
        go_roundw
        case rel => exact ⟨k + 1, by omega, by go_num, hc, by rw [hu.out]; exact hJ⟩
        case measure => simp [intOf]; omega
      | true =>
        have hu := Lib.hid (upTo_hit s hlt hh)
        obtain ⟨fn, tmps, assign, body, hy, hR⟩ := hY (upTo s k) ⟨k, hlt⟩ wr hJ (by have := upTo_len s k; omega)
        dsimp only [encs] at hy
        gi_wp2_with (refine ⟨trivial, ?_⟩; gi_at_call 33; refine (callsIn_wide.2 (has46 s k _ k8)).mono ?_; rintro e w' ⟨rfl, rfl⟩)
        refine hR.mono ?_
        rintro e W3 (⟨rfl, hJ3, hk3⟩ | ⟨rfl, hJx3⟩)
        · have hc3 : W3.cell? ⟨Bn, 0, none⟩ = some (.int .i64 s) := (World.cell?_of_block (w := wr) (w' := W3) (a := ⟨Bn, 0, none⟩) hk3).trans hc
          gi_wp2
          go_roundw
          case rel => exact ⟨k + 1, by omega, by go_num, hc3, by rw [hu.out]; exact hJ3⟩
          case measure => simp [intOf]; omega
        · gi_wp2
          refine bodyPost_ret (results_none rfl _ _ _) rfl ?_
          refine ⟨⟨_, rfl⟩, .inr ⟨upTo s k ++ [⟨k, hlt⟩], ?_, hJx3⟩⟩
          have hp := upTo_prefix s (k + 1) (9 - (k + 1))
          rw [hu.out, show k + 1 + (9 - (k + 1)) = 9 by omega] at hp
          exact hp
    · obtain rfl : k = 9 := by omega
      gi_wp2
      go_end0
      exact ⟨⟨_, rfl⟩, .inl ⟨_, rfl, hJ⟩⟩

/-- The maker: the set is boxed; the function value captures the box. -/
theorem maker_in (n : Nat) (s : Int) (w : World) :
    CallsIn Fence.wide n Try.prog 22 #[.int .i64 s] w fun e w' => e = .returned (.func (.func 32) #[] #[.pointer (some ⟨w.heap.size, 0, none⟩)]) ∧ w' = w.alloc (.cells #[.int .i64 s] 44) := by
  refine callsIn_of_wp Try.func22 rfl trivial ?_ rfl
  simp only [Try.ntmps22, List.size_toArray, List.length_cons, List.length_nil, Nat.reduceAdd, Nat.reduceSub, Array.replicate_succ, Array.replicate_zero, List.push_toArray, List.append_toArray, List.nil_append, List.cons_append]
  gi_wp2
  go_ret
  exact ⟨rfl, rfl⟩

theorem states_stops (n : Nat) (hn : 1 ≤ n) (Bn : Nat) (s : Int) (w : World) (hBn : Bn < w.heap.size) (hc : w.cell? ⟨Bn, 0, none⟩ = some (.int .i64 s)) :
    SeqStopsK Fence.wide n Try.prog 32 #[.pointer (some ⟨Bn, 0, none⟩)] encs (KpB Bn) (fun ys => ys = upTo s 9) (fun pre => pre <+: upTo s 9) 9 w := fun l J Jx W hW _ _ hY h0 =>
  states_in n hn l Bn s J Jx hY W ((hW.cell (p := ⟨Bn, 0, none⟩) hBn).trans hc) h0

set_option maxRecDepth 100000 in
set_option maxHeartbeats 2000000 in
theorem cs14_in (n : Nat) (hn : 3 ≤ n) (s : Int) (w : World) (hs : isSet s = true) :
    CallsIn Fence.wide n Try.prog 8 #[.int .i64 s] w fun e W' => e = .returned (.int .i64 ((upTo s 9).length : Int)) ∧ Below w.heap.size w W' := by
  have h1 : 1 ≤ n := by omega
  refine callsIn_of_wp_marks Try.func8 rfl trivial ?_ rfl
  simp only [Try.ntmps8, List.size_toArray, List.length_cons, List.length_nil, Nat.reduceAdd, Nat.reduceSub, Array.replicate_succ, Array.replicate_zero, List.push_toArray, List.append_toArray, List.nil_append, List.cons_append]
  gi_wp2_with (refine ⟨trivial, ?_⟩; first | (gi_at_call 18; refine (callsIn_wide.2 (sv24 _ _)).mono ?_; rintro e w' ⟨rfl, rfl⟩) | (gi_at_call 22; refine (maker_in (n - 1) s _).mono ?_; rintro e w' ⟨rfl, rfl⟩))
  have hs0 := cellNew w (.int .i64 0) 3
  have hb := cellNew (w.alloc (.cells #[.int .i64 0] 3)) (.int .i64 s) 44
  rw [World.size_alloc] at hb
  have hB0 : Below w.heap.size w ((w.alloc (.cells #[.int .i64 0] 3)).alloc (.cells #[.int .i64 s] 44)) := ((Below.refl _ w).alloc (Nat.le_refl _) _).alloc (by simp) _
  refine wpIn_rangeFunc_ownF rfl h1 (gf := 32) (lb := #[.pointer (some ⟨w.heap.size + 1, 0, none⟩)]) rfl trivial (enters_of Try.func32 (by kernel_rfl) rfl)
    (states_stops (n - 1) (by omega) (w.heap.size + 1) s _ (by simp) hb.1) kpB_t (kpB_b (by simp)) (Below.refl _ _) (fun _ => rfl)
    (fun pre W => (W.cell? ⟨w.heap.size, 0, none⟩ = some (.int .i64 (pre.length : Int)) ∧ W.frozen? ⟨w.heap.size, 0, none⟩ = false) ∧ Below w.heap.size w W)
    (fun _ _ _ => False)
    (OwnFrom.and (Own.from (fun s A B row hs hg hr => ⟨cell_kept hs.1 hg hr, (frozen_kept hs.1 hg hr).trans hs.2⟩) _) (ownFrom_below (Nat.le_refl _) (by simp; omega)))
    (fun _ _ _ _ _ hs _ _ => hs)
    ⟨⟨cellAlloc _ hs0.1, frozenAlloc _ hs0.1 hs0.2⟩, hB0⟩
    (fun x => { tmps := #[.int .i64 s, undef, .int .i64 0, .pointer (some ⟨w.heap.size, 0, none⟩), .int .i64 s, .bool true, .bool false, .int .i64 s, .func (.func 32) #[] #[.pointer (some ⟨w.heap.size + 1, 0, none⟩)], .int .i64 (x.val : Int), undef, undef, undef], defers := [] }) ?assign ?body ?done ?stop
  case assign =>
    intro l x W K hK
    simp only [encs]
    gi_wp2
    first | (simp; exact hK) | (go_simp; exact hK) | exact (by rfl : _ = _) ▸ hK
  case body =>
    rintro l pre x W ⟨⟨hc, hf⟩, hB⟩ hlt
    have l0 : (0 : Int) ≤ (pre.length : Int) := by omega
    have l9 : (pre.length : Int) ≤ 9 := by omega
    clear hlt
    gi_wp2
    exact ⟨KeepsOthers.setCell _ _ _, Below.heap_setCell W ⟨w.heap.size, 0, none⟩ _ (w.heap.size + 1) (by simp), ⟨by rw [List.length_append]; exact World.cell?_setCell_same' _ _ _ (by rw [hc]; rfl), by rw [World.frozen?_setCell]; exact hf⟩, hB.setCell (p := ⟨w.heap.size, 0, none⟩) (Nat.le_refl _) _⟩
  case done =>
    rintro D ys W hD rfl ⟨⟨hc, _⟩, hB⟩ hK
    gi_wp2
    refine ⟨by simp, .inl ⟨_, _, rfl, run_takeDeferred hK, ?_⟩⟩
    exact ⟨_, results_tmp rfl _ _ _, rfl, hB.trans (belowK_b (w := w) (Nat.le_refl _) W D _ _ (by simp at hD; omega) hK rfl rfl)⟩
  case stop =>
    rintro D c pre W _ _ h _
    exact h.elim

end Go.Proofs.Ytkffgojnicjkmaa

