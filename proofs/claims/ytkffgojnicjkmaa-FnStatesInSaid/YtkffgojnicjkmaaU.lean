/- The law on StatesIn, CountStates, IsWithin, StateOf and ValuesOf at drawn arguments. -/
import Derived.Test.YtkffgojnicjkmaaS
namespace Go.Proofs.Ytkffgojnicjkmaa
open Go.ChangeShapes Go.WideShapes Go.ChangeAt Go.RowKit

theorem same19nil (W : World) (a b : Option Addr) (c d : Nat) :
    Calls Try.prog 13 #[.slice a 0 c, .slice b 0 d] W fun e w' => e = .returned (.bool true) ∧ Below W.heap.size W w' := by
  go_enter Try.func13, Try.ntmps13
  go_wp2
  go_loop [11] (fun i => i = .int .i64 0) (fun _ => 0)
  case atStart => rfl
  case round =>
    obtain rfl := hrel
    go_wp2
    go_ret
    exact ⟨rfl, Below.refl _ _⟩

set_option maxHeartbeats 1000000 in
theorem same19row (W : World) (g h c d : Nat) (zs : List Int) (hm : zs.length ≤ maxLen)
    (hx : ∀ i, i < zs.length → W.cell? ⟨g, i, none⟩ = some (.int .i64 (zs[i]?.getD 0))) (hy : ∀ i, i < zs.length → W.cell? ⟨h, i, none⟩ = some (.int .i64 (zs[i]?.getD 0))) :
    Calls Try.prog 13 #[.slice (some ⟨g, 0, none⟩) zs.length c, .slice (some ⟨h, 0, none⟩) zs.length d] W fun e w' => e = .returned (.bool true) ∧ Below W.heap.size W w' := by
  unfold maxLen at hm
  have HX := Lib.hid hx
  have HY := Lib.hid hy
  clear hx hy
  go_enter Try.func13, Try.ntmps13
  go_wp2
  go_loopw [11] (fun i wr => ∃ k : Nat, k ≤ zs.length ∧ i = .int .i64 k ∧ Below W.heap.size W wr ∧ ∀ a, wr.cell? a = W.cell? a) (fun i _ => zs.length - (intOf i).toNat)
  case atStart => exact ⟨0, by omega, rfl, Below.refl _ _, fun _ => rfl⟩
  case round =>
    obtain ⟨k, hk, rfl, hB, hs⟩ := hrel
    by_cases hlt : k < zs.length
    · have c1 : wr.cell? ⟨g, k, none⟩ = some (.int .i64 (zs[k]?.getD 0)) := (hs _).trans (HX.out k hlt)
      have c2 : wr.cell? ⟨h, k, none⟩ = some (.int .i64 (zs[k]?.getD 0)) := (hs _).trans (HY.out k hlt)
      have HS := Lib.hid hs
      clear hs
      go_wp2
      go_quiet (fail)
      go_wp2
      go_roundw
      case rel => exact ⟨k + 1, by omega, by go_num, below_drewN hB _, fun a => HS.out a⟩
      case measure => simp [intOf]; omega
    · have e : k = zs.length := by omega
      clear hlt hk
      subst e
      go_wp2
      go_ret
      exact ⟨rfl, hB⟩
theorem same19 {W : World} {B1 B2 : Nat} {v1 v2 : Value} {zs : List Int} (h1 : Row W B1 v1 zs) (h2 : Row W B2 v2 zs) :
    Calls Try.prog 13 #[v1, v2] W fun e w' => e = .returned (.bool true) ∧ Below W.heap.size W w' := by
  rcases h1.cases with ⟨rfl, h0⟩ | ⟨g, cap, rfl, _, _, hm⟩
  · subst h0
    rcases h2.cases with ⟨rfl, _⟩ | ⟨g', cap', rfl, _, _, hm⟩
    · exact same19nil W _ _ _ _
    · exact same19nil W _ _ _ _
  · rcases h2.cases with ⟨rfl, h0⟩ | ⟨g', cap', rfl, _, _, _⟩
    · subst h0
      exact same19nil W _ _ _ _
    · exact same19row W g g' cap cap' zs hm h1.cell h2.cell

/-- How many states a set has; -1 for a number that is none. -/
def cnt (s : Int) : Int := if isSet s = true then ((stL s).length : Int) else -1
theorem cnt_yes {s : Int} (h : isSet s = true) : cnt s = ((upTo s 9).length : Int) := by unfold cnt stL; rw [if_pos h, if_pos h, List.length_map]
theorem cnt_no {s : Int} (h : isSet s = false) : cnt s = -1 := by unfold cnt; rw [if_neg (by simp [h])]
theorem cs14 (s : Int) (w : World) : Calls Try.prog 8 #[.int .i64 s] w fun e W' => e = .returned (.int .i64 (cnt s)) ∧ Below w.heap.size w W' := by
  cases hs : isSet s with
  | true => rw [cnt_yes hs]; exact cs14yes s w hs
  | false =>
    rw [cnt_no hs]
    refine (cs14no s w hs).mono fun e W' ⟨he, hw⟩ => ?_
    subst hw
    exact ⟨he, Below.refl _ _⟩
theorem cs20 (s : Int) (w : World) : Calls Try.prog 14 #[.int .i64 s] w fun e W' => e = .returned (.int .i64 (cnt s)) ∧ Below w.heap.size w W' := by
  cases hs : isSet s with
  | true => rw [cnt_yes hs]; exact cs20yes s w hs
  | false =>
    rw [cnt_no hs]
    refine (cs20no s w hs).mono fun e W' ⟨he, hw⟩ => ?_
    subst hw
    exact ⟨he, Below.refl _ _⟩

/-- The sum of the powers of two of a list of states. -/
def psum : List (Fin 9) → Int
  | [] => 0
  | x :: r => 2 ^ x.val + psum r
theorem psum_snoc (l : List (Fin 9)) (x : Fin 9) : psum (l ++ [x]) = psum l + 2 ^ x.val := by
  induction l with
  | nil => simp [psum]
  | cons y r ih => simp only [List.cons_append, psum, ih]; omega
theorem psum_bound (l : List (Fin 9)) : 0 ≤ psum l ∧ psum l ≤ 256 * l.length := by
  induction l with
  | nil => simp [psum]
  | cons y r ih =>
    have : ∀ y : Fin 9, (0 : Int) ≤ 2 ^ y.val ∧ (2 : Int) ^ y.val ≤ 256 := by decide
    have := this y
    simp only [psum, List.length_cons]
    omega
theorem psum_all : ∀ n : Fin 512, psum (upTo (n.val : Int) 9) = (n.val : Int) := by decide +kernel
theorem psum_set {s : Int} (hs : isSet s = true) : psum (upTo s 9) = s := by
  have h := of_decide_eq_true hs
  obtain ⟨n, rfl⟩ : ∃ n : Nat, s = (n : Int) := ⟨s.toNat, by omega⟩
  exact psum_all ⟨n, by omega⟩
def asc : List (Fin 9) → Bool
  | [] => true
  | [_] => true
  | x :: y :: r => decide (x.val < y.val) && asc (y :: r)
theorem asc_all : ∀ n : Fin 512, asc (upTo (n.val : Int) 9) = true := by decide +kernel
theorem asc_at : ∀ (l : List (Fin 9)) (i : Nat) (x y : Fin 9), asc l = true → l[i]? = some x → l[i + 1]? = some y → x.val < y.val
  | [], _, _, _, _, h, _ => by simp at h
  | [_], i, _, _, _, _, h => by simp at h
  | a :: b :: r, 0, x, y, h, hx, hy => by
    simp at hx hy
    subst hx hy
    simp [asc] at h
    exact h.1
  | a :: b :: r, i + 1, x, y, h, hx, hy => by
    simp [asc] at h
    exact asc_at (b :: r) i x y h.2 (by simpa using hx) (by simpa using hy)
theorem asc_set {s : Int} (hs : isSet s = true) : asc (upTo s 9) = true := by
  have h := of_decide_eq_true hs
  obtain ⟨n, rfl⟩ : ∃ n : Nat, s = (n : Int) := ⟨s.toNat, by omega⟩
  exact asc_all ⟨n, by omega⟩
end Go.Proofs.Ytkffgojnicjkmaa

