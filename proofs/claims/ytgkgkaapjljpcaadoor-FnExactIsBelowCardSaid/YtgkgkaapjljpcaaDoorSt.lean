/- The model of chapter 1: the states of a set as a slice of its own. -/
import Derived.Test.YtgkgkaapjljpcaaDoorBase1
namespace Go.Proofs.YtgkgkaapjljpcaaDoor
open Go.ChangeShapes Go.WideShapes Go.ChangeAt Go.RowKit

set_option maxRecDepth 100000
theorem Tryd.info3 : (Tryd.prog.info? 3).map (fun i => (i.zero, i.size, i.bytes)) = some (some (.int .i64 0), 1, 8) := by kernel_rfl

/-- The cells of a list of states. -/
def cellsOf (l : List (Fin 9)) : List Value := l.map fun x => .int .i64 (x.val : Int)
theorem cellsOf_snoc (l : List (Fin 9)) (x : Fin 9) : cellsOf (l ++ [x]) = cellsOf l ++ [.int .i64 (x.val : Int)] := by simp [cellsOf]
theorem cellsOf_len (l : List (Fin 9)) : (cellsOf l).length = l.length := by simp [cellsOf]

/-- A slice of the call's own (blocks from B on) with just these states. -/
def Holds (W : World) (B : Nat) (v : Value) (l : List (Fin 9)) : Prop := W.ownsRow B 3 1 v l.length (cellsOf l)

theorem holds_step {w wr w1 : World} {s : Int} {k : Nat} {v v' : Value} (hlt : k < 9) (hb : hasB s k = true) (hB : Below w.heap.size w wr) (ho : Holds wr w.heap.size v (upTo s k))
    (hown : w1.ownsRow w.heap.size 3 1 v' ((upTo s k).length + 1) (cellsOf (upTo s k) ++ [.int .i64 (k : Int)])) (hg : (wr.alloc (.cells #[.int .i64 (k : Int)] 3)).grownBy w1 v.ownBlock) :
    Holds w1 w.heap.size v' (upTo s (k + 1)) ∧ Below w.heap.size w w1 := by
  refine ⟨?_, (hB.alloc hB.size _).grown hg (by have := hB.size; simp; omega) (fun i e => (ho.lt i e).1)⟩
  unfold Holds
  rw [upTo_hit s hlt hb, cellsOf_snoc, List.length_append]
  exact hown

set_option maxHeartbeats 1000000 in
theorem st35 (s : Int) (w : World) :
    Calls Tryd.prog 93 #[.int .i64 s] w fun e W' => ∃ v, e = .returned v ∧ Holds W' w.heap.size v (upTo s 9) ∧ Below w.heap.size w W' := by
  obtain ⟨i0, hi, hz0, hz1, hz2⟩ := info_parts Tryd.info3
  go_enter Tryd.func93, Tryd.ntmps93
  go_wp2
  go_loopw [3, 6] (fun v i wr => ∃ k : Nat, k ≤ 9 ∧ i = .int .i64 k ∧ Holds wr w.heap.size v (upTo s k) ∧ Below w.heap.size w wr) (fun _ i _ => 9 - (intOf i).toNat)
  case atStart => exact ⟨0, by omega, rfl, World.ownsRow_made w #[] 0 (Nat.le_refl _) (by unfold maxLen; omega) rfl, (Below.refl _ _).alloc (Nat.le_refl _) _⟩
  case round =>
    obtain ⟨k, hk, rfl, ho, hB⟩ := hrel
    by_cases hlt : k < 9
    · have k8 : k ≤ 8 := by omega
      have hl := upTo_len s k
      cases hh : hasB s k with
      | false =>
        have hu := Lib.hid (upTo_miss s hh)
        go_wp2_with (go_at_call 119; refine (has42 s k _ k8).mono ?_; rintro e w' ⟨rfl, rfl⟩)
        go_roundw
        case rel => exact ⟨k + 1, by omega, by go_num, by rw [hu.out]; exact ho, hB⟩
        case measure => simp [intOf]; omega
      | true =>
        have hown : wr.ownsRow w.heap.size 3 1 u3 (upTo s k).length (cellsOf (upTo s k)) := ho
        have hH := Lib.hid hh
        go_wp2_with (first
          | (go_at_call 119; refine (has42 s k _ k8).mono ?_; rintro e w' ⟨rfl, rfl⟩)
          | (at_builtin; refine wpList_append_own _ rfl _ _ 23 rfl w.heap.size 3 i0 (.int .i64 0) 1 8 Tryd.underlying23 hi hz0 hz1 hz2 rfl (by decide) _ _ _ rfl (hown.alloc _) ⟨wr.heap.size, 0, none⟩ 1 1 [.int .i64 (k : Int)] rfl rfl (cell_one_new _ _ _) (by simp [Value.oneCell']) (by unfold maxLen; omega) (by omega) (by have := hB.size; simp; omega) ?_; intro v' w1 hown' hgrow _; have R := holds_step hlt hH.out hB ho hown' hgrow; clear hown' hgrow))
        go_roundw
        case rel => exact ⟨k + 1, by omega, by go_num, R.1, R.2⟩
        case measure => simp [intOf]; omega
    · obtain rfl : k = 9 := by omega
      go_wp2
      go_ret
      exact ⟨_, rfl, ho, hB⟩
end Go.Proofs.YtgkgkaapjljpcaaDoor

