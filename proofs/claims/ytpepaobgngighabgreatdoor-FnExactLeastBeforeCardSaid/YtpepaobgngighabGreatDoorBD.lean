/- Chapter 8, the program: the states of a set in descending order. -/
import Derived.Test.YtpepaobgngighabGreatDoorBD0
namespace Go.Proofs.YtpepaobgngighabGreatDoor
open Go.ChangeShapes Go.WideShapes Go.ChangeAt Go.RowKit Go.Shelf
attribute [local go_sem] Oper.semAt_some
set_option maxRecDepth 100000

set_option maxHeartbeats 1000000 in
/-- **(stateSet).backward: FOR EVERY LOOP BODY THAT KEEPS THE CAPTURED SET.** -/
theorem backward_in (n : Nat) (hn : 1 ≤ n) (l Bn : Nat) (s : Int) (J Jx : List (Fin 9) → World → Prop)
    (hY : ∀ pre x W, J pre W → pre.length < 9 → YieldAt Fence.wide (n - 1) Tryz.prog l (encs x) W fun e W' =>
      (e = .returned (.bool true) ∧ J (pre ++ [x]) W' ∧ KpB Bn W W') ∨ (e = .returned (.bool false) ∧ Jx (pre ++ [x]) W'))
    (W : World) (hB : W.cell? ⟨Bn, 0, none⟩ = some (.int .i64 s)) (hJ0 : J [] W) :
    CallsIn Fence.wide n Tryz.prog 32 #[.func (.yield l) #[] #[], .pointer (some ⟨Bn, 0, none⟩)] W fun e W' => (∃ v, e = .returned v) ∧
      ((∃ ys, ys = topL s 0 ∧ J ys W') ∨ (∃ pre, pre <+: topL s 0 ∧ Jx pre W')) := by
  refine callsIn_of_wp Tryz.func32 rfl trivial ?_ rfl
  simp only [Tryz.ntmps32, List.size_toArray, List.length_cons, List.length_nil, Nat.reduceAdd, Nat.reduceSub, Array.replicate_succ, Array.replicate_zero, List.push_toArray, List.append_toArray, List.nil_append, List.cons_append]
  gi_wp2
  gi_loopw [3] (fun i wr => ∃ k : Nat, k ≤ 9 ∧ i = .int .i64 ((k : Int) - 1) ∧ wr.cell? ⟨Bn, 0, none⟩ = some (.int .i64 s) ∧ J (topL s k) wr) (fun i _ => (intOf i + 1).toNat)
  case atStart =>
    exact ⟨9, by omega, rfl, hB, hJ0⟩
  case round =>
    obtain ⟨k, hk, rfl, hc, hJ⟩ := hrel
    cases k with
    | zero =>
      rw [show ((0 : Nat) : Int) - 1 = -1 from rfl]
      gi_wp2
      go_end0
      exact ⟨⟨_, rfl⟩, .inl ⟨_, rfl, hJ⟩⟩
    | succ k =>
      rw [show ((k + 1 : Nat) : Int) - 1 = (k : Int) by omega]
      have hlt : k < 9 := by omega
      have k8 : k ≤ 8 := by omega
      have k8i : (k : Int) ≤ 8 := by omega
      have k0i : (0 : Int) ≤ (k : Int) := by omega
      cases hh : hasB s k with
      | false =>
        have hu := Lib.hid (topL_miss s hlt hh)
        gi_wp2_with (refine ⟨trivial, ?_⟩; gi_at_call 33; refine (callsIn_wide.2 (has46 s k _ k8)).mono ?_; rintro e w' ⟨rfl, rfl⟩)
        refine ⟨fun _ h => (by cases h), ?_⟩
        gi_wp2
        go_roundw
        case rel => exact ⟨k, by omega, by first | rfl | go_num, hc, by rw [hu.out]; exact hJ⟩
        case measure => (simp [intOf] <;> omega)
      | true =>
        have hu := Lib.hid (topL_hit s hlt hh)
        obtain ⟨fn, tmps, assign, body, hy, hR⟩ := hY (topL s (k + 1)) ⟨k, hlt⟩ wr hJ (by have := topL_len s (k := k + 1) (by omega); omega)
        dsimp only [encs] at hy
        gi_wp2_with (refine ⟨trivial, ?_⟩; gi_at_call 33; refine (callsIn_wide.2 (has46 s k _ k8)).mono ?_; rintro e w' ⟨rfl, rfl⟩)
        refine hR.mono ?_
        rintro e W3 (⟨rfl, hJ3, hk3⟩ | ⟨rfl, hJx3⟩)
        · have hc3 : W3.cell? ⟨Bn, 0, none⟩ = some (.int .i64 s) := (World.cell?_of_block (w := wr) (w' := W3) (a := ⟨Bn, 0, none⟩) hk3).trans hc
          gi_wp2
          go_roundw
          case rel => exact ⟨k, by omega, by first | rfl | go_num, hc3, by rw [hu.out]; exact hJ3⟩
          case measure => (simp [intOf] <;> omega)
        · gi_wp2
          refine bodyPost_ret (results_none rfl _ _ _) rfl ?_
          refine ⟨⟨_, rfl⟩, .inr ⟨topL s (k + 1) ++ [⟨k, hlt⟩], ?_, hJx3⟩⟩
          have hp := topL_prefix s (k := k) (by omega)
          rw [hu.out] at hp
          exact hp

/-- The maker: the set is boxed; the function value captures the box. -/
theorem bmaker_in (n : Nat) (s : Int) (w : World) :
    CallsIn Fence.wide n Tryz.prog 21 #[.int .i64 s] w fun e w' => e = .returned (.func (.func 32) #[] #[.pointer (some ⟨w.heap.size, 0, none⟩)]) ∧ w' = w.alloc (.cells #[.int .i64 s] 45) := by
  refine callsIn_of_wp Tryz.func21 rfl trivial ?_ rfl
  simp only [Tryz.ntmps21, List.size_toArray, List.length_cons, List.length_nil, Nat.reduceAdd, Nat.reduceSub, Array.replicate_succ, Array.replicate_zero, List.push_toArray, List.append_toArray, List.nil_append, List.cons_append]
  gi_wp2
  go_ret
  exact ⟨rfl, rfl⟩
theorem backward_stops (n : Nat) (hn : 1 ≤ n) (Bn : Nat) (s : Int) (w : World) (hBn : Bn < w.heap.size) (hc : w.cell? ⟨Bn, 0, none⟩ = some (.int .i64 s)) :
    SeqStopsK Fence.wide n Tryz.prog 32 #[.pointer (some ⟨Bn, 0, none⟩)] encs (KpB Bn) (fun ys => ys = topL s 0) (fun pre => pre <+: topL s 0) 9 w := fun l J Jx W hW _ _ hY h0 =>
  backward_in n hn l Bn s J Jx hY W ((hW.cell (p := ⟨Bn, 0, none⟩) hBn).trans hc) h0

end Go.Proofs.YtpepaobgngighabGreatDoor

