/- Chapter 8, the program: back into a set. -/
import Derived.Test.YtngcdgnijfiocaaGreatDoorBP
namespace Go.Proofs.YtngcdgnijfiocaaGreatDoor
open Go.ChangeShapes Go.WideShapes Go.ChangeAt Go.RowKit Go.Shelf
attribute [local go_sem] Oper.semAt_some
set_option maxRecDepth 100000

set_option maxHeartbeats 2000000 in
theorem pinto_in (F : Nat → Nat) (hF : ∀ s, s < 9 → F s < 512) (m : Nat) (hm : m < 512) (w : World) :
    CallsIn Fence.wide 3 Tryz.prog 65 #[.agg (revA F), .int .i64 (m : Int)] w fun e w' => e = .returned (.int .i64 ((over F m 9 : Nat) : Int)) ∧ Below w.heap.size w w' := by
  generalize hr : revA F = arr
  refine callsIn_of_wp_marks Tryz.func65 rfl trivial ?_ rfl
  simp only [Tryz.ntmps65, List.size_toArray, List.length_cons, List.length_nil, Nat.reduceAdd, Nat.reduceSub, Array.replicate_succ, Array.replicate_zero, List.push_toArray, List.append_toArray, List.nil_append, List.cons_append]
  gi_wp2_with (refine ⟨trivial, ?_⟩; gi_at_call 55; refine (maker_in 2 (m : Int) _).mono ?_; rintro e w' ⟨rfl, rfl⟩)
  have bR := Lies.new w arr 102
  have bO := Boxed.new (w.alloc (.cells arr 102)) 69 (.int .i64 0)
  have bN := Boxed.new ((w.alloc (.cells arr 102)).alloc (.cells #[.int .i64 0] 69)) 69 (.int .i64 (m : Int))
  simp only [World.size_alloc] at bO bN
  have hB0 : Below w.heap.size w (((w.alloc (.cells arr 102)).alloc (.cells #[.int .i64 0] 69)).alloc (.cells #[.int .i64 (m : Int)] 69)) := (((Below.refl _ w).alloc (Nat.le_refl _) _).alloc (by simp) _).alloc (by simp; omega) _
  refine wpIn_rangeFunc_ownF rfl (by omega) (gf := 90) (lb := #[.pointer (some ⟨w.heap.size + 1 + 1, 0, none⟩)]) rfl trivial (enters_of Tryz.func90 (by kernel_rfl) rfl)
    (states_stops 2 (by omega) (w.heap.size + 1 + 1) (m : Int) _ (by simp) bN.cell) kpB_t (kpB_b (by simp)) (Below.refl _ _) (fun _ => rfl)
    (fun pre W => Lies W w.heap.size arr 102 ∧ Boxed W (w.heap.size + 1) 69 (.int .i64 ((overL F pre : Nat) : Int)) ∧ Boxed W (w.heap.size + 1 + 1) 69 (.int .i64 (m : Int)) ∧ Below w.heap.size w W)
    (fun _ _ _ => False)
    (OwnFrom.and (Own.from (lies_own w.heap.size 102 (fun _ => arr)) _) (OwnFrom.and (Own.from (boxed_own (w.heap.size + 1) 69 (fun pre => .int .i64 ((overL F pre : Nat) : Int))) _) (OwnFrom.and (Own.from (boxed_own (w.heap.size + 1 + 1) 69 (fun _ => .int .i64 (m : Int))) _) (ownFrom_below (Nat.le_refl _) (by simp; omega)))))
    (fun _ _ _ _ _ hs _ _ => hs)
    ⟨(bR.alloc _).alloc _, bO.alloc _, bN, hB0⟩
    (fun x => { tmps := #[.agg arr, .int .i64 (m : Int), .pointer (some ⟨w.heap.size, 0, none⟩), undef, .int .i64 0, .pointer (some ⟨w.heap.size + 1, 0, none⟩), .int .i64 (x.val : Int), .int .i64 (m : Int), .func (.func 90) #[] #[.pointer (some ⟨w.heap.size + 1 + 1, 0, none⟩)], .int .i64 (x.val : Int), undef, undef, undef, undef, undef, undef], defers := [] }) ?assign ?body ?done ?stop
  case assign =>
    intro l x W K hK
    simp only [encs]
    gi_wp2
    exact hK
  case body =>
    rintro l pre x W ⟨hR, hO, hN, hB⟩ hlt
    have cO := hO.cell
    have fO := hO.frozen
    have hx := hF x.val x.isLt
    have hx8 : (x.val : Int) < 9 := by have := x.isLt; omega
    have hx0 : (0 : Int) ≤ (x.val : Int) := by omega
    have hp := overL_lt hF pre
    have hor := or_nat (overL F pre) (F x.val) (by omega) (by omega)
    obtain ⟨cR, _⟩ := rev_cell (F := F) (b := w.heap.size) (by rw [hr]; exact hR) x.isLt
    have hsz : arr.size = 9 := by rw [← hr]; rfl
    have h1n : 1 ≤ 3 - 1 - 1 := by omega
    gi_wp2_with fail
    gi_region
    all_goals gi_wp2
    all_goals
      refine ⟨(KeepsOthers.setCell W ⟨w.heap.size + 1, 0, none⟩ (.int .i64 ((overL F pre ||| F x.val : Nat) : Int))).trans (KeepsOthers.drew _), ?_, ?_⟩
      · show _ = _
        exact (show _ = _ from hN.other (B' := w.heap.size + 1) (by omega) (.int .i64 ((overL F pre ||| F x.val : Nat) : Int))).trans (show _ = _ from hN).symm
      · dsimp only
        rw [overL_snoc]
        exact ⟨hR.other (by omega) _ _, hO.set _, hN.other (by omega) _, (hB.setCell (p := ⟨w.heap.size + 1, 0, none⟩) (by simp) _).drew⟩
  case done =>
    rintro D ys W hD rfl ⟨hR, hO, hN, hB⟩ hK
    have cO := hO.cell
    gi_wp2
    refine ⟨by simp, .inl ⟨_, _, rfl, run_takeDeferred hK, ?_⟩⟩
    have hb := hB.trans (belowK_b (w := w) (Nat.le_refl _) W D _ (.deferred none) (by simp at hD; omega) hK rfl rfl)
    rw [over_upTo F hm 9 (Nat.le_refl _)]
    refine ⟨.int .i64 ((overL F (upTo (m : Int) 9) : Nat) : Int), ?_, rfl, hb⟩
    simp [results, Tryz.results65, go_sem]
  case stop =>
    rintro D c pre W _ _ h _
    exact h.elim
theorem pinto (F : Nat → Nat) (hF : ∀ s, s < 9 → F s < 512) (m : Nat) (hm : m < 512) (w : World) :
    Calls Tryz.prog 65 #[.agg (revA F), .int .i64 (m : Int)] w fun e w' => e = .returned (.int .i64 ((over F m 9 : Nat) : Int)) ∧ Below w.heap.size w w' :=
  callsIn_wide.1 (pinto_in F hF m hm w)
end Go.Proofs.YtngcdgnijfiocaaGreatDoor

