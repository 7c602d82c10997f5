/- Chapter 10, the program: the first state of a set. -/
import Derived.Test.YtfoifcbpognjaaaDoorBase1
import Derived.Maps.OwnOps
import Derived.Maps.OwnSet
namespace Go.Proofs.YtfoifcbpognjaaaDoor
open Go.ChangeShapes Go.WideShapes Go.ChangeAt Go.RowKit Go.Shelf
attribute [local go_sem] Oper.semAt_some
set_option maxRecDepth 100000

def headI (m : Int) : Int := match upTo m 9 with | [] => 0 | x :: _ => (x.val : Int)
def someI (m : Int) : Bool := match upTo m 9 with | [] => false | _ :: _ => true
set_option maxHeartbeats 4000000 in
theorem pfirst_in (n : Nat) (hn : 3 ≤ n) (m : Int) (w : World) :
    CallsIn Fence.wide n Tryd.prog 51 #[.int .i64 m] w fun e W' => e = .returned (.tuple #[.int .i64 (headI m), .bool (someI m)]) ∧ Below w.heap.size w W' := by
  have h1 : 1 ≤ n := by omega
  refine callsIn_of_wp_marks Tryd.func51 rfl trivial ?_ rfl
  simp only [Tryd.ntmps51, List.size_toArray, List.length_cons, List.length_nil, Nat.reduceAdd, Nat.reduceSub, Array.replicate_succ, Array.replicate_zero, List.push_toArray, List.append_toArray, List.nil_append, List.cons_append]
  gi_wp2_with (refine ⟨trivial, ?_⟩; gi_at_call 62; refine (maker_in (n - 1) m _).mono ?_; rintro e w' ⟨rfl, rfl⟩)
  have b0 := Boxed.new w 3 (.int .i64 0)
  have b1 := Boxed.new (w.alloc (.cells #[.int .i64 0] 3)) 4 (.bool false)
  have b2 := Boxed.new ((w.alloc (.cells #[.int .i64 0] 3)).alloc (.cells #[.bool false] 4)) 93 (.int .i64 m)
  simp only [World.size_alloc] at b1 b2
  have hB0 : Below w.heap.size w (((w.alloc (.cells #[.int .i64 0] 3)).alloc (.cells #[.bool false] 4)).alloc (.cells #[.int .i64 m] 93)) := (((Below.refl _ w).alloc (Nat.le_refl _) _).alloc (by simp) _).alloc (by simp; omega) _
  refine wpIn_rangeFunc_ownF rfl h1 (gf := 75) (lb := #[.pointer (some ⟨w.heap.size + 1 + 1, 0, none⟩)]) rfl trivial (enters_of Tryd.func75 (by kernel_rfl) rfl)
    (states_stops (n - 1) (by omega) (w.heap.size + 1 + 1) m _ (by simp) b2.cell) kpB_t (kpB_b (by simp)) (Below.refl _ _) (fun _ => rfl)
    (fun pre W => pre = [] ∧ Boxed W w.heap.size 3 (.int .i64 0) ∧ Boxed W (w.heap.size + 1) 4 (.bool false) ∧ Boxed W (w.heap.size + 1 + 1) 93 (.int .i64 m) ∧ Below w.heap.size w W)
    (fun c pre W => c = .ret ∧ (∃ x : Fin 9, pre = [x] ∧ Boxed W w.heap.size 3 (.int .i64 (x.val : Int)) ∧ Boxed W (w.heap.size + 1) 4 (.bool true)) ∧ Below w.heap.size w W)
    ?own ?ownx
    ⟨rfl, (b0.alloc _).alloc _, b1.alloc _, b2, hB0⟩
    (fun x => { tmps := #[.int .i64 m, undef, .pointer (some ⟨w.heap.size, 0, none⟩), .pointer (some ⟨w.heap.size + 1, 0, none⟩), .int .i64 (x.val : Int), .int .i64 m, .func (.func 75) #[] #[.pointer (some ⟨w.heap.size + 1 + 1, 0, none⟩)], .int .i64 (x.val : Int), undef], defers := [] }) ?assign ?body ?done ?stop
  case own =>
    exact OwnFrom.and (Own.from (fun s A B row hs hg hr => hs) _) (OwnFrom.and (Own.from (boxed_own w.heap.size 3 (fun _ : List (Fin 9) => .int .i64 0)) _) (OwnFrom.and (Own.from (boxed_own (w.heap.size + 1) 4 (fun _ : List (Fin 9) => .bool false)) _) (OwnFrom.and (Own.from (boxed_own (w.heap.size + 1 + 1) 93 (fun _ : List (Fin 9) => .int .i64 m)) _) (ownFrom_below (Nat.le_refl _) (by simp; omega)))))
  case ownx =>
    intro c
    refine OwnFrom.and (Own.from (fun s A B row hs hg hr => hs) _) (OwnFrom.and (Own.from (fun s A B row hs hg hr => ?_) _) (ownFrom_below (Nat.le_refl _) (by simp; omega)))
    obtain ⟨x, e, h1, h2⟩ := hs
    exact ⟨x, e, boxed_own w.heap.size 3 (fun _ : List (Fin 9) => .int .i64 (x.val : Int)) s A B row h1 hg hr, boxed_own (w.heap.size + 1) 4 (fun _ : List (Fin 9) => .bool true) s A B row h2 hg hr⟩
  case assign =>
    intro l x W K hK
    simp only [encs]
    gi_wp2
    exact hK
  case body =>
    rintro l pre x W ⟨rfl, h0, hb, hs, hB⟩ hlt
    have c0 := h0.cell
    have f0 := h0.frozen
    have cb := hb.cell
    have fb := hb.frozen
    gi_wp2
    exact ⟨(KeepsOthers.setCell _ _ _).trans (KeepsOthers.setCell _ _ _), rfl, ⟨x, rfl, (h0.set _).other (by omega) _, (hb.other (by omega) _).set _⟩, (hB.setCell (p := ⟨w.heap.size, 0, none⟩) (Nat.le_refl _) _).setCell (p := ⟨w.heap.size + 1, 0, none⟩) (by simp) _⟩
  case done =>
    rintro D ys W hD hys ⟨rfl, h0, hb, hs, hB⟩ hK
    have c0 := h0.cell
    have f0 := h0.frozen
    have cb := hb.cell
    have fb := hb.frozen
    have q0 := (h0.set (.int .i64 0)).other (B' := w.heap.size + 1) (by omega) (.bool false)
    have q1 := (hb.other (B' := w.heap.size) (by omega) (.int .i64 0)).set (.bool false)
    have hB2 := (hB.setCell (p := ⟨w.heap.size, 0, none⟩) (Nat.le_refl _) (.int .i64 0)).setCell (p := ⟨w.heap.size + 1, 0, none⟩) (by simp) (.bool false)
    gi_wp2
    have hK1 : ((W.setCell ⟨w.heap.size, 0, none⟩ (.int .i64 0)).setCell ⟨w.heap.size + 1, 0, none⟩ (.bool false)).heap[D]? = some (.deferred (some [])) := by
      rw [heap_setCell_other _ _ D _ (by simp at hD ⊢; omega), heap_setCell_other _ _ D _ (by simp at hD ⊢; omega)]; exact hK
    generalize ((W.setCell ⟨w.heap.size, 0, none⟩ (.int .i64 0)).setCell ⟨w.heap.size + 1, 0, none⟩ (.bool false)) = Z at hK1 q0 q1 hB2 ⊢
    refine ⟨by simp, .inl ⟨_, _, rfl, run_takeDeferred hK1, ?_⟩⟩
    have z0 := (show Boxed (_ : World) _ _ _ from (World.putObj_heap_other (o := .deferred none) (show w.heap.size ≠ D by simp at hD; omega)).trans q0).cell
    have z1 := (show Boxed (_ : World) _ _ _ from (World.putObj_heap_other (o := .deferred none) (show w.heap.size + 1 ≠ D by simp at hD; omega)).trans q1).cell
    refine ⟨.tuple #[.int .i64 0, .bool false], ?_, by unfold headI someI; rw [← hys], hB2.trans (belowK_b (w := w) (Nat.le_refl _) Z D _ _ (by simp at hD; omega) hK1 rfl rfl)⟩
    simp [results, Tryd.f51, go_sem, z0, z1]
  case stop =>
    rintro D c pre W hD hp ⟨rfl, ⟨x, rfl, h0, hb⟩, hB⟩ hK
    obtain ⟨zs, hz⟩ := hp
    gi_wp2
    refine ⟨by simp, .inl ⟨_, _, rfl, run_takeDeferred hK, ?_⟩⟩
    have z0 := (show Boxed (_ : World) _ _ _ from (World.putObj_heap_other (o := .deferred none) (show w.heap.size ≠ D by simp at hD; omega)).trans h0).cell
    have z1 := (show Boxed (_ : World) _ _ _ from (World.putObj_heap_other (o := .deferred none) (show w.heap.size + 1 ≠ D by simp at hD; omega)).trans hb).cell
    refine ⟨.tuple #[.int .i64 (x.val : Int), .bool true], ?_, by unfold headI someI; rw [← hz]; rfl, hB.trans (belowK_b (w := w) (Nat.le_refl _) W D _ _ (by simp at hD; omega) hK rfl rfl)⟩
    simp [results, Tryd.f51, go_sem, z0, z1]
theorem pfirst (m : Int) (w : World) :
    Calls Tryd.prog 51 #[.int .i64 m] w fun e W' => e = .returned (.tuple #[.int .i64 (headI m), .bool (someI m)]) ∧ Below w.heap.size w W' :=
  callsIn_wide.1 (pfirst_in 3 (Nat.le_refl _) m w)
end Go.Proofs.YtfoifcbpognjaaaDoor

