/- The program's StatesIn and IsWithin, as chapter 4's laws call them. -/
import Derived.Test.YtngcdgnijfiocaaGreatDoorSt
import Derived.Test.YtngcdgnijfiocaaGreatDoorRn
namespace Go.Proofs.YtngcdgnijfiocaaGreatDoor
open Go.ChangeShapes Go.WideShapes Go.ChangeAt Go.RowKit Go.Shelf
set_option maxRecDepth 100000
attribute [local go_sem] Oper.semAt_some

theorem Tryz.info38 : (Tryz.prog.info? 38).map (fun i => (i.zero, i.size, i.bytes)) = some (some (.slice none 0 0), 1, 24) := by kernel_rfl

set_option maxRecDepth 100000 in
set_option maxHeartbeats 2000000 in
theorem si12_in (n : Nat) (hn : 3 ≤ n) (s : Int) (w : World) (hs : isSet s = true) :
    CallsIn Fence.wide n Tryz.prog 20 #[.int .i64 s] w fun e W' => ∃ v, e = .returned (.tuple #[v, .bool true]) ∧ Holds W' w.heap.size v (upTo s 9) ∧ Below w.heap.size w W' := by
  have h1 : 1 ≤ n := by omega
  obtain ⟨i0, hi, hz0, hz1, hz2⟩ := info_parts Tryz.info3
  refine callsIn_of_wp_marks Tryz.func20 rfl trivial ?_ rfl
  simp only [Tryz.ntmps20, List.size_toArray, List.length_cons, List.length_nil, Nat.reduceAdd, Nat.reduceSub, Array.replicate_succ, Array.replicate_zero, List.push_toArray, List.append_toArray, List.nil_append, List.cons_append]
  gi_wp2_with (refine ⟨trivial, ?_⟩; first | (gi_at_call 38; refine (callsIn_wide.2 (sv24 _ _)).mono ?_; rintro e w' ⟨rfl, rfl⟩) | (gi_at_call 55; refine (maker_in (n - 1) s _).mono ?_; rintro e w' ⟨rfl, rfl⟩))
  have bO := Boxed.new w 38 (.slice none 0 0)
  have bN := Boxed.new (w.alloc (.cells #[.slice none 0 0] 38)) 69 (.int .i64 s)
  rw [World.size_alloc] at bN
  have hB0 : Below w.heap.size w ((w.alloc (.cells #[.slice none 0 0] 38)).alloc (.cells #[.int .i64 s] 69)) := ((Below.refl _ w).alloc (Nat.le_refl _) _).alloc (by simp) _
  refine wpIn_rangeFunc_ownF rfl h1 (gf := 90) (lb := #[.pointer (some ⟨w.heap.size + 1, 0, none⟩)]) rfl trivial (enters_of Tryz.func90 (by kernel_rfl) rfl)
    (states_stops (n - 1) (by omega) (w.heap.size + 1) s _ (by simp) bN.cell) kpB_t (kpB_b (by simp)) (Below.refl _ _) (fun _ => rfl)
    (fun pre W => (∃ v, Boxed W w.heap.size 38 v ∧ W.ownsRow w.heap.size 3 1 v pre.length (cellsOf pre) ∧ True) ∧ Boxed W (w.heap.size + 1) 69 (.int .i64 s) ∧ Below w.heap.size w W)
    (fun _ _ _ => False)
    (OwnFrom.and (Own.from (holdsRow_own w.heap.size w.heap.size 38 3 1 (fun pre => pre.length) (fun pre => cellsOf pre) (fun pre v => True)) _) (OwnFrom.and (Own.from (boxed_own (w.heap.size + 1) 69 (fun _ => .int .i64 s)) _) (ownFrom_below (Nat.le_refl _) (by simp; omega))))
    (fun _ _ _ _ _ hs _ _ => hs)
    ⟨⟨_, bO.alloc _, World.ownsRow_nil _ _ _ _, trivial⟩, bN, hB0⟩
    (fun x => { tmps := #[.int .i64 s, undef, .slice none 0 0, .bool false, .pointer (some ⟨w.heap.size, 0, none⟩), .int .i64 (x.val : Int), .int .i64 s, .bool true, .bool false, .int .i64 s, .func (.func 90) #[] #[.pointer (some ⟨w.heap.size + 1, 0, none⟩)], .int .i64 (x.val : Int), undef, undef, undef, undef, undef], defers := [] }) ?assign ?body ?done ?stop
  case assign =>
    intro l x W K hK
    simp only [encs]
    gi_wp2
    exact hK
  case body =>
    rintro l pre x W ⟨⟨v, hv, hrow, _⟩, hS, hB⟩ hlt
    have hc := hv.cell
    gi_wp2_with (gi_at_builtin; refine wpListIn_append_own _ rfl _ _ 38 rfl w.heap.size 3 i0 (.int .i64 0) 1 8 Tryz.underlying38 hi hz0 hz1 hz2 rfl (by decide) _ _ _ rfl (hrow.alloc _) ⟨W.heap.size, 0, none⟩ 1 1 [.int .i64 (x.val : Int)] rfl rfl (cell_one_new _ _ _) (by simp [Value.oneCell']) (by unfold maxLen; omega) (by omega) (by have := hB.size; simp; omega) ?_; intro v' w1 hown' hgrow _; obtain ⟨g', cap', rfl⟩ := ownsRow_succ hown'; obtain ⟨hv1, hv2, hr2, hk2, hb2⟩ := hv.appended (by decide) hrow hB.size (Nat.le_refl _) hown' hgrow; have hS1 := (hS.alloc (.cells #[.int .i64 (x.val : Int)] 3)).kept hgrow (hS.not_row (by decide) hrow); have hc1 := hv1.cell; have hf1 := hv1.frozen)
    have hS2 := hS1.other (B' := w.heap.size) (by omega) (.slice (some ⟨g', 0, none⟩) (pre.length + 1) cap')
    exact ⟨hk2, Eq.trans (show _ = _ from hS2) (Eq.symm (show _ = _ from hS)), ⟨_, hv2, by rw [cellsOf_snoc, List.length_append]; exact hr2, trivial⟩, hS2, hB.trans hb2⟩
  case done =>
    rintro D ys W hD rfl ⟨⟨v, hv, hrow, _⟩, hS, hB⟩ hK
    have hc := hv.cell
    gi_wp2
    refine ⟨by simp, .inl ⟨_, _, rfl, run_takeDeferred hK, ?_⟩⟩
    refine ⟨.tuple #[v, .bool true], ?_, v, rfl, ownsRow_putObj hrow _ hK rfl, hB.trans (belowK_b (w := w) (Nat.le_refl _) W D _ _ (by simp at hD; omega) hK rfl rfl)⟩
    exact results_tmp2 (fn := Tryz.f20) (t := 2) (u := 3) rfl _ _ _
  case stop =>
    rintro D c pre W _ _ h _
    exact h.elim

theorem si12yes (s : Int) (w : World) (hs : isSet s = true) :
    Calls Tryz.prog 20 #[.int .i64 s] w fun e W' => ∃ v, e = .returned (.tuple #[v, .bool true]) ∧ Holds W' w.heap.size v (upTo s 9) ∧ Below w.heap.size w W' :=
  callsIn_wide.1 (si12_in 3 (Nat.le_refl _) s w hs)
theorem si12no (s : Int) (w : World) (hs : isSet s = false) :
    Calls Tryz.prog 20 #[.int .i64 s] w fun e W' => e = .returned (.tuple #[.slice none 0 0, .bool false]) ∧ w = W' := by
  go_enter Tryz.func20, Tryz.ntmps20
  go_wp2_with (go_at_call 38; refine (sv24 _ _).mono ?_; rintro e w' ⟨rfl, rfl⟩)
  go_ret2
  exact ⟨rfl, rfl⟩
/-- Both are sets, and the first has no states but those of the second: the answer of both IsWithin. -/
def within (a b : Int) : Bool := isSet a && isSet b && (bits .andNot .i64 a b == 0)

theorem wi21 (a b : Int) (w : World) :
    Calls Tryz.prog 22 #[.int .i64 a, .int .i64 b] w fun e w' => e = .returned (.bool (within a b)) ∧ w = w' := by
  by_cases h1 : isSet a = true
  · by_cases h2 : isSet b = true
    · by_cases h3 : (bits .andNot .i64 a b == 0) = true
      · have h : within a b = true := by simp [within, h1, h2, h3]
        rw [h]; clear h
        go_enter Tryz.func22, Tryz.ntmps22
        go_wp2_with (go_at_call 38; refine (sv24 _ _).mono ?_; rintro e w' ⟨rfl, rfl⟩)
        go_ret
        exact ⟨rfl, rfl⟩
      · have h : within a b = false := by simp [within, h1, h2, h3]
        rw [h]; clear h
        go_enter Tryz.func22, Tryz.ntmps22
        go_wp2_with (go_at_call 38; refine (sv24 _ _).mono ?_; rintro e w' ⟨rfl, rfl⟩)
        go_ret
        exact ⟨rfl, rfl⟩
    · have h : within a b = false := by simp [within, h2]
      rw [h]; clear h
      go_enter Tryz.func22, Tryz.ntmps22
      go_wp2_with (go_at_call 38; refine (sv24 _ _).mono ?_; rintro e w' ⟨rfl, rfl⟩)
      go_ret
      exact ⟨rfl, rfl⟩
  · have h : within a b = false := by simp [within, h1]
    rw [h]; clear h
    go_enter Tryz.func22, Tryz.ntmps22
    go_wp2_with (go_at_call 38; refine (sv24 _ _).mono ?_; rintro e w' ⟨rfl, rfl⟩)
    go_ret
    exact ⟨rfl, rfl⟩
end Go.Proofs.YtngcdgnijfiocaaGreatDoor

