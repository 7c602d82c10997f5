/- The program's StatesIn and CountStates over the iterator, and their models: one list. -/
import Derived.Test.YtkffgojnicjkmaaD
namespace Go.Proofs.Ytkffgojnicjkmaa
open Go.ChangeShapes Go.WideShapes Go.ChangeAt Go.RowKit Go.Shelf

attribute [local go_sem] Oper.semAt_some

theorem Try.info24 : (Try.prog.info? 24).map (fun i => (i.zero, i.size, i.bytes)) = some (some (.slice none 0 0), 1, 24) := by kernel_rfl

set_option maxRecDepth 100000 in
set_option maxHeartbeats 2000000 in
theorem si12_in (n : Nat) (hn : 3 ≤ n) (s : Int) (w : World) (hs : isSet s = true) :
    CallsIn Fence.wide n Try.prog 6 #[.int .i64 s] w fun e W' => ∃ v, e = .returned (.tuple #[v, .bool true]) ∧ Holds W' w.heap.size v (upTo s 9) ∧ Below w.heap.size w W' := by
  have h1 : 1 ≤ n := by omega
  obtain ⟨i0, hi, hz0, hz1, hz2⟩ := info_parts Try.info3
  refine callsIn_of_wp_marks Try.func6 rfl trivial ?_ rfl
  simp only [Try.ntmps6, List.size_toArray, List.length_cons, List.length_nil, Nat.reduceAdd, Nat.reduceSub, Array.replicate_succ, Array.replicate_zero, List.push_toArray, List.append_toArray, List.nil_append, List.cons_append]
  gi_wp2_with (refine ⟨trivial, ?_⟩; first | (gi_at_call 18; refine (callsIn_wide.2 (sv24 _ _)).mono ?_; rintro e w' ⟨rfl, rfl⟩) | (gi_at_call 22; refine (maker_in (n - 1) s _).mono ?_; rintro e w' ⟨rfl, rfl⟩))
  have bO := Boxed.new w 24 (.slice none 0 0)
  have bN := Boxed.new (w.alloc (.cells #[.slice none 0 0] 24)) 44 (.int .i64 s)
  rw [World.size_alloc] at bN
  have hB0 : Below w.heap.size w ((w.alloc (.cells #[.slice none 0 0] 24)).alloc (.cells #[.int .i64 s] 44)) := ((Below.refl _ w).alloc (Nat.le_refl _) _).alloc (by simp) _
  refine wpIn_rangeFunc_ownF rfl h1 (gf := 32) (lb := #[.pointer (some ⟨w.heap.size + 1, 0, none⟩)]) rfl trivial (enters_of Try.func32 (by kernel_rfl) rfl)
    (states_stops (n - 1) (by omega) (w.heap.size + 1) s _ (by simp) bN.cell) kpB_t (kpB_b (by simp)) (Below.refl _ _) (fun _ => rfl)
    (fun pre W => (∃ v, Boxed W w.heap.size 24 v ∧ W.ownsRow w.heap.size 3 1 v pre.length (cellsOf pre) ∧ True) ∧ Boxed W (w.heap.size + 1) 44 (.int .i64 s) ∧ Below w.heap.size w W)
    (fun _ _ _ => False)
    (OwnFrom.and (Own.from (holdsRow_own w.heap.size w.heap.size 24 3 1 (fun pre => pre.length) (fun pre => cellsOf pre) (fun pre v => True)) _) (OwnFrom.and (Own.from (boxed_own (w.heap.size + 1) 44 (fun _ => .int .i64 s)) _) (ownFrom_below (Nat.le_refl _) (by simp; omega))))
    (fun _ _ _ _ _ hs _ _ => hs)
    ⟨⟨_, bO.alloc _, World.ownsRow_nil _ _ _ _, trivial⟩, bN, hB0⟩
    (fun x => { tmps := #[.int .i64 s, undef, .slice none 0 0, .bool false, .pointer (some ⟨w.heap.size, 0, none⟩), .int .i64 (x.val : Int), .int .i64 s, .bool true, .bool false, .int .i64 s, .func (.func 32) #[] #[.pointer (some ⟨w.heap.size + 1, 0, none⟩)], .int .i64 (x.val : Int), undef, undef, undef, undef, undef], defers := [] }) ?assign ?body ?done ?stop
  case assign =>
    intro l x W K hK
    simp only [encs]
    gi_wp2
    exact hK
  case body =>
    rintro l pre x W ⟨⟨v, hv, hrow, _⟩, hS, hB⟩ hlt
    have hc := hv.cell
    gi_wp2_with (gi_at_builtin; refine wpListIn_append_own _ rfl _ _ 24 rfl w.heap.size 3 i0 (.int .i64 0) 1 8 Try.underlying24 hi hz0 hz1 hz2 rfl (by decide) _ _ _ rfl (hrow.alloc _) ⟨W.heap.size, 0, none⟩ 1 1 [.int .i64 (x.val : Int)] rfl rfl (cell_one_new _ _ _) (by simp [Value.oneCell']) (by unfold maxLen; omega) (by omega) (by have := hB.size; simp; omega) ?_; intro v' w1 hown' hgrow _; obtain ⟨g', cap', rfl⟩ := ownsRow_succ hown'; obtain ⟨hv1, hv2, hr2, hk2, hb2⟩ := hv.appended (by decide) hrow hB.size (Nat.le_refl _) hown' hgrow; have hS1 := (hS.alloc (.cells #[.int .i64 (x.val : Int)] 3)).kept hgrow (hS.not_row (by decide) hrow); have hc1 := hv1.cell; have hf1 := hv1.frozen)
    have hS2 := hS1.other (B' := w.heap.size) (by omega) (.slice (some ⟨g', 0, none⟩) (pre.length + 1) cap')
    exact ⟨hk2, Eq.trans (show _ = _ from hS2) (Eq.symm (show _ = _ from hS)), ⟨_, hv2, by rw [cellsOf_snoc, List.length_append]; exact hr2, trivial⟩, hS2, hB.trans hb2⟩
  case done =>
    rintro D ys W hD rfl ⟨⟨v, hv, hrow, _⟩, hS, hB⟩ hK
    have hc := hv.cell
    gi_wp2
    refine ⟨by simp, .inl ⟨_, _, rfl, run_takeDeferred hK, ?_⟩⟩
    refine ⟨.tuple #[v, .bool true], ?_, v, rfl, ownsRow_putObj hrow _ hK rfl, hB.trans (belowK_b (w := w) (Nat.le_refl _) W D _ _ (by simp at hD; omega) hK rfl rfl)⟩
    exact results_tmp2 (fn := Try.f6) (t := 2) (u := 3) rfl _ _ _
  case stop =>
    rintro D c pre W _ _ h _
    exact h.elim

theorem si12yes (s : Int) (w : World) (hs : isSet s = true) :
    Calls Try.prog 6 #[.int .i64 s] w fun e W' => ∃ v, e = .returned (.tuple #[v, .bool true]) ∧ Holds W' w.heap.size v (upTo s 9) ∧ Below w.heap.size w W' :=
  callsIn_wide.1 (si12_in 3 (Nat.le_refl _) s w hs)
theorem si12no (s : Int) (w : World) (hs : isSet s = false) :
    Calls Try.prog 6 #[.int .i64 s] w fun e W' => e = .returned (.tuple #[.slice none 0 0, .bool false]) ∧ w = W' := by
  go_enter Try.func6, Try.ntmps6
  go_wp2_with (go_at_call 18; refine (sv24 _ _).mono ?_; rintro e w' ⟨rfl, rfl⟩)
  go_ret2
  exact ⟨rfl, rfl⟩
theorem cs14yes (s : Int) (w : World) (hs : isSet s = true) :
    Calls Try.prog 8 #[.int .i64 s] w fun e W' => e = .returned (.int .i64 ((upTo s 9).length : Int)) ∧ Below w.heap.size w W' :=
  callsIn_wide.1 (cs14_in 3 (Nat.le_refl _) s w hs)
theorem cs14no (s : Int) (w : World) (hs : isSet s = false) :
    Calls Try.prog 8 #[.int .i64 s] w fun e W' => e = .returned (.int .i64 (-1)) ∧ w = W' := by
  go_enter Try.func8, Try.ntmps8
  go_wp2_with (go_at_call 18; refine (sv24 _ _).mono ?_; rintro e w' ⟨rfl, rfl⟩)
  go_ret
  exact ⟨rfl, rfl⟩

/-! ### The models -/
theorem holds_slice {W : World} {B : Nat} {v : Value} {l : List (Fin 9)} (h : Holds W B v l) : ∃ a cap, v = .slice a l.length cap := by
  rcases h.2 with ⟨rfl, h0⟩ | ⟨g, cap, cur, rfl, _⟩
  · exact ⟨none, 0, by rw [h0]⟩
  · exact ⟨_, cap, rfl⟩

theorem cs20yes (s : Int) (w : World) (hs : isSet s = true) :
    Calls Try.prog 14 #[.int .i64 s] w fun e W' => e = .returned (.int .i64 ((upTo s 9).length : Int)) ∧ Below w.heap.size w W' := by
  go_enter Try.func14, Try.ntmps14
  go_wp2_with (first | (go_at_call 23; refine (sv25 _ _).mono ?_; rintro e w' ⟨rfl, rfl⟩) | (go_at_call 24; refine (st35 _ _).mono ?_; rintro e w' ⟨v, rfl, ho, hB⟩; obtain ⟨a, cap, rfl⟩ := holds_slice ho))
  go_ret
  exact ⟨rfl, hB⟩
theorem cs20no (s : Int) (w : World) (hs : isSet s = false) :
    Calls Try.prog 14 #[.int .i64 s] w fun e W' => e = .returned (.int .i64 (-1)) ∧ w = W' := by
  go_enter Try.func14, Try.ntmps14
  go_wp2_with (go_at_call 23; refine (sv25 _ _).mono ?_; rintro e w' ⟨rfl, rfl⟩)
  go_ret
  exact ⟨rfl, rfl⟩
theorem si13yes (s : Int) (w : World) (hs : isSet s = true) :
    Calls Try.prog 7 #[.int .i64 s] w fun e W' => ∃ v, e = .returned (.tuple #[v, .bool true]) ∧ Holds W' w.heap.size v (upTo s 9) ∧ Below w.heap.size w W' := by
  go_enter Try.func7, Try.ntmps7
  go_wp2_with (first | (go_at_call 23; refine (sv25 _ _).mono ?_; rintro e w' ⟨rfl, rfl⟩) | (go_at_call 24; refine (st35 _ _).mono ?_; rintro e w' ⟨v, rfl, ho, hB⟩))
  go_ret2
  exact ⟨v, rfl, ho, hB⟩
theorem si13no (s : Int) (w : World) (hs : isSet s = false) :
    Calls Try.prog 7 #[.int .i64 s] w fun e W' => ∃ v, e = .returned (.tuple #[v, .bool false]) ∧ Holds W' w.heap.size v [] ∧ Below w.heap.size w W' := by
  go_enter Try.func7, Try.ntmps7
  go_wp2_with (go_at_call 23; refine (sv25 _ _).mono ?_; rintro e w' ⟨rfl, rfl⟩)
  go_ret2
  exact ⟨_, rfl, World.ownsRow_made w #[] 0 (Nat.le_refl _) (by unfold maxLen; omega) rfl, (Below.refl _ _).alloc (Nat.le_refl _) _⟩

end Go.Proofs.Ytkffgojnicjkmaa

