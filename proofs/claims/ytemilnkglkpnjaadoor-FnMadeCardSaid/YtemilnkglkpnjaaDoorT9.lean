/- The map from each test's text to where it holds, and what the program finds by it. -/
import Derived.Test.YtemilnkglkpnjaaDoorT8
namespace Go.Proofs.YtemilnkglkpnjaaDoor
open Go.ChangeShapes Go.WideShapes Go.ChangeAt Go.RowKit Go.Shelf Go.Maps
set_option maxRecDepth 100000
attribute [local go_sem] Oper.semAt_some

theorem lawStr : Keyed Tryd.prog 9 := string_keyed Tryd.underlying9
theorem zero47 (w : World) : (zeroValue 89).run Tryd.prog w = .ok (.int .i64 0) w := by kernel_rfl

/-- The map after a list of tests, as it reads. -/
def mapD (l : List (List UInt8)) : DataW Unit := l.foldl (fun D p => D.put (.string p) (.lit (.int .i64 (whereL p)))) (.map [])
theorem mapD_snoc (l : List (List UInt8)) (p : List UInt8) : mapD (l ++ [p]) = (mapD l).put (.string p) (.lit (.int .i64 (whereL p))) := by simp [mapD, List.foldl_append]
theorem fold_map (g : List UInt8 → DataW Unit) : ∀ (l : List (List UInt8)) (D : DataW Unit), IsMap D → IsMap (l.foldl (fun D p => D.put (.string p) (g p)) D)
  | [], _, h => h
  | _ :: r, _, h => fold_map g r _ (h.put _ _)
theorem isKey (q : List UInt8) : WideAt.IsKeyLit (.string q) := trivial
theorem fold_at (g : List UInt8 → DataW Unit) (q : List UInt8) (z : DataW Unit) : ∀ (l : List (List UInt8)) (D : DataW Unit), IsMap D →
    (l.foldl (fun D p => D.put (.string p) (g p)) D).atKey (.string q) z = if q ∈ l then g q else D.atKey (.string q) z
  | [], D, _ => by simp
  | x :: r, D, h => by
    have ih := fold_at g q z r (D.put (.string x) (g x)) (h.put _ _)
    rw [List.foldl_cons, ih]
    by_cases hr : q ∈ r
    · rw [if_pos hr, if_pos (by simp [hr])]
    · rw [if_neg hr]
      by_cases hx : q = x
      · subst hx
        rw [if_pos (by simp), atKey_put_same h (isKey _)]
      · rw [if_neg (by simp [hx, hr]), atKey_put_other (by intro e; injection e with e; exact hx e)]
theorem fold_has (g : List UInt8 → DataW Unit) (q : List UInt8) : ∀ (l : List (List UInt8)) (D : DataW Unit), IsMap D →
    has (l.foldl (fun D p => D.put (.string p) (g p)) D) (.string q) = (decide (q ∈ l) || has D (.string q))
  | [], D, _ => by simp
  | x :: r, D, h => by
    have ih := fold_has g q r (D.put (.string x) (g x)) (h.put _ _)
    rw [List.foldl_cons, ih]
    by_cases hx : q = x
    · subst hx
      rw [has_put_same h (isKey _)]
      simp
    · rw [has_put_other (by intro e; injection e with e; exact hx e)]
      simp [hx]
theorem map_at {q : List UInt8} (h : q ∈ tests) (z : DataW Unit) : (mapD tests).atKey (.string q) z = .lit (.int .i64 (whereL q)) := by
  unfold mapD
  rw [fold_at (fun p => .lit (.int .i64 (whereL p))) q z tests _ isMap_empty, if_pos h]
theorem map_has (q : List UInt8) : has (mapD tests) (.string q) = decide (q ∈ tests) := by
  unfold mapD
  rw [fold_has (fun p => .lit (.int .i64 (whereL p))) q tests _ isMap_empty]
  simp [has_eq]

theorem where_wf : (tests.all fun p => (Lit.int .i64 (whereL p)).wf) = true := by decide +kernel
theorem where_wf' {p : List UInt8} (h : p ∈ tests) : (Lit.int .i64 (whereL p)).wf = true := List.all_eq_true.1 where_wf p h
theorem size_le : (tests.all fun p => decide (p.toArray.size ≤ 3)) = true := by decide
theorem test_size {p : List UInt8} (h : p ∈ tests) : (⟨p.toArray⟩ : ByteArray).size ≤ maxLen := by
  have := of_decide_eq_true (List.all_eq_true.1 size_le p h)
  unfold maxLen
  show p.toArray.size ≤ _
  omega
theorem key_test {p : List UInt8} (h : p ∈ tests) : keyOf Tryd.prog 9 (.string ⟨p.toArray⟩) = some (.string p) := Go.WideMaps.keyOf_string_mk Tryd.underlying9 (test_size h)

/-- A map of the program that holds where each of the tests holds. -/
def ByTest (W : World) (b k : Nat) : Prop := W.ownsMap Tryd.prog 9 (plainElem Tryd.prog 89) b k (mapD (tests.take k))

set_option maxHeartbeats 2000000 in
theorem byTest45 (w : World) {N : Nat} (hL : Laid N w) :
    Calls Tryd.prog 63 #[] w fun e w' => e = .returned (.map (some w.heap.size)) ∧ ByTest w' w.heap.size 20 ∧ Below w.heap.size w w' ∧ w.heap.size < w'.heap.size := by
  have hmm := @run_makeMap Tryd.prog
  have h0 : (w.alloc (.map #[] 0)).ownsMap Tryd.prog 9 (plainElem Tryd.prog 89) w.heap.size 0 (mapD []) := World.ownsMap_made w Tryd.prog 9 _
  have hA : Below w.heap.size w (w.alloc (.map #[] 0)) := (Below.refl _ _).alloc (Nat.le_refl _) _
  have hL0 : Laid N (w.alloc (.map #[] 0)) := hL.below hA hL.lt
  have ha : (w.alloc (.map #[] 0)).heap.size = w.heap.size + 1 := by simp
  go_enter Tryd.func63, Tryd.ntmps63
  go_wp2_with (go_at_call 64; refine (all27 _ hL0).mono ?_; rintro e W1 ⟨v, rfl, hown, hb⟩; obtain ⟨g, cap, rfl, hgB, hgl, hcells⟩ := tests_at hown; have HC := Lib.hid hcells; clear hcells hown)
  have hm1 : W1.ownsMap Tryd.prog 9 (plainElem Tryd.prog 89) w.heap.size 0 (mapD []) := h0.kept (row := none) ⟨hb.os, hb.tape, hb.output, hb.size, fun i hi _ => hb.block i hi⟩ (by simp)
  have s1 := hb.size
  have hB1 : Below w.heap.size w W1 := hA.trans (hb.mono (by omega))
  have hgW : w.heap.size < g := by omega
  clear hmm h0
  go_loopw [7] (fun i wr => ∃ k : Nat, k ≤ 20 ∧ i = .int .i64 k ∧ ByTest wr w.heap.size k ∧ Below w.heap.size w wr ∧ W1.heap.size ≤ wr.heap.size ∧ ∀ (j : Nat) p, tests[j]? = some p → wr.cell? ⟨g, j, none⟩ = some (.string ⟨p.toArray⟩)) (fun i _ => 20 - (intOf i).toNat)
  case atStart => exact ⟨0, by omega, rfl, hm1, hB1, Nat.le_refl _, HC.out⟩
  case round =>
    obtain ⟨k, hk, rfl, hM, hB, hS, hC⟩ := hrel
    have HC2 := Lib.hid hC
    clear hC
    by_cases hlt : k < 20
    · obtain ⟨p, hp⟩ := tests_some k hlt
      have c1 := HC2.out k p hp
      have HP := Lib.hid hp
      have hx : mapD (tests.take (k + 1)) = (mapD (tests.take k)).put (.string p) (.lit (.int .i64 (whereL p))) := by rw [List.take_add_one, hp]; exact mapD_snoc _ _
      have HX := Lib.hid hx
      clear hp hx
      go_wp2_with (first
        | (go_at_call 79; refine (st34 (some_mem HP.out) _).mono ?_; rintro e W2 ⟨rfl, hb2⟩; have hM2 := hM.kept (row := none) ⟨hb2.os, hb2.tape, hb2.output, hb2.size, fun i hi _ => hb2.block i hi⟩ (by simp))
        | (at_mapUpdate; refine wpList_mapUpdate_own _ rfl _ _ _ 87 rfl 9 89 lawStr Tryd.underlying87 _ w.heap.size k _ rfl hM2 (by unfold maxLen; omega) _ _ _ rfl rfl (key_test (some_mem HP.out)) _ [] (plainElem_int Tryd.underlying89 (where_wf' (some_mem HP.out))) ?_; intro w3 hM3 hg3))
      go_roundw
      case rel =>
        exact ⟨k + 1, by omega, by go_num, by unfold ByTest; rw [HX.out]; exact hM3, (hB.trans (hb2.mono hB.size)).grown hg3 (Nat.le_trans hB.size hb2.size) (fun j e => by cases e; exact Nat.le_refl _), Nat.le_trans hS (Nat.le_trans hb2.size hg3.size), fun j q hq => by
          refine (hg3.cell (a := ⟨g, j, none⟩) ((hb2.cell (p := ⟨g, j, none⟩) (Nat.lt_of_lt_of_le hgl hS)).trans (HC2.out j q hq)) ?_)
          intro e; exact Nat.ne_of_gt hgW (Option.some.inj e)⟩
      case measure => simp [intOf]; omega
    · obtain rfl : k = 20 := by omega
      go_wp2
      go_ret
      exact ⟨rfl, hM, hB, by omega⟩
end Go.Proofs.YtemilnkglkpnjaaDoor

