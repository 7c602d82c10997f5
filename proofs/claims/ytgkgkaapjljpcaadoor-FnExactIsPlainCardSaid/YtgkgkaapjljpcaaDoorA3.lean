/- Tests in the program: which texts are tests, where they hold, the map from a test's text to where it holds. The map from each test's text to where it holds, and what the program finds by it. The first test for a set, and the opposites of a test, in the program. -/
import Derived.Test.YtgkgkaapjljpcaaDoorA2
import Derived.Maps.OwnOps
import Derived.Maps.OwnSet
import Derived.StringKeys
namespace Go.Proofs.YtgkgkaapjljpcaaDoor
open Go.ChangeShapes Go.WideShapes Go.ChangeAt Go.RowKit Go.Shelf Go.Maps
set_option maxRecDepth 100000
attribute [local go_sem] Oper.semAt_some


set_option maxHeartbeats 1000000 in
theorem index56 (t : ByteArray) (W : World) (g cap : Nat) (hc : ∀ (j : Nat) p, tests[j]? = some p → W.cell? ⟨g, j, none⟩ = some (.string ⟨p.toArray⟩)) :
    Calls Tryd.prog 123 #[.slice (some ⟨g, 0, none⟩) 20 cap, .string t] W fun e w' => W = w' ∧ ((isTest t = true ∧ ∃ k : Nat, k < 20 ∧ e = .returned (.int .i64 (k : Int))) ∨ (isTest t = false ∧ e = .returned (.int .i64 (-1)))) := by
  have HC := Lib.hid hc
  clear hc
  go_enter Tryd.func123, Tryd.ntmps123
  go_wp2
  go_loop [8] (fun i => ∃ k : Nat, k ≤ 20 ∧ i = .int .i64 k ∧ (∀ j p, j < k → tests[j]? = some p → p ≠ t.toList)) (fun i => 20 - (intOf i).toNat)
  case atStart => exact ⟨0, by omega, rfl, fun j p hj => by omega⟩
  case round =>
    obtain ⟨k, hk, rfl, hno⟩ := hrel
    have HN := Lib.hid hno
    clear hno
    by_cases hlt : k < 20
    · obtain ⟨p, hp⟩ := tests_some k hlt
      have c1 := HC.out k p hp
      have HP := Lib.hid hp
      clear hp
      by_cases hq : p = t.toList
      · have he : (t.toList == p) = true := by simpa using hq.symm
        have HQ := Lib.hid hq
        clear hq
        go_wp2
        go_ret
        exact ⟨rfl, .inl ⟨decide_eq_true (by rw [← HQ.out]; exact some_mem HP.out), k, hlt, rfl⟩⟩
      · have he : (t.toList == p) = false := by simpa using fun h => hq h.symm
        have HQ := Lib.hid hq
        clear hq
        go_wp2
        go_round
        case rel =>
          exact ⟨k + 1, by omega, by go_num, fun j q hj hjq => by
            by_cases e : j = k
            · subst e; rw [HP.out] at hjq; cases hjq; exact HQ.out
            · exact HN.out j q (by omega) hjq⟩
        case measure => simp [intOf]; omega
    · obtain rfl : k = 20 := by omega
      go_wp2
      go_ret
      exact ⟨rfl, .inr ⟨decide_eq_false (fun hm => by
        obtain ⟨j, hj, e⟩ := tests_idx hm
        exact HN.out j _ hj e rfl), rfl⟩⟩

theorem contains38 (t : ByteArray) (W : World) (g cap : Nat) (hc : ∀ (j : Nat) p, tests[j]? = some p → W.cell? ⟨g, j, none⟩ = some (.string ⟨p.toArray⟩)) :
    Calls Tryd.prog 105 #[.slice (some ⟨g, 0, none⟩) 20 cap, .string t] W fun e w' => e = .returned (.bool (isTest t)) ∧ W = w' := by
  have HI := index56 t W g cap hc
  clear hc
  cases h : isTest t with
  | true =>
    have H := Lib.hid h
    clear h
    go_enter Tryd.func105, Tryd.ntmps105
    go_wp2_with (go_at_call 123; refine HI.mono ?_; rintro e W2 ⟨rfl, ⟨_, k, hk, rfl⟩ | ⟨hx, _⟩⟩; rotate_left; exact absurd H.out (by rw [hx]; decide))
    go_ret
    exact ⟨rfl, rfl⟩
  | false =>
    have H := Lib.hid h
    clear h
    go_enter Tryd.func105, Tryd.ntmps105
    go_wp2_with (go_at_call 123; refine HI.mono ?_; rintro e W2 ⟨rfl, ⟨hx, k, hk, rfl⟩ | ⟨_, rfl⟩⟩; exact absurd hx (by rw [H.out]; decide))
    go_ret
    exact ⟨rfl, rfl⟩

theorem valid15 (t : ByteArray) (w : World) {N : Nat} (hL : Laid N w) :
    Calls Tryd.prog 122 #[.string t] w fun e w' => e = .returned (.bool (isTest t)) ∧ Below w.heap.size w w' := by
  go_enter Tryd.func122, Tryd.ntmps122
  go_wp2_with (first
    | (go_at_call 87; refine (all27 _ hL).mono ?_; rintro e W1 ⟨v, rfl, hown, hb⟩; obtain ⟨g, cap, rfl, hgB, hgl, hcells⟩ := tests_at hown; have HC := Lib.hid hcells; clear hcells hown)
    | (go_at_call 105; refine (contains38 t _ g cap HC.out).mono ?_; rintro e W2 ⟨rfl, rfl⟩))
  go_ret
  exact ⟨rfl, hb⟩


theorem has_all : (tests.all fun p => (List.range 9).all fun k => hasB (whereL p) k == holdsL p k) = true := by decide +kernel
theorem has_where {p : List UInt8} (h : p ∈ tests) {k : Nat} (hk : k ≤ 8) : hasB (whereL p) k = holdsL p k := by
  have h1 := List.all_eq_true.1 has_all p h
  have h2 := List.all_eq_true.1 h1 k (List.mem_range.2 (by omega))
  simpa using h2

end Go.Proofs.YtgkgkaapjljpcaaDoor

namespace Go.Proofs.YtgkgkaapjljpcaaDoor
open Go.ChangeShapes Go.WideShapes Go.ChangeAt Go.RowKit Go.Shelf Go.Maps
set_option maxRecDepth 100000
attribute [local go_sem] Oper.semAt_some

theorem lawStr : Keyed Tryd.prog 9 := string_keyed Tryd.underlying9
theorem zero47 (w : World) : (zeroValue 59).run Tryd.prog w = .ok (.int .i64 0) w := by kernel_rfl

/-- The map after a list of tests, as it reads. -/
def mapD (l : List (List UInt8)) : DataW Unit := l.foldl (fun D p => D.put (.string p) (.lit (.int .i64 (whereL p)))) (.map [])
theorem mapD_snoc (l : List (List UInt8)) (p : List UInt8) : mapD (l ++ [p]) = (mapD l).put (.string p) (.lit (.int .i64 (whereL p))) := by simp [mapD, List.foldl_append]
theorem fold_map (g : List UInt8 → DataW Unit) : ∀ (l : List (List UInt8)) (D : DataW Unit), IsMap D → IsMap (l.foldl (fun D p => D.put (.string p) (g p)) D)
  | [], _, h => h
  | _ :: r, _, h => fold_map g r _ (h.put _ _)
theorem isKey (q : List UInt8) : WideAt.IsKeyLit (.string q) := trivial
theorem fold_at (g : List UInt8 → DataW Unit) (q : List UInt8) (z : DataW Unit) : ∀ (l : List (List UInt8)) (D : DataW Unit), IsMap D →
    (l.foldl (fun D p => D.put (.string p) (g p)) D).atKey (.string q) z = if q ∈ l then g q else D.atKey (.string q) z
  | [], D, _ => by simp
  | x :: r, D, h => by
    have ih := fold_at g q z r (D.put (.string x) (g x)) (h.put _ _)
    rw [List.foldl_cons, ih]
    by_cases hr : q ∈ r
    · rw [if_pos hr, if_pos (by simp [hr])]
    · rw [if_neg hr]
      by_cases hx : q = x
      · subst hx
        rw [if_pos (by simp), atKey_put_same h (isKey _)]
      · rw [if_neg (by simp [hx, hr]), atKey_put_other (by intro e; injection e with e; exact hx e)]
theorem fold_has (g : List UInt8 → DataW Unit) (q : List UInt8) : ∀ (l : List (List UInt8)) (D : DataW Unit), IsMap D →
    has (l.foldl (fun D p => D.put (.string p) (g p)) D) (.string q) = (decide (q ∈ l) || has D (.string q))
  | [], D, _ => by simp
  | x :: r, D, h => by
    have ih := fold_has g q r (D.put (.string x) (g x)) (h.put _ _)
    rw [List.foldl_cons, ih]
    by_cases hx : q = x
    · subst hx
      rw [has_put_same h (isKey _)]
      simp
    · rw [has_put_other (by intro e; injection e with e; exact hx e)]
      simp [hx]
theorem map_at {q : List UInt8} (h : q ∈ tests) (z : DataW Unit) : (mapD tests).atKey (.string q) z = .lit (.int .i64 (whereL q)) := by
  unfold mapD
  rw [fold_at (fun p => .lit (.int .i64 (whereL p))) q z tests _ isMap_empty, if_pos h]
theorem map_has (q : List UInt8) : has (mapD tests) (.string q) = decide (q ∈ tests) := by
  unfold mapD
  rw [fold_has (fun p => .lit (.int .i64 (whereL p))) q tests _ isMap_empty]
  simp [has_eq]

theorem where_wf : (tests.all fun p => (Lit.int .i64 (whereL p)).wf) = true := by decide +kernel
theorem where_wf' {p : List UInt8} (h : p ∈ tests) : (Lit.int .i64 (whereL p)).wf = true := List.all_eq_true.1 where_wf p h
theorem size_le : (tests.all fun p => decide (p.toArray.size ≤ 3)) = true := by decide
theorem test_size {p : List UInt8} (h : p ∈ tests) : (⟨p.toArray⟩ : ByteArray).size ≤ maxLen := by
  have := of_decide_eq_true (List.all_eq_true.1 size_le p h)
  unfold maxLen
  show p.toArray.size ≤ _
  omega
theorem key_test {p : List UInt8} (h : p ∈ tests) : keyOf Tryd.prog 9 (.string ⟨p.toArray⟩) = some (.string p) := Go.WideMaps.keyOf_string_mk Tryd.underlying9 (test_size h)

/-- A map of the program that holds where each of the tests holds. -/
def ByTest (W : World) (b k : Nat) : Prop := W.ownsMap Tryd.prog 9 (plainElem Tryd.prog 59) b k (mapD (tests.take k))

end Go.Proofs.YtgkgkaapjljpcaaDoor

namespace Go.Proofs.YtgkgkaapjljpcaaDoor
open Go.ChangeShapes Go.WideShapes Go.ChangeAt Go.RowKit Go.Shelf Go.Maps
set_option maxRecDepth 100000
attribute [local go_sem] Oper.semAt_some

theorem take_all : tests.take 20 = tests := List.take_of_length_le (by rw [tests_len]; exact Nat.le_refl _)

theorem ByTest.below {W W' : World} {b : Nat} (h : ByTest W b 20) (hb : Below W.heap.size W W') : ByTest W' b 20 :=
  World.ownsMap.kept (row := none) h ⟨hb.os, hb.tape, hb.output, hb.size, fun i hi _ => hb.block i hi⟩ (by simp)


end Go.Proofs.YtgkgkaapjljpcaaDoor

