/- Tests in the program: which texts are tests, where they hold, the map from a test's text to where it holds. -/
import Derived.Test.YtemilnkglkpnjaaDoorT7
import Derived.Maps.OwnOps
import Derived.Maps.OwnSet
import Derived.StringKeys
namespace Go.Proofs.YtemilnkglkpnjaaDoor
open Go.ChangeShapes Go.WideShapes Go.ChangeAt Go.RowKit Go.Shelf Go.Maps
set_option maxRecDepth 100000
attribute [local go_sem] Oper.semAt_some


set_option maxHeartbeats 1000000 in
theorem index56 (t : ByteArray) (W : World) (g cap : Nat) (hc : ∀ (j : Nat) p, tests[j]? = some p → W.cell? ⟨g, j, none⟩ = some (.string ⟨p.toArray⟩)) :
    Calls Tryd.prog 95 #[.slice (some ⟨g, 0, none⟩) 20 cap, .string t] W fun e w' => W = w' ∧ ((isTest t = true ∧ ∃ k : Nat, k < 20 ∧ e = .returned (.int .i64 (k : Int))) ∨ (isTest t = false ∧ e = .returned (.int .i64 (-1)))) := by
  have HC := Lib.hid hc
  clear hc
  go_enter Tryd.func95, Tryd.ntmps95
  go_wp2
  go_loop [8] (fun i => ∃ k : Nat, k ≤ 20 ∧ i = .int .i64 k ∧ (∀ j p, j < k → tests[j]? = some p → p ≠ t.toList)) (fun i => 20 - (intOf i).toNat)
  case atStart => exact ⟨0, by omega, rfl, fun j p hj => by omega⟩
  case round =>
    obtain ⟨k, hk, rfl, hno⟩ := hrel
    have HN := Lib.hid hno
    clear hno
    by_cases hlt : k < 20
    · obtain ⟨p, hp⟩ := tests_some k hlt
      have c1 := HC.out k p hp
      have HP := Lib.hid hp
      clear hp
      by_cases hq : p = t.toList
      · have he : (t.toList == p) = true := by simpa using hq.symm
        have HQ := Lib.hid hq
        clear hq
        go_wp2
        go_ret
        exact ⟨rfl, .inl ⟨decide_eq_true (by rw [← HQ.out]; exact some_mem HP.out), k, hlt, rfl⟩⟩
      · have he : (t.toList == p) = false := by simpa using fun h => hq h.symm
        have HQ := Lib.hid hq
        clear hq
        go_wp2
        go_round
        case rel =>
          exact ⟨k + 1, by omega, by go_num, fun j q hj hjq => by
            by_cases e : j = k
            · subst e; rw [HP.out] at hjq; cases hjq; exact HQ.out
            · exact HN.out j q (by omega) hjq⟩
        case measure => simp [intOf]; omega
    · obtain rfl : k = 20 := by omega
      go_wp2
      go_ret
      exact ⟨rfl, .inr ⟨decide_eq_false (fun hm => by
        obtain ⟨j, hj, e⟩ := tests_idx hm
        exact HN.out j _ hj e rfl), rfl⟩⟩

theorem contains38 (t : ByteArray) (W : World) (g cap : Nat) (hc : ∀ (j : Nat) p, tests[j]? = some p → W.cell? ⟨g, j, none⟩ = some (.string ⟨p.toArray⟩)) :
    Calls Tryd.prog 84 #[.slice (some ⟨g, 0, none⟩) 20 cap, .string t] W fun e w' => e = .returned (.bool (isTest t)) ∧ W = w' := by
  have HI := index56 t W g cap hc
  clear hc
  cases h : isTest t with
  | true =>
    have H := Lib.hid h
    clear h
    go_enter Tryd.func84, Tryd.ntmps84
    go_wp2_with (go_at_call 95; refine HI.mono ?_; rintro e W2 ⟨rfl, ⟨_, k, hk, rfl⟩ | ⟨hx, _⟩⟩; rotate_left; exact absurd H.out (by rw [hx]; decide))
    go_ret
    exact ⟨rfl, rfl⟩
  | false =>
    have H := Lib.hid h
    clear h
    go_enter Tryd.func84, Tryd.ntmps84
    go_wp2_with (go_at_call 95; refine HI.mono ?_; rintro e W2 ⟨rfl, ⟨hx, k, hk, rfl⟩ | ⟨_, rfl⟩⟩; exact absurd hx (by rw [H.out]; decide))
    go_ret
    exact ⟨rfl, rfl⟩

theorem valid15 (t : ByteArray) (w : World) {N : Nat} (hL : Laid N w) :
    Calls Tryd.prog 85 #[.string t] w fun e w' => e = .returned (.bool (isTest t)) ∧ Below w.heap.size w w' := by
  go_enter Tryd.func85, Tryd.ntmps85
  go_wp2_with (first
    | (go_at_call 64; refine (all27 _ hL).mono ?_; rintro e W1 ⟨v, rfl, hown, hb⟩; obtain ⟨g, cap, rfl, hgB, hgl, hcells⟩ := tests_at hown; have HC := Lib.hid hcells; clear hcells hown)
    | (go_at_call 84; refine (contains38 t _ g cap HC.out).mono ?_; rintro e W2 ⟨rfl, rfl⟩))
  go_ret
  exact ⟨rfl, hb⟩


theorem has_all : (tests.all fun p => (List.range 9).all fun k => hasB (whereL p) k == holdsL p k) = true := by decide +kernel
theorem has_where {p : List UInt8} (h : p ∈ tests) {k : Nat} (hk : k ≤ 8) : hasB (whereL p) k = holdsL p k := by
  have h1 := List.all_eq_true.1 has_all p h
  have h2 := List.all_eq_true.1 h1 k (List.mem_range.2 (by omega))
  simpa using h2

end Go.Proofs.YtemilnkglkpnjaaDoor

