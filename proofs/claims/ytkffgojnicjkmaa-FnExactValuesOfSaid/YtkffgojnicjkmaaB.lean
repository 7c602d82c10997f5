/- The walks of StateOf, and of the laws on StateOf and ValuesOf: each answers true at every number and writes nothing that was there. -/
import Derived.Test.YtkffgojnicjkmaaA
import Derived.ChangeKeysEq
namespace Go.Proofs.Ytkffgojnicjkmaa
open Go.ChangeShapes Go.WideShapes Go.ChangeAt Go.RowKit

/-! ### StateOf -/
def stateOf (x y : Int) : Int := if (0 ≤ x ∧ x ≤ 2) ∧ (0 ≤ y ∧ y ≤ 2) then 3 * x + y else 0
def stateOk (x y : Int) : Bool := decide ((0 ≤ x ∧ x ≤ 2) ∧ (0 ≤ y ∧ y ≤ 2))

theorem eqArr (a b c e : Int) (w : World) : (Op.equalIn 10000 50 (.agg #[.int .i64 a, .int .i64 b]) (.agg #[.int .i64 c, .int .i64 e])).run Try.prog w = .ok (a == c && b == e) w := by
  obtain ⟨i, hi⟩ : ∃ i, Try.prog.info? 3 = some i := by
    have h : (Try.prog.info? 3).isSome = true := by kernel_rfl
    exact Option.isSome_iff_exists.1 h
  rw [show (10000 : Nat) = 9999 + 1 from rfl, run_equalIn_array w 9999 (n := 2) (e := 3) _ _ (by kernel_rfl) hi]
  have u3 : ∀ (x y : Int) (w : World), (Op.equalIn 9999 3 (.int .i64 x) (.int .i64 y)).run Try.prog w = .ok (x == y) w := fun x y w => run_equalIn_int w 9998 3 .i64 .i64 x y Try.underlying3
  have p0 : ∀ (x y : Int) (w : World), (part 3 #[.int .i64 x, .int .i64 y] 0).run Try.prog w = .ok (.int .i64 x) w := fun x y w => by kernel_rfl
  have p1 : ∀ (x y : Int) (w : World), (part 3 #[.int .i64 x, .int .i64 y] 1).run Try.prog w = .ok (.int .i64 y) w := fun x y w => by kernel_rfl
  have hc : Try.prog.cellsOf 3 = 1 := by kernel_rfl
  rw [hc]
  simp only [Op.eqItems, List.range_succ, List.range_zero, List.nil_append, List.cons_append, Sem.run_bind, Nat.zero_mul, Nat.one_mul, p0, u3, Result.andThen_ok]
  cases h : (a == c) <;> cases h' : (b == e) <;> simp [p1, u3, h']

theorem eqNo (a b c e : Int) (h : ¬ (c = a ∧ e = b)) (w : World) : (Op.equalIn 10000 50 (.agg #[.int .i64 a, .int .i64 b]) (.agg #[.int .i64 c, .int .i64 e])).run Try.prog w = .ok false w := by
  rw [eqArr]
  have : (a == c && b == e) = false := by
    rw [Bool.eq_false_iff]; intro h'; simp at h'; exact h ⟨h'.1.symm, h'.2.symm⟩
  rw [this]
theorem eqYes (a b : Int) (w : World) : (Op.equalIn 10000 50 (.agg #[.int .i64 a, .int .i64 b]) (.agg #[.int .i64 a, .int .i64 b])).run Try.prog w = .ok true w := by
  rw [eqArr]; simp

theorem at_hit (k : Nat) (h : k < 9) : stateOf ((k : Int) / 3) ((k : Int) % 3) = k ∧ stateOk ((k : Int) / 3) ((k : Int) % 3) = true := by
  unfold stateOf stateOk
  have h1 : (0 ≤ (k : Int) / 3 ∧ (k : Int) / 3 ≤ 2) ∧ (0 ≤ (k : Int) % 3 ∧ (k : Int) % 3 ≤ 2) := by omega
  rw [if_pos h1]
  exact ⟨by omega, decide_eq_true h1⟩
theorem at_miss (x y : Int) (hno : ∀ j : Nat, j < 9 → ¬ (x = (j : Int) / 3 ∧ y = (j : Int) % 3)) : stateOf x y = 0 ∧ stateOk x y = false := by
  unfold stateOf stateOk
  have h1 : ¬ ((0 ≤ x ∧ x ≤ 2) ∧ (0 ≤ y ∧ y ≤ 2)) := by
    intro h
    exact hno (3 * x + y).toNat (by omega) (by omega)
  rw [if_neg h1]
  exact ⟨rfl, decide_eq_false h1⟩

theorem sw39 (x y : Int) (w : World) :
    Calls Try.prog 28 #[.agg #[.int .i64 x, .int .i64 y]] w fun e w' => e = .returned (.tuple #[.int .i64 (stateOf x y), .bool (stateOk x y)]) ∧ Below w.heap.size w w' := by
  go_enter Try.func28, Try.ntmps28
  go_wp2
  go_loopw [5] (fun i wr => ∃ k : Nat, k ≤ 9 ∧ i = .int .i64 k ∧ (∀ j : Nat, j < k → ¬ (x = (j : Int) / 3 ∧ y = (j : Int) % 3)) ∧
      wr.cell? ⟨w.heap.size, 0, none⟩ = some (.int .i64 x) ∧ wr.cell? ⟨w.heap.size, 1, none⟩ = some (.int .i64 y) ∧ w.heap.size < wr.heap.size ∧ Below w.heap.size w wr)
    (fun i _ => 9 - (intOf i).toNat)
  case atStart => exact ⟨0, by omega, rfl, fun j hj => by omega, by simp, by simp, by simp, (Below.refl _ _).alloc (Nat.le_refl _) _⟩
  case round =>
    obtain ⟨k, hk, rfl, hno, hx, hy, hsz, hB⟩ := hrel
    by_cases hlt : k < 9
    · have k0 : (0 : Int) ≤ (k : Int) := by omega
      have k8 : (k : Int) ≤ 8 := by omega
      by_cases hit : x = (k : Int) / 3 ∧ y = (k : Int) % 3
      · obtain ⟨rfl, rfl⟩ := hit
        have he := eqYes ((k : Int) / 3) ((k : Int) % 3)
        have hn := Lib.hid hno
        have hh := Lib.hid (at_hit k hlt)
        clear hno
        go_wp2_with fail
        go_region_with (first | (go_at_call 31; refine (vi41 _ _ k0 k8).mono ?_; rintro e w1 ⟨rfl, hb⟩; have hx1 := (hb.cell (p := ⟨w.heap.size, 0, none⟩) (by first | exact hsz | (simp; omega))).trans hx; have hy1 := (hb.cell (p := ⟨w.heap.size, 1, none⟩) (by first | exact hsz | (simp; omega))).trans hy))
        all_goals go_wp2
        all_goals
          go_ret2
          refine ⟨by rw [hh.out.1, hh.out.2]; rfl, ?_⟩
          exact hB.drew.trans ((hb.mono (Nat.le_of_lt hsz)))
      · have he := eqNo ((k : Int) / 3) ((k : Int) % 3) x y hit
        have hn := Lib.hid hno
        have hm := Lib.hid hit
        clear hno hit
        go_wp2_with fail
        go_region_with (first | (go_at_call 31; refine (vi41 _ _ k0 k8).mono ?_; rintro e w1 ⟨rfl, hb⟩; have hx1 := (hb.cell (p := ⟨w.heap.size, 0, none⟩) (by first | exact hsz | (simp; omega))).trans hx; have hy1 := (hb.cell (p := ⟨w.heap.size, 1, none⟩) (by first | exact hsz | (simp; omega))).trans hy))
        all_goals go_wp2
        all_goals
          go_roundw
          case rel =>
            exact ⟨k + 1, by omega, by go_num, fun j hj => by
              by_cases e : j = k
              · subst e; exact hm.out
              · exact hn.out j (by omega), by assumption, by assumption, Nat.lt_of_lt_of_le hsz hb.size, hB.drew.trans (hb.mono (Nat.le_of_lt hsz))⟩
          case measure => simp [intOf]; omega
    · obtain rfl : k = 9 := by omega
      have hm := Lib.hid (at_miss x y hno)
      clear hno
      go_wp2
      go_ret2
      exact ⟨by rw [hm.out.1, hm.out.2]; rfl, hB⟩
theorem so17 (x y : Int) (w : World) :
    Calls Try.prog 11 #[.int .i64 x, .int .i64 y] w fun e w' => e = .returned (.tuple #[.int .i64 (stateOf x y), .bool (stateOk x y)]) ∧ Below w.heap.size w w' := by
  go_enter Try.func11, Try.ntmps11
  go_wp2_with (go_at_call 28; refine (sw39 _ _ _).mono ?_; rintro e w' ⟨rfl, hb⟩)
  go_ret2
  exact ⟨rfl, hb⟩

theorem so18 (x y : Int) (w : World) :
    Calls Try.prog 12 #[.int .i64 x, .int .i64 y] w fun e w' => e = .returned (.tuple #[.int .i64 (stateOf x y), .bool (stateOk x y)]) ∧ w = w' := by
  by_cases h1 : 0 ≤ x ∧ x ≤ 2
  · by_cases h2 : 0 ≤ y ∧ y ≤ 2
    · have hs : stateOf x y = 3 * x + y ∧ stateOk x y = true := ⟨if_pos ⟨h1, h2⟩, decide_eq_true ⟨h1, h2⟩⟩
      rw [hs.1, hs.2]
      have H1 := inB_yes h1
      have H2 := inB_yes h2
      obtain ⟨a1, a2⟩ := h1
      obtain ⟨b1, b2⟩ := h2
      clear hs
      go_enter Try.func12, Try.ntmps12
      go_wp2_with (go_at_call 29; refine (inB40 _ _ _ _).mono ?_; rintro e w' ⟨rfl, rfl⟩)
      go_ret2
      exact ⟨rfl, rfl⟩
    · have hs : stateOf x y = 0 ∧ stateOk x y = false := ⟨if_neg (fun h => h2 h.2), decide_eq_false (fun h => h2 h.2)⟩
      rw [hs.1, hs.2]
      have H1 := inB_yes h1
      have H2 := inB_no h2
      clear hs h1 h2
      go_enter Try.func12, Try.ntmps12
      go_wp2_with (go_at_call 29; refine (inB40 _ _ _ _).mono ?_; rintro e w' ⟨rfl, rfl⟩)
      go_ret2
      exact ⟨rfl, rfl⟩
  · have hs : stateOf x y = 0 ∧ stateOk x y = false := ⟨if_neg (fun h => h1 h.1), decide_eq_false (fun h => h1 h.1)⟩
    rw [hs.1, hs.2]
    have H1 := inB_no h1
    clear hs h1
    go_enter Try.func12, Try.ntmps12
    go_wp2_with (go_at_call 29; refine (inB40 _ _ _ _).mono ?_; rintro e w' ⟨rfl, rfl⟩)
    go_ret2
    exact ⟨rfl, rfl⟩


theorem walkValuesOf (a0 : Int) (w : World) :
    Calls Try.prog 4 #[.int .i64 a0] w fun e w' => e = .returned (.bool true) ∧ Below w.heap.size w w' := by
  by_cases h : 0 ≤ a0 ∧ a0 ≤ 8
  · have H := inB_yes h
    obtain ⟨h0, h8⟩ := h
    go_enter Try.func4, Try.ntmps4
    go_wp2_with (first | (go_at_call 17; refine (vo23yes _ _ h0 h8).mono ?_; rintro e w' ⟨rfl, hb⟩) | (go_at_call 19; refine (vo28yes _ _ H h0 h8).mono ?_; rintro e w' ⟨rfl, rfl⟩))
    go_ret
    exact ⟨rfl, hb⟩
  · have H := Lib.hid h
    have H' := Lib.hid (inB_no h)
    clear h
    go_enter Try.func4, Try.ntmps4
    go_wp2_with (first | (go_at_call 17; refine (vo23no _ _ H.out).mono ?_; rintro e w' ⟨rfl, hb⟩) | (go_at_call 19; refine (vo28no _ _ H'.out).mono ?_; rintro e w' ⟨rfl, rfl⟩))
    go_ret
    exact ⟨rfl, hb⟩
end Go.Proofs.Ytkffgojnicjkmaa

