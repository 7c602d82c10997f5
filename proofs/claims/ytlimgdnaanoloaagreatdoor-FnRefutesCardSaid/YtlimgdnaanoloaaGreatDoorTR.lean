/- Chapter 5: does a triple refute another one, in the model and in the program. -/
import Derived.Test.YtlimgdnaanoloaaGreatDoorTP
namespace Go.Proofs.YtlimgdnaanoloaaGreatDoor
open Go.ChangeShapes Go.WideShapes Go.ChangeAt Go.RowKit Go.Shelf Go.Maps
attribute [local go_sem] Oper.semAt_some
set_option maxRecDepth 100000

set_option maxHeartbeats 2000000 in
theorem mref_a (b : Int) (p : ByteArray) (x r b' : Int) (p' : ByteArray) (x' r' : Int) (hp : p.size ≤ 9000000) (hp' : p'.size ≤ 9000000) (w : World) (hs : sureT b p x r = false) :
    Calls Tryz.prog 30 #[.agg #[.int .i64 b, .string p, .int .i64 x, .int .i64 r], .agg #[.int .i64 b', .string p', .int .i64 x', .int .i64 r']] w fun e w' => e = .returned (.bool false) ∧ Below w.heap.size w w' := by
  have hM := fun X => msure21 b p hp x r X
  have hV := fun X => mtvalid b' p' hp' x' r' X
  rw [hs] at hM
  clear hs
  have hcur : Below w.heap.size w ((w.alloc (.cells #[.int .i64 b, .string p, .int .i64 x, .int .i64 r] 24)).alloc (.cells #[.int .i64 b', .string p', .int .i64 x', .int .i64 r'] 24)) := ((Below.refl _ w).alloc (Nat.le_refl _) _).alloc (by simp) _
  have hA := TripAt.new w b p x r
  have hA1 := hA.below ((Below.refl (w.heap.size + 1) (w.alloc (.cells #[.int .i64 b, .string p, .int .i64 x, .int .i64 r] 24))).alloc (by simp) (.cells #[.int .i64 b', .string p', .int .i64 x', .int .i64 r'] 24)) (Nat.lt_succ_self _)
  have hA2 := TripAt.new (w.alloc (.cells #[.int .i64 b, .string p, .int .i64 x, .int .i64 r] 24)) b' p' x' r'
  rw [World.size_alloc] at hA2
  clear hA
  go_enter Tryz.func30, Tryz.ntmps30
  go_wp2_with (first
    | (go_at_call 21; refine (hM _).mono ?_; rintro e Wk ⟨rfl, hb⟩; replace hcur := hcur.trans (hb.mono hcur.size); replace hA1 := hA1.below hb hA1.lt; replace hA2 := hA2.below hb hA2.lt; obtain ⟨c0, c1, c2, c3⟩ := hA1.cells; obtain ⟨d0, d1, d2, d3⟩ := hA2.cells; clear hb))
  go_ret
  exact ⟨rfl, hcur⟩
set_option maxHeartbeats 2000000 in
theorem mref_b (b : Int) (p : ByteArray) (x r b' : Int) (p' : ByteArray) (x' r' : Int) (hp : p.size ≤ 9000000) (hp' : p'.size ≤ 9000000) (w : World) (hs : sureT b p x r = true) (hv : validT b' p' x' r' = false) :
    Calls Tryz.prog 30 #[.agg #[.int .i64 b, .string p, .int .i64 x, .int .i64 r], .agg #[.int .i64 b', .string p', .int .i64 x', .int .i64 r']] w fun e w' => e = .returned (.bool false) ∧ Below w.heap.size w w' := by
  have hM := fun X => msure21 b p hp x r X
  have hV := fun X => mtvalid b' p' hp' x' r' X
  rw [hs] at hM
  rw [hv] at hV
  clear hs hv
  have hcur : Below w.heap.size w ((w.alloc (.cells #[.int .i64 b, .string p, .int .i64 x, .int .i64 r] 24)).alloc (.cells #[.int .i64 b', .string p', .int .i64 x', .int .i64 r'] 24)) := ((Below.refl _ w).alloc (Nat.le_refl _) _).alloc (by simp) _
  have hA := TripAt.new w b p x r
  have hA1 := hA.below ((Below.refl (w.heap.size + 1) (w.alloc (.cells #[.int .i64 b, .string p, .int .i64 x, .int .i64 r] 24))).alloc (by simp) (.cells #[.int .i64 b', .string p', .int .i64 x', .int .i64 r'] 24)) (Nat.lt_succ_self _)
  have hA2 := TripAt.new (w.alloc (.cells #[.int .i64 b, .string p, .int .i64 x, .int .i64 r] 24)) b' p' x' r'
  rw [World.size_alloc] at hA2
  clear hA
  go_enter Tryz.func30, Tryz.ntmps30
  go_wp2_with (first
    | (go_at_call 21; refine (hM _).mono ?_; rintro e Wk ⟨rfl, hb⟩; replace hcur := hcur.trans (hb.mono hcur.size); replace hA1 := hA1.below hb hA1.lt; replace hA2 := hA2.below hb hA2.lt; obtain ⟨c0, c1, c2, c3⟩ := hA1.cells; obtain ⟨d0, d1, d2, d3⟩ := hA2.cells; clear hb)
    | (go_at_call 11; refine (hV _).mono ?_; rintro e Wk ⟨rfl, hb⟩; replace hcur := hcur.trans (hb.mono hcur.size); replace hA1 := hA1.below hb hA1.lt; replace hA2 := hA2.below hb hA2.lt; obtain ⟨c0, c1, c2, c3⟩ := hA1.cells; obtain ⟨d0, d1, d2, d3⟩ := hA2.cells; clear hb))
  go_ret
  exact ⟨rfl, hcur⟩
theorem text_ne {p q : ByteArray} (h : ¬ p = q) : (p.toList == q.toList) = false := by
  rw [Lib.toList_data, Lib.toList_data]
  refine beq_eq_false_iff_ne.2 fun e => h ?_
  exact ByteArray.ext (Array.toList_inj.1 e)
set_option maxHeartbeats 2000000 in
theorem mref_c (b : Int) (p : ByteArray) (x r b' : Int) (p' : ByteArray) (x' r' : Int) (hp : p.size ≤ 9000000) (hp' : p'.size ≤ 9000000) (w : World) (hs : sureT b p x r = true) (hv : validT b' p' x' r' = true) (hq : ¬ p = p') :
    Calls Tryz.prog 30 #[.agg #[.int .i64 b, .string p, .int .i64 x, .int .i64 r], .agg #[.int .i64 b', .string p', .int .i64 x', .int .i64 r']] w fun e w' => e = .returned (.bool false) ∧ Below w.heap.size w w' := by
  have hM := fun X => msure21 b p hp x r X
  have hV := fun X => mtvalid b' p' hp' x' r' X
  rw [hs] at hM
  rw [hv] at hV
  have hql := text_ne hq
  clear hs hv hq
  have hcur : Below w.heap.size w ((w.alloc (.cells #[.int .i64 b, .string p, .int .i64 x, .int .i64 r] 24)).alloc (.cells #[.int .i64 b', .string p', .int .i64 x', .int .i64 r'] 24)) := ((Below.refl _ w).alloc (Nat.le_refl _) _).alloc (by simp) _
  have hA := TripAt.new w b p x r
  have hA1 := hA.below ((Below.refl (w.heap.size + 1) (w.alloc (.cells #[.int .i64 b, .string p, .int .i64 x, .int .i64 r] 24))).alloc (by simp) (.cells #[.int .i64 b', .string p', .int .i64 x', .int .i64 r'] 24)) (Nat.lt_succ_self _)
  have hA2 := TripAt.new (w.alloc (.cells #[.int .i64 b, .string p, .int .i64 x, .int .i64 r] 24)) b' p' x' r'
  rw [World.size_alloc] at hA2
  clear hA
  go_enter Tryz.func30, Tryz.ntmps30
  go_wp2_with (first
    | (go_at_call 21; refine (hM _).mono ?_; rintro e Wk ⟨rfl, hb⟩; replace hcur := hcur.trans (hb.mono hcur.size); replace hA1 := hA1.below hb hA1.lt; replace hA2 := hA2.below hb hA2.lt; obtain ⟨c0, c1, c2, c3⟩ := hA1.cells; obtain ⟨d0, d1, d2, d3⟩ := hA2.cells; clear hb)
    | (go_at_call 11; refine (hV _).mono ?_; rintro e Wk ⟨rfl, hb⟩; replace hcur := hcur.trans (hb.mono hcur.size); replace hA1 := hA1.below hb hA1.lt; replace hA2 := hA2.below hb hA2.lt; obtain ⟨c0, c1, c2, c3⟩ := hA1.cells; obtain ⟨d0, d1, d2, d3⟩ := hA2.cells; clear hb))
  go_ret
  exact ⟨rfl, hcur⟩
set_option maxHeartbeats 2000000 in
theorem mref_d (b : Int) (p : ByteArray) (x r b' : Int) (p' : ByteArray) (x' r' : Int) (hp : p.size ≤ 9000000) (hp' : p'.size ≤ 9000000) (w : World) (hs : sureT b p x r = true) (hv : validT b' p' x' r' = true) (hq : p = p') (hx : ¬ x = x') :
    Calls Tryz.prog 30 #[.agg #[.int .i64 b, .string p, .int .i64 x, .int .i64 r], .agg #[.int .i64 b', .string p', .int .i64 x', .int .i64 r']] w fun e w' => e = .returned (.bool false) ∧ Below w.heap.size w w' := by
  have hM := fun X => msure21 b p hp x r X
  have hV := fun X => mtvalid b' p' hp' x' r' X
  rw [hs] at hM
  rw [hv] at hV
  have hxl : (x == x') = false := beq_eq_false_iff_ne.2 hx
  have hql : (p.toList == p'.toList) = true := by rw [hq]; simp
  clear hs hv hx hq
  have hcur : Below w.heap.size w ((w.alloc (.cells #[.int .i64 b, .string p, .int .i64 x, .int .i64 r] 24)).alloc (.cells #[.int .i64 b', .string p', .int .i64 x', .int .i64 r'] 24)) := ((Below.refl _ w).alloc (Nat.le_refl _) _).alloc (by simp) _
  have hA := TripAt.new w b p x r
  have hA1 := hA.below ((Below.refl (w.heap.size + 1) (w.alloc (.cells #[.int .i64 b, .string p, .int .i64 x, .int .i64 r] 24))).alloc (by simp) (.cells #[.int .i64 b', .string p', .int .i64 x', .int .i64 r'] 24)) (Nat.lt_succ_self _)
  have hA2 := TripAt.new (w.alloc (.cells #[.int .i64 b, .string p, .int .i64 x, .int .i64 r] 24)) b' p' x' r'
  rw [World.size_alloc] at hA2
  clear hA
  go_enter Tryz.func30, Tryz.ntmps30
  go_wp2_with (first
    | (go_at_call 21; refine (hM _).mono ?_; rintro e Wk ⟨rfl, hb⟩; replace hcur := hcur.trans (hb.mono hcur.size); replace hA1 := hA1.below hb hA1.lt; replace hA2 := hA2.below hb hA2.lt; obtain ⟨c0, c1, c2, c3⟩ := hA1.cells; obtain ⟨d0, d1, d2, d3⟩ := hA2.cells; clear hb)
    | (go_at_call 11; refine (hV _).mono ?_; rintro e Wk ⟨rfl, hb⟩; replace hcur := hcur.trans (hb.mono hcur.size); replace hA1 := hA1.below hb hA1.lt; replace hA2 := hA2.below hb hA2.lt; obtain ⟨c0, c1, c2, c3⟩ := hA1.cells; obtain ⟨d0, d1, d2, d3⟩ := hA2.cells; clear hb))
  go_ret
  exact ⟨rfl, hcur⟩
set_option maxHeartbeats 2000000 in
theorem mref_e0 (b : Int) (p : ByteArray) (x r b' : Int) (p' : ByteArray) (x' r' : Int) (hp : p.size ≤ 9000000) (hp' : p'.size ≤ 9000000) (w : World) (hs : sureT b p x r = true) (hv : validT b' p' x' r' = true) (hq : p = p') (hx : x = x') (hbb : (bits .andNot .i64 b b' == 0) = false) :
    Calls Tryz.prog 30 #[.agg #[.int .i64 b, .string p, .int .i64 x, .int .i64 r], .agg #[.int .i64 b', .string p', .int .i64 x', .int .i64 r']] w fun e w' => e = .returned (.bool false) ∧ Below w.heap.size w w' := by
  have hM := fun X => msure21 b p hp x r X
  have hV := fun X => mtvalid b' p' hp' x' r' X
  rw [hs] at hM
  rw [hv] at hV
  have hql : (p.toList == p'.toList) = true := by rw [hq]; simp
  have hxl : (x == x') = true := by rw [hx]; simp
  clear hs hv hx hq
  have hcur : Below w.heap.size w ((w.alloc (.cells #[.int .i64 b, .string p, .int .i64 x, .int .i64 r] 24)).alloc (.cells #[.int .i64 b', .string p', .int .i64 x', .int .i64 r'] 24)) := ((Below.refl _ w).alloc (Nat.le_refl _) _).alloc (by simp) _
  have hA := TripAt.new w b p x r
  have hA1 := hA.below ((Below.refl (w.heap.size + 1) (w.alloc (.cells #[.int .i64 b, .string p, .int .i64 x, .int .i64 r] 24))).alloc (by simp) (.cells #[.int .i64 b', .string p', .int .i64 x', .int .i64 r'] 24)) (Nat.lt_succ_self _)
  have hA2 := TripAt.new (w.alloc (.cells #[.int .i64 b, .string p, .int .i64 x, .int .i64 r] 24)) b' p' x' r'
  rw [World.size_alloc] at hA2
  clear hA
  go_enter Tryz.func30, Tryz.ntmps30
  go_wp2_with (first
    | (go_at_call 21; refine (hM _).mono ?_; rintro e Wk ⟨rfl, hb⟩; replace hcur := hcur.trans (hb.mono hcur.size); replace hA1 := hA1.below hb hA1.lt; replace hA2 := hA2.below hb hA2.lt; obtain ⟨c0, c1, c2, c3⟩ := hA1.cells; obtain ⟨d0, d1, d2, d3⟩ := hA2.cells; clear hb)
    | (go_at_call 11; refine (hV _).mono ?_; rintro e Wk ⟨rfl, hb⟩; replace hcur := hcur.trans (hb.mono hcur.size); replace hA1 := hA1.below hb hA1.lt; replace hA2 := hA2.below hb hA2.lt; obtain ⟨c0, c1, c2, c3⟩ := hA1.cells; obtain ⟨d0, d1, d2, d3⟩ := hA2.cells; clear hb))
  go_ret
  exact ⟨rfl, hcur⟩
set_option maxHeartbeats 2000000 in
theorem mref_e1 (b : Int) (p : ByteArray) (x r b' : Int) (p' : ByteArray) (x' r' : Int) (hp : p.size ≤ 9000000) (hp' : p'.size ≤ 9000000) (w : World) (hs : sureT b p x r = true) (hv : validT b' p' x' r' = true) (hq : p = p') (hx : x = x') (hbb : (bits .andNot .i64 b b' == 0) = true) :
    Calls Tryz.prog 30 #[.agg #[.int .i64 b, .string p, .int .i64 x, .int .i64 r], .agg #[.int .i64 b', .string p', .int .i64 x', .int .i64 r']] w fun e w' => e = .returned (.bool (bits .andNot .i64 r r' != 0)) ∧ Below w.heap.size w w' := by
  have hM := fun X => msure21 b p hp x r X
  have hV := fun X => mtvalid b' p' hp' x' r' X
  rw [hs] at hM
  rw [hv] at hV
  have hql : (p.toList == p'.toList) = true := by rw [hq]; simp
  have hxl : (x == x') = true := by rw [hx]; simp
  clear hs hv hx hq
  have hcur : Below w.heap.size w ((w.alloc (.cells #[.int .i64 b, .string p, .int .i64 x, .int .i64 r] 24)).alloc (.cells #[.int .i64 b', .string p', .int .i64 x', .int .i64 r'] 24)) := ((Below.refl _ w).alloc (Nat.le_refl _) _).alloc (by simp) _
  have hA := TripAt.new w b p x r
  have hA1 := hA.below ((Below.refl (w.heap.size + 1) (w.alloc (.cells #[.int .i64 b, .string p, .int .i64 x, .int .i64 r] 24))).alloc (by simp) (.cells #[.int .i64 b', .string p', .int .i64 x', .int .i64 r'] 24)) (Nat.lt_succ_self _)
  have hA2 := TripAt.new (w.alloc (.cells #[.int .i64 b, .string p, .int .i64 x, .int .i64 r] 24)) b' p' x' r'
  rw [World.size_alloc] at hA2
  clear hA
  go_enter Tryz.func30, Tryz.ntmps30
  go_wp2_with (first
    | (go_at_call 21; refine (hM _).mono ?_; rintro e Wk ⟨rfl, hb⟩; replace hcur := hcur.trans (hb.mono hcur.size); replace hA1 := hA1.below hb hA1.lt; replace hA2 := hA2.below hb hA2.lt; obtain ⟨c0, c1, c2, c3⟩ := hA1.cells; obtain ⟨d0, d1, d2, d3⟩ := hA2.cells; clear hb)
    | (go_at_call 11; refine (hV _).mono ?_; rintro e Wk ⟨rfl, hb⟩; replace hcur := hcur.trans (hb.mono hcur.size); replace hA1 := hA1.below hb hA1.lt; replace hA2 := hA2.below hb hA2.lt; obtain ⟨c0, c1, c2, c3⟩ := hA1.cells; obtain ⟨d0, d1, d2, d3⟩ := hA2.cells; clear hb))
  go_ret
  exact ⟨rfl, hcur⟩
theorem ref_eq (b : Int) (p : ByteArray) (x r b' : Int) (p' : ByteArray) (x' r' : Int) : refT b p x r b' p' x' r' = (sureT b p x r && validT b' p' x' r' && decide (p = p') && decide (x = x') && ((bits .andNot .i64 b b' == 0) && (bits .andNot .i64 r r' != 0))) := by
  unfold refT
  have hd : ∀ a c : ByteArray, (a == c) = (a.data == c.data) := fun a c => by cases a; cases c; rfl
  have e1 : (p == p') = decide (p = p') := by
    rw [hd]
    by_cases h : p = p'
    · subst h
      simp
    · rw [decide_eq_false h]
      exact beq_eq_false_iff_ne.2 fun e => h (ByteArray.ext e)
  have e2 : (x == x') = decide (x = x') := by
    by_cases h : x = x'
    · subst h
      simp
    · rw [decide_eq_false h]
      exact beq_eq_false_iff_ne.2 h
  rw [e1, e2]
  cases sureT b p x r <;> cases validT b' p' x' r' <;> cases decide (p = p') <;> cases decide (x = x') <;> cases (bits .andNot .i64 b b' == 0) <;> cases (bits .andNot .i64 r r' != 0) <;> rfl
theorem mref27 (b : Int) (p : ByteArray) (x r b' : Int) (p' : ByteArray) (x' r' : Int) (hp : p.size ≤ 9000000) (hp' : p'.size ≤ 9000000) (w : World) :
    Calls Tryz.prog 30 #[.agg #[.int .i64 b, .string p, .int .i64 x, .int .i64 r], .agg #[.int .i64 b', .string p', .int .i64 x', .int .i64 r']] w fun e w' => e = .returned (.bool (refT b p x r b' p' x' r')) ∧ Below w.heap.size w w' := by
  rw [ref_eq]
  cases hs : sureT b p x r with
  | false => exact mref_a b p x r b' p' x' r' hp hp' w hs
  | true =>
    cases hv : validT b' p' x' r' with
    | false => exact mref_b b p x r b' p' x' r' hp hp' w hs hv
    | true =>
      by_cases hq : p = p'
      · by_cases hx : x = x'
        · rw [decide_eq_true hq, decide_eq_true hx]
          cases hbb : (bits .andNot .i64 b b' == 0) with
          | false => exact mref_e0 b p x r b' p' x' r' hp hp' w hs hv hq hx hbb
          | true => exact mref_e1 b p x r b' p' x' r' hp hp' w hs hv hq hx hbb
        · rw [decide_eq_true hq, decide_eq_false hx]
          exact mref_d b p x r b' p' x' r' hp hp' w hs hv hq hx
      · rw [decide_eq_false hq]
        exact mref_c b p x r b' p' x' r' hp hp' w hs hv hq
end Go.Proofs.YtlimgdnaanoloaaGreatDoor

