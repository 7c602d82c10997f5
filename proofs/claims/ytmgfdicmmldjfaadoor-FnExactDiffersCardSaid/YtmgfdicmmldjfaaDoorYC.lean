/- Chapter 11, the program: SameResults, Differs. -/
import Derived.Test.YtmgfdicmmldjfaaDoorYB
namespace Go.Proofs.YtmgfdicmmldjfaaDoor
open Go.ChangeShapes Go.WideShapes Go.ChangeAt Go.RowKit Go.Shelf
attribute [local go_sem] Oper.semAt_some
set_option maxRecDepth 100000
attribute [local go_sem ↓ 10000] heldL_eq heldS_eq

theorem eq_guard (r u : Nat → Nat × Nat) (x y : Operand) (W : World) : (eqGuard .eql 33 x y (resV r) (resV u)).run Tryd.prog W = .ok () W := by
  unfold resV
  exact run_eqGuard_agg W .eql 33 x y _ _ (by kernel_rfl)
theorem eq_bin (r u : Nat → Nat × Nat) (W : World) : (binOp .eql 33 (resV r) (resV u)).run Tryd.prog W = .ok (.bool ((List.range 9).all (sameAt r u))) W := by
  have h : (Op.equal 33 (.agg (resA r)) (.agg (resA u))).run Tryd.prog W = .ok ((List.range 9).all (sameAt r u)) W := eq_res r u W
  unfold resV
  show (do pure (.bool (← Op.equal 33 (.agg (resA r)) (.agg (resA u)))) : Sem Value).run Tryd.prog W = _
  simp only [Sem.run_bind, h, Result.andThen_ok]
  rfl
/-- What both say of two programs: have they the same results. -/
def sameZ (p q : ByteArray) : Bool := match readP p.toList, readP q.toList with
  | some a, some b => (List.range 9).all (sameAt (runR a) (runR b))
  | _, _ => false
theorem ResAt.nine {W : World} {g : Nat} {r : Nat → Nat × Nat} (h : ResAt W g r) : Nine W g r := by
  intro k hk
  rw [h.cell, h.cell]
  match k, hk with
  | 0, _ => exact ⟨rfl, rfl⟩
  | 1, _ => exact ⟨rfl, rfl⟩
  | 2, _ => exact ⟨rfl, rfl⟩
  | 3, _ => exact ⟨rfl, rfl⟩
  | 4, _ => exact ⟨rfl, rfl⟩
  | 5, _ => exact ⟨rfl, rfl⟩
  | 6, _ => exact ⟨rfl, rfl⟩
  | 7, _ => exact ⟨rfl, rfl⟩
  | 8, _ => exact ⟨rfl, rfl⟩
/-- The first state from which two results are not the same. -/
def firstD (r u : Nat → Nat × Nat) : Option Nat := (List.range 9).find? fun k => !sameAt r u k
theorem firstD_hit {r u : Nat → Nat × Nat} {k : Nat} (hk : k < 9) (h : ∀ j, j < k → sameAt r u j = true) (hn : sameAt r u k = false) : firstD r u = some k := by
  unfold firstD
  rw [List.find?_eq_some_iff_getElem]
  refine ⟨by rw [hn]; rfl, k, by rw [List.length_range]; exact hk, List.getElem_range .., fun j hj => ?_⟩
  rw [List.getElem_range, h j hj]; rfl
theorem firstD_none {r u : Nat → Nat × Nat} (h : ∀ j, j < 9 → sameAt r u j = true) : firstD r u = none := by
  unfold firstD
  rw [List.find?_eq_none]
  intro x hx
  rw [h x (List.mem_range.1 hx)]; simp
def diffR (r u : Nat → Nat × Nat) : Value := match firstD r u with
  | some s => .tuple #[.int .i64 (s : Int), .bool true]
  | none => .tuple #[.int .i64 0, .bool false]
def diffV (p q : ByteArray) : Value := match readP p.toList, readP q.toList with
  | some a, some b => diffR (runR a) (runR b)
  | _, _ => .tuple #[.int .i64 0, .bool false]
theorem diff_none : diffR noneR noneR = .tuple #[.int .i64 0, .bool false] := by
  unfold diffR
  rw [firstD_none (fun j _ => by simp [sameAt])]

set_option maxHeartbeats 4000000 in
theorem psame_some (p q : ByteArray) (w : World) {r u : Nat → Nat × Nat}
    (H : Calls Tryd.prog 28 #[.string p, .string q] w fun e w' => e = .returned (.tuple #[resV r, resV u, .nilIface]) ∧ Below w.heap.size w w') :
    Calls Tryd.prog 12 #[.string p, .string q] w fun e w' => e = .returned (.bool ((List.range 9).all (sameAt r u))) ∧ Below w.heap.size w w' := by
  have he := fun W => eq_bin r u W
  have hgd := fun x y W => eq_guard r u x y W
  generalize (List.range 9).all (sameAt r u) = b at he ⊢
  go_enter Tryd.func12, Tryd.ntmps12
  go_wp2_with fail
  go_at_call 28
  refine H.mono ?_
  rintro e W1 ⟨rfl, hb1⟩
  obtain ⟨Y, hY⟩ : ∃ X, X = (W1.alloc (.cells (resA noneR) 33)).alloc (.cells (resA noneR) 33) := ⟨_, rfl⟩
  have n0 : Below W1.heap.size W1 Y := by rw [hY]; exact ((Below.refl _ W1).alloc (Nat.le_refl _) _).alloc (by simp) _
  have z0 : ResAt Y W1.heap.size noneR := by rw [hY]; exact (ResAt.new W1 _).grown (World.grownBy_alloc _ _ none) (by simp)
  have z1 : ResAt Y (W1.heap.size + 1) noneR := by
    rw [hY]
    have := ResAt.new (W1.alloc (.cells (resA noneR) 33)) noneR
    rw [World.size_alloc] at this
    exact this
  obtain ⟨X0, s0, v0, g0⟩ := z0.store (r)
  have z2 := z1.grown g0 (by intro e; have := Option.some.inj e; omega)
  obtain ⟨X1, s1, v1, g1⟩ := z2.store (u)
  have v0' := v0.grown g1 (by intro e; have := Option.some.inj e; omega)
  have b0 := n0.grown g0 n0.size (fun j e => by cases e; exact Nat.le_refl _)
  have b1 := b0.grown g1 b0.size (fun j e => by cases e; exact Nat.le_succ _)
  go_wp2_with fail
  rw [show (W1.alloc (.cells #[.int .i64 0, .int .i64 0, .int .i64 0, .int .i64 0, .int .i64 0, .int .i64 0, .int .i64 0, .int .i64 0, .int .i64 0, .int .i64 0, .int .i64 0, .int .i64 0, .int .i64 0, .int .i64 0, .int .i64 0, .int .i64 0, .int .i64 0, .int .i64 0] 33)).alloc (.cells #[.int .i64 0, .int .i64 0, .int .i64 0, .int .i64 0, .int .i64 0, .int .i64 0, .int .i64 0, .int .i64 0, .int .i64 0, .int .i64 0, .int .i64 0, .int .i64 0, .int .i64 0, .int .i64 0, .int .i64 0, .int .i64 0, .int .i64 0, .int .i64 0] 33) = Y from hY.symm, s0]
  have HY := Lib.hid hY
  clear hY n0 z0 z1 s0 g0 z2 g1 v0
  go_simp
  have ld0 := v0'.load
  have ld1 := v1.load
  have hW := hb1.trans (b1.mono hb1.size)
  go_wp2_with fail
  go_ret
  exact ⟨rfl, hW⟩

set_option maxHeartbeats 4000000 in
theorem psame_none (p q : ByteArray) (w : World)
    (H : Calls Tryd.prog 28 #[.string p, .string q] w fun e w' => (∃ T v, e = .returned (.tuple #[resV noneR, resV noneR, .iface T v])) ∧ Below w.heap.size w w') :
    Calls Tryd.prog 12 #[.string p, .string q] w fun e w' => e = .returned (.bool false) ∧ Below w.heap.size w w' := by
  go_enter Tryd.func12, Tryd.ntmps12
  go_wp2_with fail
  go_at_call 28
  refine H.mono ?_
  rintro e W1 ⟨⟨T, v, rfl⟩, hb1⟩
  obtain ⟨Y, hY⟩ : ∃ X, X = (W1.alloc (.cells (resA noneR) 33)).alloc (.cells (resA noneR) 33) := ⟨_, rfl⟩
  have n0 : Below W1.heap.size W1 Y := by rw [hY]; exact ((Below.refl _ W1).alloc (Nat.le_refl _) _).alloc (by simp) _
  have z0 : ResAt Y W1.heap.size noneR := by rw [hY]; exact (ResAt.new W1 _).grown (World.grownBy_alloc _ _ none) (by simp)
  have z1 : ResAt Y (W1.heap.size + 1) noneR := by
    rw [hY]
    have := ResAt.new (W1.alloc (.cells (resA noneR) 33)) noneR
    rw [World.size_alloc] at this
    exact this
  obtain ⟨X0, s0, v0, g0⟩ := z0.store (noneR)
  have z2 := z1.grown g0 (by intro e; have := Option.some.inj e; omega)
  obtain ⟨X1, s1, v1, g1⟩ := z2.store (noneR)
  have v0' := v0.grown g1 (by intro e; have := Option.some.inj e; omega)
  have b0 := n0.grown g0 n0.size (fun j e => by cases e; exact Nat.le_refl _)
  have b1 := b0.grown g1 b0.size (fun j e => by cases e; exact Nat.le_succ _)
  go_wp2_with fail
  rw [show (W1.alloc (.cells #[.int .i64 0, .int .i64 0, .int .i64 0, .int .i64 0, .int .i64 0, .int .i64 0, .int .i64 0, .int .i64 0, .int .i64 0, .int .i64 0, .int .i64 0, .int .i64 0, .int .i64 0, .int .i64 0, .int .i64 0, .int .i64 0, .int .i64 0, .int .i64 0] 33)).alloc (.cells #[.int .i64 0, .int .i64 0, .int .i64 0, .int .i64 0, .int .i64 0, .int .i64 0, .int .i64 0, .int .i64 0, .int .i64 0, .int .i64 0, .int .i64 0, .int .i64 0, .int .i64 0, .int .i64 0, .int .i64 0, .int .i64 0, .int .i64 0, .int .i64 0] 33) = Y from hY.symm, s0]
  have HY := Lib.hid hY
  clear hY n0 z0 z1 s0 g0 z2 g1 v0
  go_simp
  have ld0 := v0'.load
  have ld1 := v1.load
  have hW := hb1.trans (b1.mono hb1.size)
  go_wp2_with fail
  go_ret
  exact ⟨rfl, hW⟩

set_option maxHeartbeats 4000000 in
theorem pdiff_one (p q : ByteArray) (w : World) {r u : Nat → Nat × Nat}
    (H : Calls Tryd.prog 28 #[.string p, .string q] w fun e w' => (∃ x, e = .returned (.tuple #[resV r, resV u, x])) ∧ Below w.heap.size w w') :
    Calls Tryd.prog 16 #[.string p, .string q] w fun e w' => e = .returned (diffR r u) ∧ Below w.heap.size w w' := by
  go_enter Tryd.func16, Tryd.ntmps16
  go_wp2_with fail
  go_at_call 28
  refine H.mono ?_
  rintro e W1 ⟨⟨x, rfl⟩, hb1⟩
  obtain ⟨Y, hY⟩ : ∃ X, X = (W1.alloc (.cells (resA noneR) 33)).alloc (.cells (resA noneR) 33) := ⟨_, rfl⟩
  have n0 : Below W1.heap.size W1 Y := by rw [hY]; exact ((Below.refl _ W1).alloc (Nat.le_refl _) _).alloc (by simp) _
  have z0 : ResAt Y W1.heap.size noneR := by rw [hY]; exact (ResAt.new W1 _).grown (World.grownBy_alloc _ _ none) (by simp)
  have z1 : ResAt Y (W1.heap.size + 1) noneR := by
    rw [hY]
    have := ResAt.new (W1.alloc (.cells (resA noneR) 33)) noneR
    rw [World.size_alloc] at this
    exact this
  obtain ⟨X0, s0, v0, g0⟩ := z0.store (r)
  have z2 := z1.grown g0 (by intro e; have := Option.some.inj e; omega)
  obtain ⟨X1, s1, v1, g1⟩ := z2.store (u)
  have v0' := v0.grown g1 (by intro e; have := Option.some.inj e; omega)
  have b0 := n0.grown g0 n0.size (fun j e => by cases e; exact Nat.le_refl _)
  have b1 := b0.grown g1 b0.size (fun j e => by cases e; exact Nat.le_succ _)
  go_wp2_with fail
  rw [show (W1.alloc (.cells #[.int .i64 0, .int .i64 0, .int .i64 0, .int .i64 0, .int .i64 0, .int .i64 0, .int .i64 0, .int .i64 0, .int .i64 0, .int .i64 0, .int .i64 0, .int .i64 0, .int .i64 0, .int .i64 0, .int .i64 0, .int .i64 0, .int .i64 0, .int .i64 0] 33)).alloc (.cells #[.int .i64 0, .int .i64 0, .int .i64 0, .int .i64 0, .int .i64 0, .int .i64 0, .int .i64 0, .int .i64 0, .int .i64 0, .int .i64 0, .int .i64 0, .int .i64 0, .int .i64 0, .int .i64 0, .int .i64 0, .int .i64 0, .int .i64 0, .int .i64 0] 33) = Y from hY.symm, s0]
  have HY := Lib.hid hY
  clear hY n0 z0 z1 s0 g0 z2 g1 v0
  go_simp
  have hW := hb1.trans (b1.mono hb1.size)
  go_wp2_with fail
  go_loopw [17] (fun i wr => ∃ k : Nat, k ≤ 9 ∧ i = .int .i64 (k : Int) ∧ (∀ j, j < k → sameAt r u j = true) ∧ ResAt wr W1.heap.size r ∧ ResAt wr (W1.heap.size + 1) u ∧ Below w.heap.size w wr) (fun i _ => 9 - (intOf i).toNat)
  case atStart => exact ⟨0, by omega, rfl, fun j hj => by omega, v0', v1, hW⟩
  case round =>
    obtain ⟨k, hk, rfl, hall, w0, w1, hB⟩ := hrel
    have N0 := w0.nine
    have N1 := w1.nine
    by_cases hlt : k < 9
    · have k8 : (k : Int) < 9 := by omega
      have k0 : (0 : Int) ≤ (k : Int) := by omega
      obtain ⟨c0, c1⟩ := N0 k hlt
      obtain ⟨d0, d1⟩ := N1 k hlt
      have hE := fun W => eqOutV (r (2 ^ k)) (u (2 ^ k)) W
      have hs : decide (r (2 ^ k) = u (2 ^ k)) = sameAt r u k := rfl
      rw [hs] at hE
      have hhit := fun h => firstD_hit hlt hall (h : sameAt r u k = false)
      have HA := Lib.hid (And.intro hall hhit)
      clear hs hall hhit
      cases hb : sameAt r u k with
      | true =>
        rw [hb] at hE
        have HB := Lib.hid hb
        clear hb
        generalize r (2 ^ k) = x1 at *
        generalize u (2 ^ k) = x2 at *
        go_wp2_with fail
        go_region
        all_goals go_wp2_with fail
        all_goals go_roundw
        case rel =>
          refine ⟨k + 1, by omega, by go_num, fun j hj => ?_, w0, w1, hB.drew⟩
          rcases Nat.lt_or_ge j k with h | h
          · exact HA.out.1 j h
          · obtain rfl : j = k := by omega
            exact HB.out
        case measure => simp [intOf]; omega
      | false =>
        rw [hb] at hE
        have HB := Lib.hid hb
        clear hb
        generalize r (2 ^ k) = x1 at *
        generalize u (2 ^ k) = x2 at *
        go_wp2_with fail
        go_region
        all_goals go_wp2_with fail
        all_goals go_ret2
        all_goals exact ⟨by unfold diffR; rw [HA.out.2 HB.out]; rfl, hB.drew⟩
    · obtain rfl : k = 9 := by omega
      go_wp2
      go_ret2
      exact ⟨by unfold diffR; rw [firstD_none hall]; rfl, hB⟩

theorem psame (p q : ByteArray) (w : World) {N : Nat} (hE : Laid3 N w) :
    Calls Tryd.prog 12 #[.string p, .string q] w fun e w' => e = .returned (.bool (sameZ p q)) ∧ Below w.heap.size w w' := by
  unfold sameZ
  cases hP : readP p.toList with
  | none => exact psame_none p q w (pboth_first p q w hE hP)
  | some a =>
    cases hQ : readP q.toList with
    | none => exact psame_none p q w (pboth_second p q w hE hP hQ)
    | some b => exact psame_some p q w (pboth_both p q w hE hP hQ)
theorem pdiff (p q : ByteArray) (w : World) {N : Nat} (hE : Laid3 N w) :
    Calls Tryd.prog 16 #[.string p, .string q] w fun e w' => e = .returned (diffV p q) ∧ Below w.heap.size w w' := by
  unfold diffV
  cases hP : readP p.toList with
  | none =>
    have := pdiff_one p q w ((pboth_first p q w hE hP).mono fun e w' h => ⟨by obtain ⟨⟨T, v, h⟩, _⟩ := h; exact ⟨_, h⟩, h.2⟩)
    rw [diff_none] at this
    exact this
  | some a =>
    cases hQ : readP q.toList with
    | none =>
      have := pdiff_one p q w ((pboth_second p q w hE hP hQ).mono fun e w' h => ⟨by obtain ⟨⟨T, v, h⟩, _⟩ := h; exact ⟨_, h⟩, h.2⟩)
      rw [diff_none] at this
      exact this
    | some b => exact pdiff_one p q w ((pboth_both p q w hE hP hQ).mono fun e w' h => ⟨⟨_, h.1⟩, h.2⟩)
end Go.Proofs.YtmgfdicmmldjfaaDoor

