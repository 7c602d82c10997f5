/- Chapter 11, the program: IsBelow. -/
import Derived.Test.YtgkgkaapjljpcaaDoorYF
namespace Go.Proofs.YtgkgkaapjljpcaaDoor
open Go.ChangeShapes Go.WideShapes Go.ChangeAt Go.RowKit Go.Shelf
attribute [local go_sem] Oper.semAt_some
set_option maxRecDepth 100000
attribute [local go_sem ↓ 10000] heldL_eq heldS_eq

/-- What both say: are all results of one program results of another one. -/
def belowZ (p q : ByteArray) : Bool := match readP p.toList, readP q.toList with
  | some a, some b => (List.range 9).all (sameAt (mixR (runR a) (runR b) 9) (runR b))
  | _, _ => false
theorem small_run {a : Node} (h : a.ok) : SmallR (runR a) := fun _ hj => run_lt a h _ (pow9 hj)

set_option maxHeartbeats 4000000 in
theorem pbelow_some (p q : ByteArray) (w : World) {r u : Nat → Nat × Nat} (hr : SmallR r) (hu : SmallR u)
    (H : Calls Tryd.prog 44 #[.string p, .string q] w fun e w' => e = .returned (.tuple #[resV r, resV u, .nilIface]) ∧ Below w.heap.size w w') :
    Calls Tryd.prog 23 #[.string p, .string q] w fun e w' => e = .returned (.bool ((List.range 9).all (sameAt (mixR r u 9) u))) ∧ Below w.heap.size w w' := by
  have he := fun W => eq_bin (mixR r u 9) u W
  have hgd := fun x y W => eq_guard (mixR r u 9) u x y W
  have hw := pwith r u hr hu
  generalize (List.range 9).all (sameAt (mixR r u 9) u) = b at he ⊢
  generalize mixR r u 9 = m at he hgd hw
  go_enter Tryd.func23, Tryd.ntmps23
  go_wp2_with fail
  go_at_call 44
  refine H.mono ?_
  rintro e W1 ⟨rfl, hb1⟩
  obtain ⟨Y, hY⟩ : ∃ X, X = (W1.alloc (.cells (resA noneR) 63)).alloc (.cells (resA noneR) 63) := ⟨_, rfl⟩
  have n0 : Below W1.heap.size W1 Y := by rw [hY]; exact ((Below.refl _ W1).alloc (Nat.le_refl _) _).alloc (by simp) _
  have z0 : ResAt Y W1.heap.size noneR := by rw [hY]; exact (ResAt.new W1 _).grown (World.grownBy_alloc _ _ none) (by simp)
  have z1 : ResAt Y (W1.heap.size + 1) noneR := by
    rw [hY]
    have := ResAt.new (W1.alloc (.cells (resA noneR) 63)) noneR
    rw [World.size_alloc] at this
    exact this
  obtain ⟨X0, s0, v0, g0⟩ := z0.store (r)
  have z2 := z1.grown g0 (by intro e; have := Option.some.inj e; omega)
  obtain ⟨X1, s1, v1, g1⟩ := z2.store (u)
  have v0' := v0.grown g1 (by intro e; have := Option.some.inj e; omega)
  have b0 := n0.grown g0 n0.size (fun j e => by cases e; exact Nat.le_refl _)
  have b1 := b0.grown g1 b0.size (fun j e => by cases e; exact Nat.le_succ _)
  go_wp2_with fail
  rw [show (W1.alloc (.cells #[.int .i64 0, .int .i64 0, .int .i64 0, .int .i64 0, .int .i64 0, .int .i64 0, .int .i64 0, .int .i64 0, .int .i64 0, .int .i64 0, .int .i64 0, .int .i64 0, .int .i64 0, .int .i64 0, .int .i64 0, .int .i64 0, .int .i64 0, .int .i64 0] 63)).alloc (.cells #[.int .i64 0, .int .i64 0, .int .i64 0, .int .i64 0, .int .i64 0, .int .i64 0, .int .i64 0, .int .i64 0, .int .i64 0, .int .i64 0, .int .i64 0, .int .i64 0, .int .i64 0, .int .i64 0, .int .i64 0, .int .i64 0, .int .i64 0, .int .i64 0] 63) = Y from hY.symm, s0]
  have HY := Lib.hid hY
  clear hY n0 z0 z1 s0 g0 z2 g1 v0
  go_simp
  have ld0 := v0'.load
  have ld1 := v1.load
  have hW := hb1.trans (b1.mono hb1.size)
  clear ld0 ld1
  go_wp2_with fail
  refine wp_region_held (S := fun w' => ResAt w' W1.heap.size (r) ∧ ResAt w' (W1.heap.size + 1) (u)) (by kernel_rfl) ?_
  have hS : ResAt X1.drew W1.heap.size (r) ∧ ResAt X1.drew (W1.heap.size + 1) (u) := ⟨v0', v1⟩
  refine wpAnyH_take (i := 0) (v := .nilIface) rfl (by kernel_rfl) (by kernel_rfl) (by kernel_rfl) (fun _ _ _ h => h) (Or.inl ⟨by rfl, fun w hw => by go_simp⟩) hS ?_
  go_simp
  refine wpAnyH_take (i := 1) (v := .bool true) rfl (by kernel_rfl) (by kernel_rfl) (by kernel_rfl) (fun _ _ _ h => h) (Or.inl ⟨by rfl, fun w hw => by go_simp⟩) hS ?_
  go_simp
  refine wpAnyH_take (i := 2) (v := .bool true) rfl (by kernel_rfl) (by kernel_rfl) (by kernel_rfl) (fun _ _ _ h => h) (Or.inl ⟨by rfl, fun w hw => by go_simp⟩) hS ?_
  go_simp
  refine wpAnyH_take (i := 3) (v := resV r) rfl (by kernel_rfl) (by kernel_rfl) (by kernel_rfl) (fun _ _ _ h => h) (Or.inl ⟨by rfl, fun w hw => by have l := hw.1.load; have l2 := hw.2.load; first | (go_simp; done) | rfl⟩) hS ?_
  go_simp
  refine wpAnyH_take (i := 4) (v := resV u) rfl (by kernel_rfl) (by kernel_rfl) (by kernel_rfl) (fun _ _ _ h => h) (Or.inl ⟨by rfl, fun w hw => by have l := hw.1.load; have l2 := hw.2.load; first | (go_simp; done) | rfl⟩) hS ?_
  go_simp
  refine wpAnyH_take (i := 6) (v := resV u) rfl (by kernel_rfl) (by kernel_rfl) (by kernel_rfl) (fun _ _ _ h => h) (Or.inl ⟨by rfl, fun w hw => by have l := hw.1.load; have l2 := hw.2.load; first | (go_simp; done) | rfl⟩) hS ?_
  go_simp
  refine wpAnyH_ready (rs := [5]) (by kernel_rfl) (by simp) ?_
  refine AllReadyH.cons rfl (fun K hK => ?_) AllReadyH.nil
  go_simp
  go_wp2_with (go_at_call 45; refine (hw _).mono ?_; rintro e W3 ⟨rfl, hb3⟩)
  refine hK _ _ (⟨ResAt.below hS.1 hb3, ResAt.below hS.2 hb3⟩) (fun hR1 => ?_)
  clear hK K
  go_simp
  refine wpAnyH_take (i := 7) (v := .bool b) rfl (by kernel_rfl) (by kernel_rfl) (by kernel_rfl) (fun _ _ _ h => h) (Or.inl ⟨by rfl, fun w hw => by go_simp⟩) hR1 ?_
  go_simp
  refine wpAnyH_take (i := 8) (v := .bool b) rfl (by kernel_rfl) (by kernel_rfl) (by kernel_rfl) (fun _ _ _ h => h) (Or.inl ⟨by rfl, fun w hw => by go_simp⟩) hR1 ?_
  go_simp
  refine wpAnyH_take (i := 9) (v := .bool b) rfl (by kernel_rfl) (by kernel_rfl) (by kernel_rfl) (fun _ _ _ h => h) (Or.inl ⟨by rfl, fun w hw => by go_simp⟩) hR1 ?_
  go_simp
  refine wpAnyH_done (by kernel_rfl) ?_ _
  go_wp2_with fail
  go_ret
  have hd := hW.drew
  exact ⟨rfl, hd.trans (hb3.mono hd.size)⟩

set_option maxHeartbeats 4000000 in
theorem pbelow_none (p q : ByteArray) (w : World)
    (H : Calls Tryd.prog 44 #[.string p, .string q] w fun e w' => (∃ T v, e = .returned (.tuple #[resV noneR, resV noneR, .iface T v])) ∧ Below w.heap.size w w') :
    Calls Tryd.prog 23 #[.string p, .string q] w fun e w' => e = .returned (.bool false) ∧ Below w.heap.size w w' := by
  go_enter Tryd.func23, Tryd.ntmps23
  go_wp2_with fail
  go_at_call 44
  refine H.mono ?_
  rintro e W1 ⟨⟨T, v, rfl⟩, hb1⟩
  obtain ⟨Y, hY⟩ : ∃ X, X = (W1.alloc (.cells (resA noneR) 63)).alloc (.cells (resA noneR) 63) := ⟨_, rfl⟩
  have n0 : Below W1.heap.size W1 Y := by rw [hY]; exact ((Below.refl _ W1).alloc (Nat.le_refl _) _).alloc (by simp) _
  have z0 : ResAt Y W1.heap.size noneR := by rw [hY]; exact (ResAt.new W1 _).grown (World.grownBy_alloc _ _ none) (by simp)
  have z1 : ResAt Y (W1.heap.size + 1) noneR := by
    rw [hY]
    have := ResAt.new (W1.alloc (.cells (resA noneR) 63)) noneR
    rw [World.size_alloc] at this
    exact this
  obtain ⟨X0, s0, v0, g0⟩ := z0.store (noneR)
  have z2 := z1.grown g0 (by intro e; have := Option.some.inj e; omega)
  obtain ⟨X1, s1, v1, g1⟩ := z2.store (noneR)
  have v0' := v0.grown g1 (by intro e; have := Option.some.inj e; omega)
  have b0 := n0.grown g0 n0.size (fun j e => by cases e; exact Nat.le_refl _)
  have b1 := b0.grown g1 b0.size (fun j e => by cases e; exact Nat.le_succ _)
  go_wp2_with fail
  rw [show (W1.alloc (.cells #[.int .i64 0, .int .i64 0, .int .i64 0, .int .i64 0, .int .i64 0, .int .i64 0, .int .i64 0, .int .i64 0, .int .i64 0, .int .i64 0, .int .i64 0, .int .i64 0, .int .i64 0, .int .i64 0, .int .i64 0, .int .i64 0, .int .i64 0, .int .i64 0] 63)).alloc (.cells #[.int .i64 0, .int .i64 0, .int .i64 0, .int .i64 0, .int .i64 0, .int .i64 0, .int .i64 0, .int .i64 0, .int .i64 0, .int .i64 0, .int .i64 0, .int .i64 0, .int .i64 0, .int .i64 0, .int .i64 0, .int .i64 0, .int .i64 0, .int .i64 0] 63) = Y from hY.symm, s0]
  have HY := Lib.hid hY
  clear hY n0 z0 z1 s0 g0 z2 g1 v0
  go_simp
  have ld0 := v0'.load
  have ld1 := v1.load
  have hW := hb1.trans (b1.mono hb1.size)
  clear ld0 ld1
  go_wp2_with fail
  refine wp_region_held (S := fun w' => ResAt w' W1.heap.size (noneR) ∧ ResAt w' (W1.heap.size + 1) (noneR)) (by kernel_rfl) ?_
  have hS : ResAt X1.drew W1.heap.size (noneR) ∧ ResAt X1.drew (W1.heap.size + 1) (noneR) := ⟨v0', v1⟩
  refine wpAnyH_take (i := 0) (v := .iface T v) rfl (by kernel_rfl) (by kernel_rfl) (by kernel_rfl) (fun _ _ _ h => h) (Or.inl ⟨by rfl, fun w hw => by go_simp⟩) hS ?_
  go_simp
  refine wpAnyH_take (i := 1) (v := .bool false) rfl (by kernel_rfl) (by kernel_rfl) (by kernel_rfl) (fun _ _ _ h => h) (Or.inl ⟨by rfl, fun w hw => by go_simp⟩) hS ?_
  go_simp
  refine wpAnyH_take (i := 2) (v := .bool false) rfl (by kernel_rfl) (by kernel_rfl) (by kernel_rfl) (fun _ _ _ h => h) (Or.inl ⟨by rfl, fun w hw => by go_simp⟩) hS ?_
  go_simp
  refine wpAnyH_take (i := 3) (v := undef) rfl (by kernel_rfl) (by kernel_rfl) (by kernel_rfl) (fun _ _ _ h => h) (Or.inr ⟨by rfl, rfl⟩) hS ?_
  go_simp
  refine wpAnyH_take (i := 4) (v := undef) rfl (by kernel_rfl) (by kernel_rfl) (by kernel_rfl) (fun _ _ _ h => h) (Or.inr ⟨by rfl, rfl⟩) hS ?_
  go_simp
  refine wpAnyH_take (i := 5) (v := undef) rfl (by kernel_rfl) (by kernel_rfl) (by kernel_rfl) (fun _ _ _ h => h) (Or.inr ⟨by rfl, rfl⟩) hS ?_
  go_simp
  refine wpAnyH_take (i := 6) (v := undef) rfl (by kernel_rfl) (by kernel_rfl) (by kernel_rfl) (fun _ _ _ h => h) (Or.inr ⟨by rfl, rfl⟩) hS ?_
  go_simp
  refine wpAnyH_take (i := 7) (v := undef) rfl (by kernel_rfl) (by kernel_rfl) (by kernel_rfl) (fun _ _ _ h => h) (Or.inr ⟨by rfl, rfl⟩) hS ?_
  go_simp
  refine wpAnyH_take (i := 8) (v := .bool false) rfl (by kernel_rfl) (by kernel_rfl) (by kernel_rfl) (fun _ _ _ h => h) (Or.inl ⟨by rfl, fun w hw => by go_simp⟩) hS ?_
  go_simp
  refine wpAnyH_take (i := 9) (v := .bool false) rfl (by kernel_rfl) (by kernel_rfl) (by kernel_rfl) (fun _ _ _ h => h) (Or.inl ⟨by rfl, fun w hw => by go_simp⟩) hS ?_
  go_simp
  refine wpAnyH_done (by kernel_rfl) ?_ _
  go_wp2_with fail
  go_ret
  exact ⟨rfl, hW.drew⟩

theorem pbelow (p q : ByteArray) (w : World) {N : Nat} (hE : Laid3 N w) :
    Calls Tryd.prog 23 #[.string p, .string q] w fun e w' => e = .returned (.bool (belowZ p q)) ∧ Below w.heap.size w w' := by
  unfold belowZ
  cases hP : readP p.toList with
  | none => exact pbelow_none p q w (pboth_first p q w hE hP)
  | some a =>
    cases hQ : readP q.toList with
    | none => exact pbelow_none p q w (pboth_second p q w hE hP hQ)
    | some b => exact pbelow_some p q w (small_run (readP_iff.1 hP).1) (small_run (readP_iff.1 hQ).1) (pboth_both p q w hE hP hQ)
end Go.Proofs.YtgkgkaapjljpcaaDoor

