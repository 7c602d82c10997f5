/- Chapter 11, the program: results added; IsBelow. -/
import Derived.Test.YtgkgkaapjljpcaaDoorYE
namespace Go.Proofs.YtgkgkaapjljpcaaDoor
open Go.ChangeShapes Go.WideShapes Go.ChangeAt Go.RowKit Go.Shelf
attribute [local go_sem] Oper.semAt_some
set_option maxRecDepth 100000
attribute [local go_sem ↓ 10000] heldL_eq heldS_eq

def heldI (v i : Value) : Sem Value := Instr.index 63 v i
theorem heldI_eq (v i : Value) : Instr.index 63 v i = heldI v i := rfl
attribute [local go_sem ↓ 10000] heldI_eq
theorem index_res (r : Nat → Nat × Nat) (i : Nat) (h : i < 9) (W : World) : (heldI (resV r) (.int .i64 (i : Int))).run Tryd.prog W = .ok (.agg #[.int .i64 ((r (2 ^ i)).1 : Int), .int .i64 ((r (2 ^ i)).2 : Int)]) W := by
  unfold heldI
  match i, h with
  | 0, _ => rfl
  | 1, _ => rfl
  | 2, _ => rfl
  | 3, _ => rfl
  | 4, _ => rfl
  | 5, _ => rfl
  | 6, _ => rfl
  | 7, _ => rfl
  | 8, _ => rfl
/-- The state of a set of one. -/
def mixR (r u : Nat → Nat × Nat) (k : Nat) : Nat → Nat × Nat := fun m => if m < 2 ^ k then both2 (r m) (u m) else r m
theorem mix_at (r u : Nat → Nat × Nat) (k j : Nat) : mixR r u k (2 ^ j) = if j < k then both2 (r (2 ^ j)) (u (2 ^ j)) else r (2 ^ j) := by
  unfold mixR
  by_cases h : j < k
  · rw [if_pos h, if_pos (Nat.pow_lt_pow_right (by omega) h)]
  · rw [if_neg h, if_neg (by have := Nat.pow_le_pow_right (n := 2) (by omega) (Nat.le_of_not_lt h); omega)]
theorem resA_get (f : Nat → Nat × Nat) {j : Nat} (hj : j < 9) : (resA f)[j * 2]? = some (.int .i64 ((f (2 ^ j)).1 : Int)) ∧ (resA f)[j * 2 + 1]? = some (.int .i64 ((f (2 ^ j)).2 : Int)) := by
  match j, hj with
  | 0, _ => exact ⟨rfl, rfl⟩
  | 1, _ => exact ⟨rfl, rfl⟩
  | 2, _ => exact ⟨rfl, rfl⟩
  | 3, _ => exact ⟨rfl, rfl⟩
  | 4, _ => exact ⟨rfl, rfl⟩
  | 5, _ => exact ⟨rfl, rfl⟩
  | 6, _ => exact ⟨rfl, rfl⟩
  | 7, _ => exact ⟨rfl, rfl⟩
  | 8, _ => exact ⟨rfl, rfl⟩
theorem ResAt.set2 {W : World} {g : Nat} {f f' : Nat → Nat × Nat} (h : ResAt W g f) {k : Nat} (hk : k < 9) (h1 : ∀ j, j < 9 → j ≠ k → f' (2 ^ j) = f (2 ^ j)) :
    ResAt ((W.setCell ⟨g, k * 2, none⟩ (.int .i64 ((f' (2 ^ k)).1 : Int))).setCell ⟨g, k * 2 + 1, none⟩ (.int .i64 ((f' (2 ^ k)).2 : Int))) g f' := by
  unfold ResAt at *
  have h2 := heap_setCell_same W g (k * 2) _ 63 (.int .i64 ((f' (2 ^ k)).1 : Int)) h
  rw [heap_setCell_same _ g (k * 2 + 1) _ 63 _ h2]
  congr 2
  apply Array.ext_getElem?
  intro i
  have hsz : (resA f).size = 18 := rfl
  rw [Array.getElem?_setIfInBounds, Array.getElem?_setIfInBounds]
  simp only [Array.size_setIfInBounds, hsz]
  by_cases hi : i < 18
  · obtain ⟨j, hj, hj2⟩ : ∃ j, j < 9 ∧ (i = j * 2 ∨ i = j * 2 + 1) := ⟨i / 2, by omega, by omega⟩
    by_cases e : j = k
    · subst e
      rcases hj2 with rfl | rfl
      · rw [if_neg (by omega), if_pos rfl, if_pos (by omega), (resA_get f' hj).1]
      · rw [if_pos rfl, if_pos (by omega), (resA_get f' hj).2]
    · rcases hj2 with rfl | rfl
      · rw [if_neg (by omega), if_neg (by omega), (resA_get f hj).1, (resA_get f' hj).1, h1 j hj e]
      · rw [if_neg (by omega), if_neg (by omega), (resA_get f hj).2, (resA_get f' hj).2, h1 j hj e]
  · rw [if_neg (by omega), if_neg (by omega), Array.getElem?_eq_none (by rw [hsz]; omega), Array.getElem?_eq_none (by show 18 ≤ i; omega)]
theorem resA_congr {f f' : Nat → Nat × Nat} (h : ∀ j, j < 9 → f (2 ^ j) = f' (2 ^ j)) : resA f = resA f' := by
  unfold resA outCells
  congr 1
  simp only [List.flatMap]
  congr 1
  apply List.map_congr_left
  intro s hs
  rw [h s (List.mem_range.1 hs)]
theorem set_grown (W : World) (g i j : Nat) (a b : Value) : W.grownBy ((W.setCell ⟨g, i, none⟩ a).setCell ⟨g, j, none⟩ b) (some g) :=
  ⟨rfl, rfl, rfl, by simp, fun k _ hk => (heap_setCell_other _ ⟨g, j, none⟩ k _ (fun e => hk (by simp [e]))).trans (heap_setCell_other W ⟨g, i, none⟩ k _ (fun e => hk (by simp [e])))⟩
def SmallR (r : Nat → Nat × Nat) : Prop := ∀ j, j < 9 → (r (2 ^ j)).1 < 512 ∧ (r (2 ^ j)).2 < 512
set_option maxHeartbeats 4000000 in
theorem pwith (r u : Nat → Nat × Nat) (hr : SmallR r) (hu : SmallR u) (w : World) :
    Calls Tryd.prog 45 #[resV r, resV u] w fun e w' => e = .returned (resV (mixR r u 9)) ∧ Below w.heap.size w w' := by
  obtain ⟨V, hV⟩ : ∃ V, V = ((w.alloc (.cells (resA r) 63)).alloc (.cells (resA u) 63)).alloc (.cells (resA noneR) 63) := ⟨_, rfl⟩
  have hA : Below w.heap.size w V := by rw [hV]; exact (((Below.refl _ _).alloc (Nat.le_refl _) _).alloc (by simp) _).alloc (by simp; omega) _
  have v0 : ResAt V w.heap.size r := by rw [hV]; exact ((ResAt.new w _).grown (World.grownBy_alloc _ _ none) (by simp)).grown (World.grownBy_alloc _ _ none) (by simp)
  have v1 : ResAt V (w.heap.size + 1) u := by
    rw [hV]
    have := (ResAt.new (w.alloc (.cells (resA r) 63)) u).grown (World.grownBy_alloc _ (.cells (resA noneR) 63) none) (by simp)
    rw [World.size_alloc] at this
    exact this
  have v2 : ResAt V (w.heap.size + 1 + 1) noneR := by
    rw [hV]
    have := ResAt.new ((w.alloc (.cells (resA r) 63)).alloc (.cells (resA u) 63)) noneR
    rw [World.size_alloc, World.size_alloc] at this
    exact this
  have ld := v1.load
  have HLD := Lib.hid ld
  clear ld
  rw [show resV r = .agg (resA r) from rfl, show resV u = .agg (resA u) from rfl]
  go_enter Tryd.func45, Tryd.ntmps45
  go_wp2_with fail
  rw [show ((w.alloc (.cells (resA r) 63)).alloc (.cells (resA u) 63)).alloc (.cells #[.int .i64 0, .int .i64 0, .int .i64 0, .int .i64 0, .int .i64 0, .int .i64 0, .int .i64 0, .int .i64 0, .int .i64 0, .int .i64 0, .int .i64 0, .int .i64 0, .int .i64 0, .int .i64 0, .int .i64 0, .int .i64 0, .int .i64 0, .int .i64 0] 63) = V from hV.symm, HLD.out]
  have HV := Lib.hid hV
  clear hV
  go_simp
  go_wp2_with fail
  have s0 := v0.lt
  generalize hg0 : w.heap.size = g0 at v0 v1 v2 s0 ⊢
  have HA := Lib.hid (And.intro hA hg0)
  rw [hg0] at hA
  clear HLD
  have hsm : ∀ j, j < 9 → Small (r (2 ^ j)) := hr
  have hsm2 : ∀ j, j < 9 → Small (u (2 ^ j)) := hu
  clear hA hg0
  go_loopw [8] (fun i wr => ∃ k : Nat, k ≤ 9 ∧ i = .int .i64 (k : Int) ∧ ResAt wr g0 (mixR r u k) ∧ ResAt wr (g0 + 1 + 1) noneR ∧ Below g0 w wr) (fun i _ => 9 - (intOf i).toNat)
  case atStart =>
    refine ⟨0, by omega, rfl, ?_, v2, by have := HA.out.1; rwa [HA.out.2] at this⟩
    unfold ResAt
    rw [resA_congr (f := mixR r u 0) (f' := r) (fun j _ => by rw [mix_at, if_neg (Nat.not_lt_zero j)])]
    exact v0
  case round =>
    obtain ⟨k, hk, rfl, hR, hZ, hB⟩ := hrel
    by_cases hlt : k < 9
    · have k8 : (k : Int) < 9 := by omega
      have k0 : (0 : Int) ≤ (k : Int) := by omega
      have hix := index_res u k hlt
      obtain ⟨c0, c1⟩ := hR.nine k hlt
      rw [mix_at, if_neg (Nat.lt_irrefl k)] at c0 c1
      have hw := with44x (r (2 ^ k)) (u (2 ^ k)) (hsm k hlt) (hsm2 k hlt)
      have A1 : Below wr.heap.size wr (wr.alloc (.cells #[.int .i64 ((u (2 ^ k)).1 : Int), .int .i64 ((u (2 ^ k)).2 : Int)] 61)) := (Below.refl _ _).alloc (Nat.le_refl _) _
      have hR1 := hR.below A1
      have hZ1 := hZ.below A1
      have L1 := Lies.new wr #[.int .i64 ((u (2 ^ k)).1 : Int), .int .i64 ((u (2 ^ k)).2 : Int)] 61
      obtain ⟨d0, d1, _, _⟩ := L1.cells
      obtain ⟨e0, e1⟩ := hR1.nine k hlt
      rw [mix_at, if_neg (Nat.lt_irrefl k)] at e0 e1
      have hsz : g0 < wr.heap.size := hR.lt
      go_wp2_with fail
      have hf0 : ∀ X : World, ResAt X g0 (mixR r u k) → ∀ j, X.frozen? ⟨g0, j, none⟩ = false := fun X h j => by unfold ResAt at h; simp [World.frozen?, h]
      go_region_with (go_at_call 63; refine (hw _).mono ?_; rintro e W3 ⟨rfl, hb3⟩; have hR3 : ResAt W3 g0 (mixR r u k) := ResAt.below (by first | exact hR1 | exact (show ResAt (World.drew _) g0 _ from hR1)) hb3; obtain ⟨f0, f1⟩ := hR3.nine k hlt; have fz0 := hf0 W3 hR3 (k * 2); have fz1 := hf0 W3 hR3 (k * 2 + 1))
      all_goals go_wp2_with fail
      all_goals
        have hb4 : Below wr.heap.size wr W3 := by first | exact A1.trans (hb3.mono A1.size) | exact A1.drew.trans (hb3.mono A1.size) | exact A1.drew.drew.trans (hb3.mono A1.size)
        have hZ3 : ResAt W3 (g0 + 1 + 1) noneR := hZ.below hb4
        have G := set_grown W3 g0 (k * 2) (k * 2 + 1) (.int .i64 (((r (2 ^ k)).1 ||| (u (2 ^ k)).1 : Nat) : Int)) (.int .i64 (((r (2 ^ k)).2 ||| (u (2 ^ k)).2 : Nat) : Int))
        have S := hR3.set2 (f' := mixR r u (k + 1)) hlt (fun j hj hjk => by
          rw [mix_at, mix_at]
          by_cases h : j < k
          · rw [if_pos h, if_pos (by omega)]
          · rw [if_neg h, if_neg (by omega)])
        rw [mix_at, if_pos (Nat.lt_succ_self k)] at S
        have hB3 := hB.trans (hb4.mono (Nat.le_of_lt hsz))
        refine ⟨⟨k + 1, by omega, by go_num, S, hZ3.grown G (by intro e; have := Option.some.inj e; omega), hB3.grown G (Nat.le_trans (Nat.le_of_lt hsz) hb4.size) (fun j e => by cases e; exact Nat.le_refl _)⟩, by simp [intOf]; omega⟩
    · obtain rfl : k = 9 := by omega
      have ldr := hR.load
      obtain ⟨X5, s5, v5, g5⟩ := hZ.store (mixR r u 9)
      go_wp2_with fail
      refine bodyPost_ret (results_cell_row Tryd.results45 _ X5 (g0 + 1 + 1) 63 (resA (mixR r u 9)) (0, 0) _ rfl v5 Tryd.underlying63 rfl (by kernel_rfl)) rfl ⟨rfl, ?_⟩
      rw [HA.out.2]
      exact hB.grown g5 (Nat.le_of_lt hR.lt) (fun j e => by cases e; omega)
end Go.Proofs.YtgkgkaapjljpcaaDoor

