/- Chapter 8, the program: what is reached, turned round: where there is no exit, or no program. -/
import Derived.Test.YtngcdgnijfiocaaGreatDoorBI
import Derived.Test.YtngcdgnijfiocaaGreatDoorLY
namespace Go.Proofs.YtngcdgnijfiocaaGreatDoor
open Go.ChangeShapes Go.WideShapes Go.ChangeAt Go.RowKit Go.Shelf
attribute [local go_sem] Oper.semAt_some
set_option maxRecDepth 100000

/-- The nine stores by which a table's variable is written. -/
def set9 (W : World) (b : Nat) (F : Nat → Nat) : World :=
  (((((((((W.setCell ⟨b, 0, none⟩ (.int .i64 (F 0 : Int))).setCell ⟨b, 1, none⟩ (.int .i64 (F 1 : Int))).setCell ⟨b, 2, none⟩ (.int .i64 (F 2 : Int))).setCell ⟨b, 3, none⟩ (.int .i64 (F 3 : Int))).setCell ⟨b, 4, none⟩ (.int .i64 (F 4 : Int))).setCell ⟨b, 5, none⟩ (.int .i64 (F 5 : Int))).setCell ⟨b, 6, none⟩ (.int .i64 (F 6 : Int))).setCell ⟨b, 7, none⟩ (.int .i64 (F 7 : Int))).setCell ⟨b, 8, none⟩ (.int .i64 (F 8 : Int)))
theorem set9_lies {W : World} {b : Nat} {F0 : Nat → Nat} {t : TypeId} (h : Lies W b (revA F0) t) (F : Nat → Nat) : Lies (set9 W b F) b (revA F) t := by
  have h1 := rev_set (rev_set (rev_set (rev_set (rev_set (rev_set (rev_set (rev_set (rev_set h (s := 0) (by omega) (F 0)) (s := 1) (by omega) (F 1)) (s := 2) (by omega) (F 2)) (s := 3) (by omega) (F 3)) (s := 4) (by omega) (F 4)) (s := 5) (by omega) (F 5)) (s := 6) (by omega) (F 6)) (s := 7) (by omega) (F 7)) (s := 8) (by omega) (F 8)
  exact h1
theorem set9_other (W : World) (b : Nat) (F : Nat → Nat) {a : Addr} (h : a.block ≠ b) : (set9 W b F).cell? a = W.cell? a := by
  have H : ∀ (Z : World) (o : Nat) (u : Value), (Z.setCell ⟨b, o, none⟩ u).cell? a = Z.cell? a := fun Z o u => World.cell?_of_block (heap_setCell_other Z _ a.block u (by simpa using h))
  unfold set9
  iterate 9 rw [H]
theorem set9_below {A W : World} {n b : Nat} (h : Below n A W) (hn : n ≤ b) (F : Nat → Nat) : Below n A (set9 W b F) := by
  unfold set9
  iterate 9 refine Below.setCell ?_ (p := ⟨b, _, none⟩) hn _
  exact h

set_option maxHeartbeats 1000000 in
theorem prev_exit (t : ByteArray) (x : Int) (w : World) {N : Nat} (hL : Laid3 N w) (hE : NoExit N w) (hx : inB x 0 1 = false) :
    Calls Tryz.prog 64 #[.string t, .int .i64 x] w fun e w' => (∃ T v, e = .returned (.tuple #[.agg (revA fun _ => 0), .iface T v])) ∧ Below w.heap.size w w' := by
  obtain ⟨⟨T, v, hc⟩, hgN⟩ := hE
  have hgl : (⟨2, 0, none⟩ : Addr).block ≠ w.heap.size := by have := hL.lt; show 2 ≠ _; omega
  have hn : nameX x = ⟨#[]⟩ := by
    have := of_decide_eq_false hx
    unfold nameX
    rw [if_neg (by omega), if_neg (by omega)]
  have HN := Lib.hid hn
  clear hn hx
  have hB0 : Below w.heap.size w (w.alloc (.cells #[.int .i64 0, .int .i64 0, .int .i64 0, .int .i64 0, .int .i64 0, .int .i64 0, .int .i64 0, .int .i64 0, .int .i64 0] 102)) := (Below.refl _ w).alloc (Nat.le_refl _) _
  have hR := Lies.new w (revA fun _ => 0) 102
  change Lies (w.alloc (.cells #[.int .i64 0, .int .i64 0, .int .i64 0, .int .i64 0, .int .i64 0, .int .i64 0, .int .i64 0, .int .i64 0, .int .i64 0] 102)) _ _ _ at hR
  have hc0 := cellAlloc (.cells #[.int .i64 0, .int .i64 0, .int .i64 0, .int .i64 0, .int .i64 0, .int .i64 0, .int .i64 0, .int .i64 0, .int .i64 0] 102) hc
  go_enter Tryz.func64, Tryz.ntmps64
  go_wp2_with (go_at_call 39; refine (pname26 _ _).mono ?_; rintro e w' ⟨rfl, rfl⟩; rw [HN.out])
  generalize w.alloc (.cells #[.int .i64 0, .int .i64 0, .int .i64 0, .int .i64 0, .int .i64 0, .int .i64 0, .int .i64 0, .int .i64 0, .int .i64 0] 102) = W at hB0 hc0 hR ⊢
  obtain ⟨d0, f0⟩ := rev_cell hR (s := 0) (by omega)
  obtain ⟨d1, f1⟩ := rev_cell hR (s := 1) (by omega)
  obtain ⟨d2, f2⟩ := rev_cell hR (s := 2) (by omega)
  obtain ⟨d3, f3⟩ := rev_cell hR (s := 3) (by omega)
  obtain ⟨d4, f4⟩ := rev_cell hR (s := 4) (by omega)
  obtain ⟨d5, f5⟩ := rev_cell hR (s := 5) (by omega)
  obtain ⟨d6, f6⟩ := rev_cell hR (s := 6) (by omega)
  obtain ⟨d7, f7⟩ := rev_cell hR (s := 7) (by omega)
  obtain ⟨d8, f8⟩ := rev_cell hR (s := 8) (by omega)
  have hSL := set9_lies hR (fun _ => 0)
  have hSB := set9_below hB0 (Nat.le_refl _) (fun _ => 0)
  have hSC := @set9_other W w.heap.size (fun _ => 0)
  unfold set9 at hSL hSB hSC
  change Lies (((((((((W.setCell ⟨w.heap.size, 0, none⟩ (.int .i64 0)).setCell ⟨w.heap.size, 1, none⟩ (.int .i64 0)).setCell ⟨w.heap.size, 2, none⟩ (.int .i64 0)).setCell ⟨w.heap.size, 3, none⟩ (.int .i64 0)).setCell ⟨w.heap.size, 4, none⟩ (.int .i64 0)).setCell ⟨w.heap.size, 5, none⟩ (.int .i64 0)).setCell ⟨w.heap.size, 6, none⟩ (.int .i64 0)).setCell ⟨w.heap.size, 7, none⟩ (.int .i64 0)).setCell ⟨w.heap.size, 8, none⟩ (.int .i64 0)) _ _ _ at hSL
  change Below _ _ (((((((((W.setCell ⟨w.heap.size, 0, none⟩ (.int .i64 0)).setCell ⟨w.heap.size, 1, none⟩ (.int .i64 0)).setCell ⟨w.heap.size, 2, none⟩ (.int .i64 0)).setCell ⟨w.heap.size, 3, none⟩ (.int .i64 0)).setCell ⟨w.heap.size, 4, none⟩ (.int .i64 0)).setCell ⟨w.heap.size, 5, none⟩ (.int .i64 0)).setCell ⟨w.heap.size, 6, none⟩ (.int .i64 0)).setCell ⟨w.heap.size, 7, none⟩ (.int .i64 0)).setCell ⟨w.heap.size, 8, none⟩ (.int .i64 0)) at hSB
  change ∀ {a : Addr}, a.block ≠ w.heap.size → (((((((((W.setCell ⟨w.heap.size, 0, none⟩ (.int .i64 0)).setCell ⟨w.heap.size, 1, none⟩ (.int .i64 0)).setCell ⟨w.heap.size, 2, none⟩ (.int .i64 0)).setCell ⟨w.heap.size, 3, none⟩ (.int .i64 0)).setCell ⟨w.heap.size, 4, none⟩ (.int .i64 0)).setCell ⟨w.heap.size, 5, none⟩ (.int .i64 0)).setCell ⟨w.heap.size, 6, none⟩ (.int .i64 0)).setCell ⟨w.heap.size, 7, none⟩ (.int .i64 0)).setCell ⟨w.heap.size, 8, none⟩ (.int .i64 0)).cell? a = _ at hSC
  clear hR
  refine wp_region_any (by kernel_rfl) ?_
  change wpAny _ _ _ _ _ _ _ (World.drew _)
  refine wpAny_take (i := 0) (v := .agg #[.int .i64 0, .int .i64 0, .int .i64 0, .int .i64 0, .int .i64 0, .int .i64 0, .int .i64 0, .int .i64 0, .int .i64 0]) rfl (by kernel_rfl) (by kernel_rfl) (by kernel_rfl) (fun _ _ _ h => h) (Or.inl ⟨by rfl, fun w => by first | rfl | kernel_rfl | go_simp⟩) ?_
  refine wpAny_ready (rs := [1, 2]) (by kernel_rfl) (by simp) ?_
  refine AllReady.cons rfl (fun K hK => ?_) (AllReady.cons rfl (fun K hK => ?_) AllReady.nil)
  · go_simp
    refine hK _ _ ?_
    clear hK K
    refine wpAny_ready (rs := [2]) (by kernel_rfl) (by simp) ?_
    refine AllReady.cons rfl (fun K hK => ?_) AllReady.nil
    go_simp
    refine hK _ _ ?_
    clear hK K
    refine wpAny_take (i := 3) (v := .iface T v) rfl (by kernel_rfl) (by kernel_rfl) (by kernel_rfl) (fun _ _ _ h => h) (Or.inl ⟨by rfl, fun w => by first | rfl | go_simp⟩) ?_
    refine wpAny_done (by kernel_rfl) ?_ _
    generalize (((((((((W.setCell ⟨w.heap.size, 0, none⟩ (.int .i64 0)).setCell ⟨w.heap.size, 1, none⟩ (.int .i64 0)).setCell ⟨w.heap.size, 2, none⟩ (.int .i64 0)).setCell ⟨w.heap.size, 3, none⟩ (.int .i64 0)).setCell ⟨w.heap.size, 4, none⟩ (.int .i64 0)).setCell ⟨w.heap.size, 5, none⟩ (.int .i64 0)).setCell ⟨w.heap.size, 6, none⟩ (.int .i64 0)).setCell ⟨w.heap.size, 7, none⟩ (.int .i64 0)).setCell ⟨w.heap.size, 8, none⟩ (.int .i64 0)) = Z at hSL hSB hSC ⊢
    have hZ : Lies Z.drew w.heap.size (revA fun _ => 0) 102 := hSL
    obtain ⟨z0, _⟩ := rev_cell hZ (s := 0) (by omega)
    obtain ⟨z1, _⟩ := rev_cell hZ (s := 1) (by omega)
    obtain ⟨z2, _⟩ := rev_cell hZ (s := 2) (by omega)
    obtain ⟨z3, _⟩ := rev_cell hZ (s := 3) (by omega)
    obtain ⟨z4, _⟩ := rev_cell hZ (s := 4) (by omega)
    obtain ⟨z5, _⟩ := rev_cell hZ (s := 5) (by omega)
    obtain ⟨z6, _⟩ := rev_cell hZ (s := 6) (by omega)
    obtain ⟨z7, _⟩ := rev_cell hZ (s := 7) (by omega)
    obtain ⟨z8, _⟩ := rev_cell hZ (s := 8) (by omega)
    go_wp2_with fail
    exact bodyPost_ret (v := .tuple #[.agg (revA fun _ => 0), .iface T v]) (by simp [results, Tryz.results64, go_sem, revA, z0, z1, z2, z3, z4, z5, z6, z7, z8]) rfl ⟨⟨T, v, rfl⟩, hSB.drew⟩
  · go_simp
    refine hK _ _ ?_
    clear hK K
    have hc9 := (hSC hgl).trans hc0
    refine wpAny_ready (rs := [1]) (by kernel_rfl) (by simp) ?_
    refine AllReady.cons rfl (fun K hK => ?_) AllReady.nil
    go_simp
    refine hK _ _ ?_
    clear hK K
    refine wpAny_take (i := 3) (v := .iface T v) rfl (by kernel_rfl) (by kernel_rfl) (by kernel_rfl) (fun _ _ _ h => h) (Or.inl ⟨by rfl, fun w => by first | rfl | go_simp⟩) ?_
    refine wpAny_done (by kernel_rfl) ?_ _
    generalize (((((((((W.setCell ⟨w.heap.size, 0, none⟩ (.int .i64 0)).setCell ⟨w.heap.size, 1, none⟩ (.int .i64 0)).setCell ⟨w.heap.size, 2, none⟩ (.int .i64 0)).setCell ⟨w.heap.size, 3, none⟩ (.int .i64 0)).setCell ⟨w.heap.size, 4, none⟩ (.int .i64 0)).setCell ⟨w.heap.size, 5, none⟩ (.int .i64 0)).setCell ⟨w.heap.size, 6, none⟩ (.int .i64 0)).setCell ⟨w.heap.size, 7, none⟩ (.int .i64 0)).setCell ⟨w.heap.size, 8, none⟩ (.int .i64 0)) = Z at hSL hSB hSC ⊢
    have hZ : Lies Z.drew w.heap.size (revA fun _ => 0) 102 := hSL
    obtain ⟨z0, _⟩ := rev_cell hZ (s := 0) (by omega)
    obtain ⟨z1, _⟩ := rev_cell hZ (s := 1) (by omega)
    obtain ⟨z2, _⟩ := rev_cell hZ (s := 2) (by omega)
    obtain ⟨z3, _⟩ := rev_cell hZ (s := 3) (by omega)
    obtain ⟨z4, _⟩ := rev_cell hZ (s := 4) (by omega)
    obtain ⟨z5, _⟩ := rev_cell hZ (s := 5) (by omega)
    obtain ⟨z6, _⟩ := rev_cell hZ (s := 6) (by omega)
    obtain ⟨z7, _⟩ := rev_cell hZ (s := 7) (by omega)
    obtain ⟨z8, _⟩ := rev_cell hZ (s := 8) (by omega)
    go_wp2_with fail
    exact bodyPost_ret (v := .tuple #[.agg (revA fun _ => 0), .iface T v]) (by simp [results, Tryz.results64, go_sem, revA, z0, z1, z2, z3, z4, z5, z6, z7, z8]) rfl ⟨⟨T, v, rfl⟩, hSB.drew⟩

set_option maxHeartbeats 1000000 in
theorem prev_none (t : ByteArray) (x : Int) (w : World) {N : Nat} (hL : Laid3 N w) (hx : x = 0 ∨ x = 1) (hP : readP t.toList = none) :
    Calls Tryz.prog 64 #[.string t, .int .i64 x] w fun e w' => (∃ T v, e = .returned (.tuple #[.agg (revA fun _ => 0), .iface T v])) ∧ Below w.heap.size w w' := by
  have hn : (nameX x).toList.isEmpty = false := by rcases hx with rfl | rfl <;> (rw [Lib.toList_data]; rfl)
  have HN := Lib.hid hn
  clear hn hx
  have hB0 : Below w.heap.size w (w.alloc (.cells #[.int .i64 0, .int .i64 0, .int .i64 0, .int .i64 0, .int .i64 0, .int .i64 0, .int .i64 0, .int .i64 0, .int .i64 0] 102)) := (Below.refl _ w).alloc (Nat.le_refl _) _
  have hR := Lies.new w (revA fun _ => 0) 102
  change Lies (w.alloc (.cells #[.int .i64 0, .int .i64 0, .int .i64 0, .int .i64 0, .int .i64 0, .int .i64 0, .int .i64 0, .int .i64 0, .int .i64 0] 102)) _ _ _ at hR
  have hout := pouts_none t _ (hL.below hB0 hL.lt) hP
  clear hP
  go_enter Tryz.func64, Tryz.ntmps64
  go_wp2_with (first
    | (go_at_call 39; refine (pname26 _ _).mono ?_; rintro e w' ⟨rfl, rfl⟩; have hN := HN.out)
    | (go_at_call 94; refine hout.mono ?_; rintro e W ⟨⟨T, v, rfl⟩, hb1⟩; have hR1 := hR.below hb1; obtain ⟨d0, f0⟩ := rev_cell hR1 (s := 0) (by omega); obtain ⟨d1, f1⟩ := rev_cell hR1 (s := 1) (by omega); obtain ⟨d2, f2⟩ := rev_cell hR1 (s := 2) (by omega); obtain ⟨d3, f3⟩ := rev_cell hR1 (s := 3) (by omega); obtain ⟨d4, f4⟩ := rev_cell hR1 (s := 4) (by omega); obtain ⟨d5, f5⟩ := rev_cell hR1 (s := 5) (by omega); obtain ⟨d6, f6⟩ := rev_cell hR1 (s := 6) (by omega); obtain ⟨d7, f7⟩ := rev_cell hR1 (s := 7) (by omega); obtain ⟨d8, f8⟩ := rev_cell hR1 (s := 8) (by omega)))
  have hR := hR.below hb1
  replace hB0 := hB0.trans (hb1.mono hB0.size)
  clear hb1
  have hSL := set9_lies hR (fun _ => 0)
  have hSB := set9_below hB0 (Nat.le_refl _) (fun _ => 0)
  have hSC := @set9_other W w.heap.size (fun _ => 0)
  unfold set9 at hSL hSB hSC
  change Lies (((((((((W.setCell ⟨w.heap.size, 0, none⟩ (.int .i64 0)).setCell ⟨w.heap.size, 1, none⟩ (.int .i64 0)).setCell ⟨w.heap.size, 2, none⟩ (.int .i64 0)).setCell ⟨w.heap.size, 3, none⟩ (.int .i64 0)).setCell ⟨w.heap.size, 4, none⟩ (.int .i64 0)).setCell ⟨w.heap.size, 5, none⟩ (.int .i64 0)).setCell ⟨w.heap.size, 6, none⟩ (.int .i64 0)).setCell ⟨w.heap.size, 7, none⟩ (.int .i64 0)).setCell ⟨w.heap.size, 8, none⟩ (.int .i64 0)) _ _ _ at hSL
  change Below _ _ (((((((((W.setCell ⟨w.heap.size, 0, none⟩ (.int .i64 0)).setCell ⟨w.heap.size, 1, none⟩ (.int .i64 0)).setCell ⟨w.heap.size, 2, none⟩ (.int .i64 0)).setCell ⟨w.heap.size, 3, none⟩ (.int .i64 0)).setCell ⟨w.heap.size, 4, none⟩ (.int .i64 0)).setCell ⟨w.heap.size, 5, none⟩ (.int .i64 0)).setCell ⟨w.heap.size, 6, none⟩ (.int .i64 0)).setCell ⟨w.heap.size, 7, none⟩ (.int .i64 0)).setCell ⟨w.heap.size, 8, none⟩ (.int .i64 0)) at hSB
  change ∀ {a : Addr}, a.block ≠ w.heap.size → (((((((((W.setCell ⟨w.heap.size, 0, none⟩ (.int .i64 0)).setCell ⟨w.heap.size, 1, none⟩ (.int .i64 0)).setCell ⟨w.heap.size, 2, none⟩ (.int .i64 0)).setCell ⟨w.heap.size, 3, none⟩ (.int .i64 0)).setCell ⟨w.heap.size, 4, none⟩ (.int .i64 0)).setCell ⟨w.heap.size, 5, none⟩ (.int .i64 0)).setCell ⟨w.heap.size, 6, none⟩ (.int .i64 0)).setCell ⟨w.heap.size, 7, none⟩ (.int .i64 0)).setCell ⟨w.heap.size, 8, none⟩ (.int .i64 0)).cell? a = _ at hSC
  clear hR hR1 d0 d1 d2 d3 d4 d5 d6 d7 d8 f0 f1 f2 f3 f4 f5 f6 f7 f8
  generalize (((((((((W.setCell ⟨w.heap.size, 0, none⟩ (.int .i64 0)).setCell ⟨w.heap.size, 1, none⟩ (.int .i64 0)).setCell ⟨w.heap.size, 2, none⟩ (.int .i64 0)).setCell ⟨w.heap.size, 3, none⟩ (.int .i64 0)).setCell ⟨w.heap.size, 4, none⟩ (.int .i64 0)).setCell ⟨w.heap.size, 5, none⟩ (.int .i64 0)).setCell ⟨w.heap.size, 6, none⟩ (.int .i64 0)).setCell ⟨w.heap.size, 7, none⟩ (.int .i64 0)).setCell ⟨w.heap.size, 8, none⟩ (.int .i64 0)) = Z at hSL hSB hSC ⊢
  have hZ : Lies Z w.heap.size (revA fun _ => 0) 102 := hSL
  obtain ⟨z0, _⟩ := rev_cell hZ (s := 0) (by omega)
  obtain ⟨z1, _⟩ := rev_cell hZ (s := 1) (by omega)
  obtain ⟨z2, _⟩ := rev_cell hZ (s := 2) (by omega)
  obtain ⟨z3, _⟩ := rev_cell hZ (s := 3) (by omega)
  obtain ⟨z4, _⟩ := rev_cell hZ (s := 4) (by omega)
  obtain ⟨z5, _⟩ := rev_cell hZ (s := 5) (by omega)
  obtain ⟨z6, _⟩ := rev_cell hZ (s := 6) (by omega)
  obtain ⟨z7, _⟩ := rev_cell hZ (s := 7) (by omega)
  obtain ⟨z8, _⟩ := rev_cell hZ (s := 8) (by omega)
  exact bodyPost_ret (v := .tuple #[.agg (revA fun _ => 0), .iface T v]) (by simp [results, Tryz.results64, go_sem, revA, z0, z1, z2, z3, z4, z5, z6, z7, z8]) rfl ⟨⟨T, v, rfl⟩, hSB⟩
end Go.Proofs.YtngcdgnijfiocaaGreatDoor

