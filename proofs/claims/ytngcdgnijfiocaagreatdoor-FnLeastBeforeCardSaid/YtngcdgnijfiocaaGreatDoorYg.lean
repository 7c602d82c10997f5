/- Chapter 8, the program: what is reached, turned round: where there is no exit, or no program. Chapter 8, the program: what is reached, turned round: the table of a program. Chapter 8, the program: from where a set can be reached, or is the only one; from where a program fails. -/
import Derived.Test.YtngcdgnijfiocaaGreatDoorYf
import Derived.Test.YtngcdgnijfiocaaGreatDoorLY
namespace Go.Proofs.YtngcdgnijfiocaaGreatDoor
open Go.ChangeShapes Go.WideShapes Go.ChangeAt Go.RowKit Go.Shelf
attribute [local go_sem] Oper.semAt_some
set_option maxRecDepth 100000

/-- The nine stores by which a table's variable is written. -/
def set9 (W : World) (b : Nat) (F : Nat → Nat) : World :=
  (((((((((W.setCell ⟨b, 0, none⟩ (.int .i64 (F 0 : Int))).setCell ⟨b, 1, none⟩ (.int .i64 (F 1 : Int))).setCell ⟨b, 2, none⟩ (.int .i64 (F 2 : Int))).setCell ⟨b, 3, none⟩ (.int .i64 (F 3 : Int))).setCell ⟨b, 4, none⟩ (.int .i64 (F 4 : Int))).setCell ⟨b, 5, none⟩ (.int .i64 (F 5 : Int))).setCell ⟨b, 6, none⟩ (.int .i64 (F 6 : Int))).setCell ⟨b, 7, none⟩ (.int .i64 (F 7 : Int))).setCell ⟨b, 8, none⟩ (.int .i64 (F 8 : Int)))
theorem set9_lies {W : World} {b : Nat} {F0 : Nat → Nat} {t : TypeId} (h : Lies W b (revA F0) t) (F : Nat → Nat) : Lies (set9 W b F) b (revA F) t := by
  have h1 := rev_set (rev_set (rev_set (rev_set (rev_set (rev_set (rev_set (rev_set (rev_set h (s := 0) (by omega) (F 0)) (s := 1) (by omega) (F 1)) (s := 2) (by omega) (F 2)) (s := 3) (by omega) (F 3)) (s := 4) (by omega) (F 4)) (s := 5) (by omega) (F 5)) (s := 6) (by omega) (F 6)) (s := 7) (by omega) (F 7)) (s := 8) (by omega) (F 8)
  exact h1
theorem set9_other (W : World) (b : Nat) (F : Nat → Nat) {a : Addr} (h : a.block ≠ b) : (set9 W b F).cell? a = W.cell? a := by
  have H : ∀ (Z : World) (o : Nat) (u : Value), (Z.setCell ⟨b, o, none⟩ u).cell? a = Z.cell? a := fun Z o u => World.cell?_of_block (heap_setCell_other Z _ a.block u (by simpa using h))
  unfold set9
  iterate 9 rw [H]
theorem set9_below {A W : World} {n b : Nat} (h : Below n A W) (hn : n ≤ b) (F : Nat → Nat) : Below n A (set9 W b F) := by
  unfold set9
  iterate 9 refine Below.setCell ?_ (p := ⟨b, _, none⟩) hn _
  exact h

set_option maxHeartbeats 1000000 in
theorem prev_exit (t : ByteArray) (x : Int) (w : World) {N : Nat} (hL : Laid3 N w) (hE : NoExit N w) (hx : inB x 0 1 = false) :
    Calls Tryz.prog 64 #[.string t, .int .i64 x] w fun e w' => (∃ T v, e = .returned (.tuple #[.agg (revA fun _ => 0), .iface T v])) ∧ Below w.heap.size w w' := by
  obtain ⟨⟨T, v, hc⟩, hgN⟩ := hE
  have hgl : (⟨2, 0, none⟩ : Addr).block ≠ w.heap.size := by have := hL.lt; show 2 ≠ _; omega
  have hn : nameX x = ⟨#[]⟩ := by
    have := of_decide_eq_false hx
    unfold nameX
    rw [if_neg (by omega), if_neg (by omega)]
  have HN := Lib.hid hn
  clear hn hx
  have hB0 : Below w.heap.size w (w.alloc (.cells #[.int .i64 0, .int .i64 0, .int .i64 0, .int .i64 0, .int .i64 0, .int .i64 0, .int .i64 0, .int .i64 0, .int .i64 0] 102)) := (Below.refl _ w).alloc (Nat.le_refl _) _
  have hR := Lies.new w (revA fun _ => 0) 102
  change Lies (w.alloc (.cells #[.int .i64 0, .int .i64 0, .int .i64 0, .int .i64 0, .int .i64 0, .int .i64 0, .int .i64 0, .int .i64 0, .int .i64 0] 102)) _ _ _ at hR
  have hc0 := cellAlloc (.cells #[.int .i64 0, .int .i64 0, .int .i64 0, .int .i64 0, .int .i64 0, .int .i64 0, .int .i64 0, .int .i64 0, .int .i64 0] 102) hc
  go_enter Tryz.func64, Tryz.ntmps64
  go_wp2_with (go_at_call 39; refine (pname26 _ _).mono ?_; rintro e w' ⟨rfl, rfl⟩; rw [HN.out])
  generalize w.alloc (.cells #[.int .i64 0, .int .i64 0, .int .i64 0, .int .i64 0, .int .i64 0, .int .i64 0, .int .i64 0, .int .i64 0, .int .i64 0] 102) = W at hB0 hc0 hR ⊢
  obtain ⟨d0, f0⟩ := rev_cell hR (s := 0) (by omega)
  obtain ⟨d1, f1⟩ := rev_cell hR (s := 1) (by omega)
  obtain ⟨d2, f2⟩ := rev_cell hR (s := 2) (by omega)
  obtain ⟨d3, f3⟩ := rev_cell hR (s := 3) (by omega)
  obtain ⟨d4, f4⟩ := rev_cell hR (s := 4) (by omega)
  obtain ⟨d5, f5⟩ := rev_cell hR (s := 5) (by omega)
  obtain ⟨d6, f6⟩ := rev_cell hR (s := 6) (by omega)
  obtain ⟨d7, f7⟩ := rev_cell hR (s := 7) (by omega)
  obtain ⟨d8, f8⟩ := rev_cell hR (s := 8) (by omega)
  have hSL := set9_lies hR (fun _ => 0)
  have hSB := set9_below hB0 (Nat.le_refl _) (fun _ => 0)
  have hSC := @set9_other W w.heap.size (fun _ => 0)
  unfold set9 at hSL hSB hSC
  change Lies (((((((((W.setCell ⟨w.heap.size, 0, none⟩ (.int .i64 0)).setCell ⟨w.heap.size, 1, none⟩ (.int .i64 0)).setCell ⟨w.heap.size, 2, none⟩ (.int .i64 0)).setCell ⟨w.heap.size, 3, none⟩ (.int .i64 0)).setCell ⟨w.heap.size, 4, none⟩ (.int .i64 0)).setCell ⟨w.heap.size, 5, none⟩ (.int .i64 0)).setCell ⟨w.heap.size, 6, none⟩ (.int .i64 0)).setCell ⟨w.heap.size, 7, none⟩ (.int .i64 0)).setCell ⟨w.heap.size, 8, none⟩ (.int .i64 0)) _ _ _ at hSL
  change Below _ _ (((((((((W.setCell ⟨w.heap.size, 0, none⟩ (.int .i64 0)).setCell ⟨w.heap.size, 1, none⟩ (.int .i64 0)).setCell ⟨w.heap.size, 2, none⟩ (.int .i64 0)).setCell ⟨w.heap.size, 3, none⟩ (.int .i64 0)).setCell ⟨w.heap.size, 4, none⟩ (.int .i64 0)).setCell ⟨w.heap.size, 5, none⟩ (.int .i64 0)).setCell ⟨w.heap.size, 6, none⟩ (.int .i64 0)).setCell ⟨w.heap.size, 7, none⟩ (.int .i64 0)).setCell ⟨w.heap.size, 8, none⟩ (.int .i64 0)) at hSB
  change ∀ {a : Addr}, a.block ≠ w.heap.size → (((((((((W.setCell ⟨w.heap.size, 0, none⟩ (.int .i64 0)).setCell ⟨w.heap.size, 1, none⟩ (.int .i64 0)).setCell ⟨w.heap.size, 2, none⟩ (.int .i64 0)).setCell ⟨w.heap.size, 3, none⟩ (.int .i64 0)).setCell ⟨w.heap.size, 4, none⟩ (.int .i64 0)).setCell ⟨w.heap.size, 5, none⟩ (.int .i64 0)).setCell ⟨w.heap.size, 6, none⟩ (.int .i64 0)).setCell ⟨w.heap.size, 7, none⟩ (.int .i64 0)).setCell ⟨w.heap.size, 8, none⟩ (.int .i64 0)).cell? a = _ at hSC
  clear hR
  refine wp_region_any (by kernel_rfl) ?_
  change wpAny _ _ _ _ _ _ _ (World.drew _)
  refine wpAny_take (i := 0) (v := .agg #[.int .i64 0, .int .i64 0, .int .i64 0, .int .i64 0, .int .i64 0, .int .i64 0, .int .i64 0, .int .i64 0, .int .i64 0]) rfl (by kernel_rfl) (by kernel_rfl) (by kernel_rfl) (fun _ _ _ h => h) (Or.inl ⟨by rfl, fun w => by first | rfl | kernel_rfl | go_simp⟩) ?_
  refine wpAny_ready (rs := [1, 2]) (by kernel_rfl) (by simp) ?_
  refine AllReady.cons rfl (fun K hK => ?_) (AllReady.cons rfl (fun K hK => ?_) AllReady.nil)
  · go_simp
    refine hK _ _ ?_
    clear hK K
    refine wpAny_ready (rs := [2]) (by kernel_rfl) (by simp) ?_
    refine AllReady.cons rfl (fun K hK => ?_) AllReady.nil
    go_simp
    refine hK _ _ ?_
    clear hK K
    refine wpAny_take (i := 3) (v := .iface T v) rfl (by kernel_rfl) (by kernel_rfl) (by kernel_rfl) (fun _ _ _ h => h) (Or.inl ⟨by rfl, fun w => by first | rfl | go_simp⟩) ?_
    refine wpAny_done (by kernel_rfl) ?_ _
    generalize (((((((((W.setCell ⟨w.heap.size, 0, none⟩ (.int .i64 0)).setCell ⟨w.heap.size, 1, none⟩ (.int .i64 0)).setCell ⟨w.heap.size, 2, none⟩ (.int .i64 0)).setCell ⟨w.heap.size, 3, none⟩ (.int .i64 0)).setCell ⟨w.heap.size, 4, none⟩ (.int .i64 0)).setCell ⟨w.heap.size, 5, none⟩ (.int .i64 0)).setCell ⟨w.heap.size, 6, none⟩ (.int .i64 0)).setCell ⟨w.heap.size, 7, none⟩ (.int .i64 0)).setCell ⟨w.heap.size, 8, none⟩ (.int .i64 0)) = Z at hSL hSB hSC ⊢
    have hZ : Lies Z.drew w.heap.size (revA fun _ => 0) 102 := hSL
    obtain ⟨z0, _⟩ := rev_cell hZ (s := 0) (by omega)
    obtain ⟨z1, _⟩ := rev_cell hZ (s := 1) (by omega)
    obtain ⟨z2, _⟩ := rev_cell hZ (s := 2) (by omega)
    obtain ⟨z3, _⟩ := rev_cell hZ (s := 3) (by omega)
    obtain ⟨z4, _⟩ := rev_cell hZ (s := 4) (by omega)
    obtain ⟨z5, _⟩ := rev_cell hZ (s := 5) (by omega)
    obtain ⟨z6, _⟩ := rev_cell hZ (s := 6) (by omega)
    obtain ⟨z7, _⟩ := rev_cell hZ (s := 7) (by omega)
    obtain ⟨z8, _⟩ := rev_cell hZ (s := 8) (by omega)
    go_wp2_with fail
    exact bodyPost_ret (v := .tuple #[.agg (revA fun _ => 0), .iface T v]) (by simp [results, Tryz.results64, go_sem, revA, z0, z1, z2, z3, z4, z5, z6, z7, z8]) rfl ⟨⟨T, v, rfl⟩, hSB.drew⟩
  · go_simp
    refine hK _ _ ?_
    clear hK K
    have hc9 := (hSC hgl).trans hc0
    refine wpAny_ready (rs := [1]) (by kernel_rfl) (by simp) ?_
    refine AllReady.cons rfl (fun K hK => ?_) AllReady.nil
    go_simp
    refine hK _ _ ?_
    clear hK K
    refine wpAny_take (i := 3) (v := .iface T v) rfl (by kernel_rfl) (by kernel_rfl) (by kernel_rfl) (fun _ _ _ h => h) (Or.inl ⟨by rfl, fun w => by first | rfl | go_simp⟩) ?_
    refine wpAny_done (by kernel_rfl) ?_ _
    generalize (((((((((W.setCell ⟨w.heap.size, 0, none⟩ (.int .i64 0)).setCell ⟨w.heap.size, 1, none⟩ (.int .i64 0)).setCell ⟨w.heap.size, 2, none⟩ (.int .i64 0)).setCell ⟨w.heap.size, 3, none⟩ (.int .i64 0)).setCell ⟨w.heap.size, 4, none⟩ (.int .i64 0)).setCell ⟨w.heap.size, 5, none⟩ (.int .i64 0)).setCell ⟨w.heap.size, 6, none⟩ (.int .i64 0)).setCell ⟨w.heap.size, 7, none⟩ (.int .i64 0)).setCell ⟨w.heap.size, 8, none⟩ (.int .i64 0)) = Z at hSL hSB hSC ⊢
    have hZ : Lies Z.drew w.heap.size (revA fun _ => 0) 102 := hSL
    obtain ⟨z0, _⟩ := rev_cell hZ (s := 0) (by omega)
    obtain ⟨z1, _⟩ := rev_cell hZ (s := 1) (by omega)
    obtain ⟨z2, _⟩ := rev_cell hZ (s := 2) (by omega)
    obtain ⟨z3, _⟩ := rev_cell hZ (s := 3) (by omega)
    obtain ⟨z4, _⟩ := rev_cell hZ (s := 4) (by omega)
    obtain ⟨z5, _⟩ := rev_cell hZ (s := 5) (by omega)
    obtain ⟨z6, _⟩ := rev_cell hZ (s := 6) (by omega)
    obtain ⟨z7, _⟩ := rev_cell hZ (s := 7) (by omega)
    obtain ⟨z8, _⟩ := rev_cell hZ (s := 8) (by omega)
    go_wp2_with fail
    exact bodyPost_ret (v := .tuple #[.agg (revA fun _ => 0), .iface T v]) (by simp [results, Tryz.results64, go_sem, revA, z0, z1, z2, z3, z4, z5, z6, z7, z8]) rfl ⟨⟨T, v, rfl⟩, hSB.drew⟩

set_option maxHeartbeats 1000000 in
theorem prev_none (t : ByteArray) (x : Int) (w : World) {N : Nat} (hL : Laid3 N w) (hx : x = 0 ∨ x = 1) (hP : readP t.toList = none) :
    Calls Tryz.prog 64 #[.string t, .int .i64 x] w fun e w' => (∃ T v, e = .returned (.tuple #[.agg (revA fun _ => 0), .iface T v])) ∧ Below w.heap.size w w' := by
  have hn : (nameX x).toList.isEmpty = false := by rcases hx with rfl | rfl <;> (rw [Lib.toList_data]; rfl)
  have HN := Lib.hid hn
  clear hn hx
  have hB0 : Below w.heap.size w (w.alloc (.cells #[.int .i64 0, .int .i64 0, .int .i64 0, .int .i64 0, .int .i64 0, .int .i64 0, .int .i64 0, .int .i64 0, .int .i64 0] 102)) := (Below.refl _ w).alloc (Nat.le_refl _) _
  have hR := Lies.new w (revA fun _ => 0) 102
  change Lies (w.alloc (.cells #[.int .i64 0, .int .i64 0, .int .i64 0, .int .i64 0, .int .i64 0, .int .i64 0, .int .i64 0, .int .i64 0, .int .i64 0] 102)) _ _ _ at hR
  have hout := pouts_none t _ (hL.below hB0 hL.lt) hP
  clear hP
  go_enter Tryz.func64, Tryz.ntmps64
  go_wp2_with (first
    | (go_at_call 39; refine (pname26 _ _).mono ?_; rintro e w' ⟨rfl, rfl⟩; have hN := HN.out)
    | (go_at_call 94; refine hout.mono ?_; rintro e W ⟨⟨T, v, rfl⟩, hb1⟩; have hR1 := hR.below hb1; obtain ⟨d0, f0⟩ := rev_cell hR1 (s := 0) (by omega); obtain ⟨d1, f1⟩ := rev_cell hR1 (s := 1) (by omega); obtain ⟨d2, f2⟩ := rev_cell hR1 (s := 2) (by omega); obtain ⟨d3, f3⟩ := rev_cell hR1 (s := 3) (by omega); obtain ⟨d4, f4⟩ := rev_cell hR1 (s := 4) (by omega); obtain ⟨d5, f5⟩ := rev_cell hR1 (s := 5) (by omega); obtain ⟨d6, f6⟩ := rev_cell hR1 (s := 6) (by omega); obtain ⟨d7, f7⟩ := rev_cell hR1 (s := 7) (by omega); obtain ⟨d8, f8⟩ := rev_cell hR1 (s := 8) (by omega)))
  have hR := hR.below hb1
  replace hB0 := hB0.trans (hb1.mono hB0.size)
  clear hb1
  have hSL := set9_lies hR (fun _ => 0)
  have hSB := set9_below hB0 (Nat.le_refl _) (fun _ => 0)
  have hSC := @set9_other W w.heap.size (fun _ => 0)
  unfold set9 at hSL hSB hSC
  change Lies (((((((((W.setCell ⟨w.heap.size, 0, none⟩ (.int .i64 0)).setCell ⟨w.heap.size, 1, none⟩ (.int .i64 0)).setCell ⟨w.heap.size, 2, none⟩ (.int .i64 0)).setCell ⟨w.heap.size, 3, none⟩ (.int .i64 0)).setCell ⟨w.heap.size, 4, none⟩ (.int .i64 0)).setCell ⟨w.heap.size, 5, none⟩ (.int .i64 0)).setCell ⟨w.heap.size, 6, none⟩ (.int .i64 0)).setCell ⟨w.heap.size, 7, none⟩ (.int .i64 0)).setCell ⟨w.heap.size, 8, none⟩ (.int .i64 0)) _ _ _ at hSL
  change Below _ _ (((((((((W.setCell ⟨w.heap.size, 0, none⟩ (.int .i64 0)).setCell ⟨w.heap.size, 1, none⟩ (.int .i64 0)).setCell ⟨w.heap.size, 2, none⟩ (.int .i64 0)).setCell ⟨w.heap.size, 3, none⟩ (.int .i64 0)).setCell ⟨w.heap.size, 4, none⟩ (.int .i64 0)).setCell ⟨w.heap.size, 5, none⟩ (.int .i64 0)).setCell ⟨w.heap.size, 6, none⟩ (.int .i64 0)).setCell ⟨w.heap.size, 7, none⟩ (.int .i64 0)).setCell ⟨w.heap.size, 8, none⟩ (.int .i64 0)) at hSB
  change ∀ {a : Addr}, a.block ≠ w.heap.size → (((((((((W.setCell ⟨w.heap.size, 0, none⟩ (.int .i64 0)).setCell ⟨w.heap.size, 1, none⟩ (.int .i64 0)).setCell ⟨w.heap.size, 2, none⟩ (.int .i64 0)).setCell ⟨w.heap.size, 3, none⟩ (.int .i64 0)).setCell ⟨w.heap.size, 4, none⟩ (.int .i64 0)).setCell ⟨w.heap.size, 5, none⟩ (.int .i64 0)).setCell ⟨w.heap.size, 6, none⟩ (.int .i64 0)).setCell ⟨w.heap.size, 7, none⟩ (.int .i64 0)).setCell ⟨w.heap.size, 8, none⟩ (.int .i64 0)).cell? a = _ at hSC
  clear hR hR1 d0 d1 d2 d3 d4 d5 d6 d7 d8 f0 f1 f2 f3 f4 f5 f6 f7 f8
  generalize (((((((((W.setCell ⟨w.heap.size, 0, none⟩ (.int .i64 0)).setCell ⟨w.heap.size, 1, none⟩ (.int .i64 0)).setCell ⟨w.heap.size, 2, none⟩ (.int .i64 0)).setCell ⟨w.heap.size, 3, none⟩ (.int .i64 0)).setCell ⟨w.heap.size, 4, none⟩ (.int .i64 0)).setCell ⟨w.heap.size, 5, none⟩ (.int .i64 0)).setCell ⟨w.heap.size, 6, none⟩ (.int .i64 0)).setCell ⟨w.heap.size, 7, none⟩ (.int .i64 0)).setCell ⟨w.heap.size, 8, none⟩ (.int .i64 0)) = Z at hSL hSB hSC ⊢
  have hZ : Lies Z w.heap.size (revA fun _ => 0) 102 := hSL
  obtain ⟨z0, _⟩ := rev_cell hZ (s := 0) (by omega)
  obtain ⟨z1, _⟩ := rev_cell hZ (s := 1) (by omega)
  obtain ⟨z2, _⟩ := rev_cell hZ (s := 2) (by omega)
  obtain ⟨z3, _⟩ := rev_cell hZ (s := 3) (by omega)
  obtain ⟨z4, _⟩ := rev_cell hZ (s := 4) (by omega)
  obtain ⟨z5, _⟩ := rev_cell hZ (s := 5) (by omega)
  obtain ⟨z6, _⟩ := rev_cell hZ (s := 6) (by omega)
  obtain ⟨z7, _⟩ := rev_cell hZ (s := 7) (by omega)
  obtain ⟨z8, _⟩ := rev_cell hZ (s := 8) (by omega)
  exact bodyPost_ret (v := .tuple #[.agg (revA fun _ => 0), .iface T v]) (by simp [results, Tryz.results64, go_sem, revA, z0, z1, z2, z3, z4, z5, z6, z7, z8]) rfl ⟨⟨T, v, rfl⟩, hSB⟩
end Go.Proofs.YtngcdgnijfiocaaGreatDoor

namespace Go.Proofs.YtngcdgnijfiocaaGreatDoor
open Go.ChangeShapes Go.WideShapes Go.ChangeAt Go.RowKit Go.Shelf
attribute [local go_sem] Oper.semAt_some
set_option maxRecDepth 100000

theorem mem_upTo (s : Int) (x : Fin 9) : ∀ k, x ∈ upTo s k ↔ x.val < k ∧ hasB s x.val = true
  | 0 => by simp [upTo]
  | k + 1 => by
    have ih := mem_upTo s x k
    unfold upTo
    split
    · rename_i h
      rw [List.mem_append, ih, List.mem_singleton]
      constructor
      · rintro (⟨h1, h2⟩ | rfl)
        · exact ⟨by omega, h2⟩
        · exact ⟨by simp, h.2⟩
      · rintro ⟨h1, h2⟩
        by_cases hx : x.val = k
        · exact .inr (Fin.ext hx)
        · exact .inl ⟨by omega, h2⟩
    · rename_i h
      rw [ih]
      constructor
      · rintro ⟨h1, h2⟩; exact ⟨by omega, h2⟩
      · rintro ⟨h1, h2⟩
        refine ⟨?_, h2⟩
        by_cases hx : x.val = k
        · exact absurd ⟨by have := x.isLt; omega, by rw [← hx]; exact h2⟩ h
        · omega
/-- The table within a round: those met so far have got the round's state. -/
def partF (f : Nat → Nat) (k : Nat) (pre : List (Fin 9)) (s : Nat) : Nat := if s ∈ pre.map (·.val) then revN f s k ||| 2 ^ k else revN f s k
theorem partF_nil (f : Nat → Nat) (k : Nat) : partF f k [] = fun s => revN f s k := by funext s; simp [partF]
theorem partF_snoc (f : Nat → Nat) (k : Nat) (pre : List (Fin 9)) (x : Fin 9) : putF (partF f k pre) x.val (partF f k pre x.val ||| 2 ^ k) = partF f k (pre ++ [x]) := by
  funext s
  unfold putF
  by_cases hs : s = x.val
  · subst hs
    rw [if_pos rfl]
    unfold partF
    rw [if_pos (c := x.val ∈ (pre ++ [x]).map (·.val)) (by simp)]
    split
    · rw [Nat.or_assoc, Nat.or_self]
    · rfl
  · rw [if_neg hs]
    unfold partF
    have : s ∈ (pre ++ [x]).map (·.val) ↔ s ∈ pre.map (·.val) := by
      rw [List.map_append, List.mem_append]
      constructor
      · rintro (h | h)
        · exact h
        · simp at h; exact absurd h hs
      · exact .inl
    simp only [this]
theorem revA_congr {F F' : Nat → Nat} (h : ∀ s, s < 9 → F s = F' s) : revA F = revA F' := by
  unfold revA
  rw [h 0 (by omega), h 1 (by omega), h 2 (by omega), h 3 (by omega), h 4 (by omega), h 5 (by omega), h 6 (by omega), h 7 (by omega), h 8 (by omega)]
theorem partF_all (f : Nat → Nat) (k : Nat) (hk : f k < 512) : revA (partF f k (upTo (f k : Int) 9)) = revA fun s => revN f s (k + 1) := by
  refine revA_congr fun s hs => ?_
  have e : revN f s (k + 1) = if (f k).testBit s = true then revN f s k ||| 2 ^ k else revN f s k := by rw [revN]
  rw [e]
  unfold partF
  have h1 : s ∈ (upTo (f k : Int) 9).map (·.val) ↔ (f k).testBit s = true := by
    rw [List.mem_map, ← hasB_bit hk hs]
    constructor
    · rintro ⟨y, hy, rfl⟩; exact ((mem_upTo _ y 9).1 hy).2
    · intro h; exact ⟨⟨s, hs⟩, (mem_upTo _ _ 9).2 ⟨hs, h⟩, rfl⟩
  simp only [h1]
theorem partF_lt (f : Nat → Nat) {k : Nat} (hk : k < 9) (pre : List (Fin 9)) (s : Nat) : partF f k pre s < 512 := by
  unfold partF
  split
  · exact or_lt (revN_lt f s k (by omega)) (pow9 hk)
  · exact revN_lt f s k (by omega)

def markD (D : Nat) : Deferred := { target := .collected D, args := #[] }
/-- A function leaves with as many marks as loops over functions it has gone through. -/
theorem leaves_marks {F : Fence} {n : Nat} {P : Program} {fn : Func} {tmps : Array Value} {R : Ending → World → Prop} (n0 : Nat) :
    ∀ (Ds : List Nat) (W : World), Ds.Nodup → (∀ D ∈ Ds, n0 ≤ D ∧ W.heap[D]? = some (.deferred (some []))) →
      (∀ W', (∀ (b : Nat) (cs : Array Value) (t : TypeId), Lies W b cs t → Lies W' b cs t) → Below n0 W W' → LeavesInM F n P fn tmps R [] .returning W') → LeavesInM F n P fn tmps R (Ds.map markD) .returning W
  | [], W, _, _, h => h W (fun _ _ _ h => h) (Below.refl _ _)
  | D :: Ds, W, hN, hM, h => by
    obtain ⟨hD, hK⟩ := hM D (by simp)
    obtain ⟨hnd, hN'⟩ := List.nodup_cons.1 hN
    refine ⟨by simp, .inl ⟨D, W.putObj D (.deferred none), rfl, run_takeDeferred hK, ?_⟩⟩
    refine leaves_marks n0 Ds _ hN' (fun D' hD' => ?_) (fun W' hc hb => h W' (fun b cs t hl => hc b cs t ?_) ?_)
    · obtain ⟨h1, h2⟩ := hM D' (List.mem_cons_of_mem _ hD')
      refine ⟨h1, (World.putObj_heap_other ?_).trans h2⟩
      rintro rfl
      exact hnd hD'
    · unfold Lies at *
      refine (World.putObj_heap_other ?_).trans hl
      rintro rfl
      rw [hK] at hl
      cases hl
    · have h0 : Below n0 W (W.putObj D (.deferred none)) := (Below.refl n0 W).grown (grownBy_putObj' W D (.deferred none)) (Nat.le_trans hD (Nat.le_of_lt (Array.getElem?_eq_some_iff.1 hK).1)) (fun i e => by cases e; exact hD)
      exact h0.trans hb

theorem set9_heap (W : World) (b : Nat) (F : Nat → Nat) (b' : Nat) (h : b' ≠ b) : (set9 W b F).heap[b']? = W.heap[b']? := by
  have H : ∀ (Z : World) (o : Nat) (u : Value), (Z.setCell ⟨b, o, none⟩ u).heap[b']? = Z.heap[b']? := fun Z o u => heap_setCell_other Z _ b' u (by simpa using h)
  unfold set9
  iterate 9 rw [H]
theorem Boxed.bel {W W' : World} {b : Nat} {t : TypeId} {v : Value} (h : Boxed W b t v) (hb : Below W.heap.size W W') : Boxed W' b t v := h.kept (grown_trans_b (below_self_grown W none) hb) (by simp)

set_option maxHeartbeats 4000000 in
theorem prev_some_in (t : ByteArray) (x : Int) (hx : x = 0 ∨ x = 1) (w : World) {N : Nat} (hL : Laid3 N w) {nd : Node} (hP : readP t.toList = some nd) :
    CallsIn Fence.wide 3 Tryz.prog 64 #[.string t, .int .i64 x] w fun e w' => e = .returned (.tuple #[.agg (revA fun s => revN (fun k => exitN x (runR nd (2 ^ k))) s 9), .nilIface]) ∧ Below w.heap.size w w' := by
  have hB0 : Below w.heap.size w (w.alloc (.cells #[.int .i64 0, .int .i64 0, .int .i64 0, .int .i64 0, .int .i64 0, .int .i64 0, .int .i64 0, .int .i64 0, .int .i64 0] 102)) := (Below.refl _ w).alloc (Nat.le_refl _) _
  have hR0 := Lies.new w (revA fun _ => 0) 102
  change Lies (w.alloc (.cells #[.int .i64 0, .int .i64 0, .int .i64 0, .int .i64 0, .int .i64 0, .int .i64 0, .int .i64 0, .int .i64 0, .int .i64 0] 102)) _ _ _ at hR0
  have hout := pouts_some t _ (N := N) (hL.below hB0 hL.lt) hP
  obtain ⟨hok, _⟩ := readP_iff.1 hP
  have hsm := fun k (hk : k < 9) => run_lt nd hok (2 ^ k) (pow9 hk)
  have hex : ∀ k, k < 9 → exitN x (runR nd (2 ^ k)) < 512 := fun k hk => by unfold exitN; split <;> first | exact (hsm k hk).2 | exact (hsm k hk).1
  have hat := fun k w => at28x (runR nd (2 ^ k)).1 (runR nd (2 ^ k)).2 x hx w
  change ∀ k w, Calls _ _ _ w fun e w' => e = .returned (.int .i64 ((exitN x (runR nd (2 ^ k)) : Nat) : Int)) ∧ Below w.heap.size w w' at hat
  have hn : (nameX x).toList.isEmpty = false := by rcases hx with rfl | rfl <;> (rw [Lib.toList_data]; rfl)
  have HN := Lib.hid hn
  clear hn hsm hP
  generalize hf : (fun k => exitN x (runR nd (2 ^ k))) = f at *
  have hfk : ∀ k, exitN x (runR nd (2 ^ k)) = f k := fun k => by rw [← hf]
  simp only [hfk] at hex hat
  clear hf hfk
  generalize runR nd = r at hout hat
  refine callsIn_of_wp_marks Tryz.func64 rfl trivial ?_ rfl
  simp only [Tryz.ntmps64, List.size_toArray, List.length_cons, List.length_nil, Nat.reduceAdd, Nat.reduceSub, Array.replicate_succ, Array.replicate_zero, List.push_toArray, List.append_toArray, List.nil_append, List.cons_append]
  gi_wp2_with (refine ⟨trivial, ?_⟩; first
    | (gi_at_call 39; refine (callsIn_wide.2 (pname26 _ _)).mono ?_; rintro e w' ⟨rfl, rfl⟩; have hN := HN.out)
    | (gi_at_call 94; refine (callsIn_wide.2 hout).mono ?_; rintro e W1 ⟨g, cap, rfl, hg, hcs, hb1⟩))
  have hB1 := hB0.trans (hb1.mono hB0.size)
  have hR1 := hR0.below hb1
  have hlt1 := hR1.lt
  clear hb1 hout hB0 hR0
  have hV : Lies (W1.alloc (.cells #[.int .i64 0, .int .i64 0, .int .i64 0, .int .i64 0, .int .i64 0, .int .i64 0, .int .i64 0, .int .i64 0, .int .i64 0] 102)) W1.heap.size (revA fun s => revN f s 0) 102 := Lies.new W1 _ _
  have hBV : Below W1.heap.size W1 (W1.alloc (.cells #[.int .i64 0, .int .i64 0, .int .i64 0, .int .i64 0, .int .i64 0, .int .i64 0, .int .i64 0, .int .i64 0, .int .i64 0] 102)) := (Below.refl _ _).alloc (Nat.le_refl _) _
  generalize W1.alloc (.cells #[.int .i64 0, .int .i64 0, .int .i64 0, .int .i64 0, .int .i64 0, .int .i64 0, .int .i64 0, .int .i64 0, .int .i64 0] 102) = V at hV hBV ⊢
  refine wpIn_loop (fun a' W' => ∃ (k : Nat) (u9 u10 u29 u30 u31 u32 u33 u34 u35 u36 u45 : Value) (Ds : List Nat), k ≤ 9 ∧ a' = { tmps := #[.string t, .int .i64 x, undef, undef, .pointer (some ⟨w.heap.size, 0, none⟩), .nilIface, .slice (some ⟨g, 0, none⟩) 9 cap, .nilIface, .pointer (some ⟨W1.heap.size, 0, none⟩), u9, u10, undef, .int .i64 x, .string (nameX x), .bool false, undef, undef, .tuple #[.slice (some ⟨g, 0, none⟩) 9 cap, .nilIface], .string t, .tuple #[.slice (some ⟨g, 0, none⟩) 9 cap, .nilIface], .slice (some ⟨g, 0, none⟩) 9 cap, .nilIface, .nilIface, .bool false, undef, undef, .slice (some ⟨g, 0, none⟩) 9 cap, .int .i64 9, .int .i64 (k : Int), u29, u30, u31, u32, u33, u34, u35, u36, undef, undef, undef, undef, undef, undef, undef, undef, u45, undef], defers := Ds.map markD } ∧
      Lies W' W1.heap.size (revA fun s => revN f s k) 102 ∧ Ds.Nodup ∧ (∀ D ∈ Ds, W1.heap.size ≤ D ∧ W'.heap[D]? = some (.deferred (some []))) ∧ Below W1.heap.size W1 W')
    (fun a' _ => 9 - (intOf (a'.tmps.getD 28 undef)).toNat) ⟨0, undef, undef, undef, undef, undef, undef, undef, undef, undef, undef, undef, [], by omega, rfl, hV, List.nodup_nil, by simp, hBV⟩ ?_
  rintro a' W' ⟨k, u9, u10, u29, u30, u31, u32, u33, u34, u35, u36, u45, Ds, hk, rfl, hR, hN, hM, hB⟩
  by_cases hlt : k < 9
  · have k8 : k ≤ 8 := by omega
    have k8i : (k : Int) < 9 := by omega
    have k0i : (0 : Int) ≤ (k : Int) := by omega
    obtain ⟨c0, c1⟩ := hcs k hlt
    have c0 := (hB.cell (p := ⟨g, k * 2, none⟩) hg).trans c0
    have c1 := (hB.cell (p := ⟨g, k * 2 + 1, none⟩) hg).trans c1
    have hatk := hat k
    have hfk := hex k hlt
    generalize r (2 ^ k) = y at c0 c1 hatk
    gi_wp2_with (refine ⟨trivial, ?_⟩; first
      | (gi_at_call 44; refine (callsIn_wide.2 (hatk _)).mono ?_; rintro e W2 ⟨rfl, hb2⟩)
      | (gi_at_call 55; refine (maker_in 2 (f k : Int) _).mono ?_; rintro e w' ⟨rfl, rfl⟩))
    have hWA : Below W'.heap.size W' ((W'.alloc (.cells #[.int .i64 (k : Int)] 3)).alloc (.cells #[.int .i64 (y.1 : Int), .int .i64 (y.2 : Int)] 77)) := ((Below.refl _ W').alloc (Nat.le_refl _) _).alloc (by simp) _
    have bK := Boxed.bel ((Boxed.new W' 3 (.int .i64 (k : Int))).alloc (.cells #[.int .i64 (y.1 : Int), .int .i64 (y.2 : Int)] 77)) hb2
    have hs2 := hb2.size
    simp only [World.size_alloc] at hs2
    have hWE := (hWA.trans (hb2.mono hWA.size)).alloc (by omega) (.cells #[.int .i64 (f k : Int)] 69)
    have hLE := hR.below hWE
    have hBE := hB.trans (hWE.mono hB.size)
    have hRlt := hR.lt
    have bN := Boxed.new W2 69 (.int .i64 (f k : Int))
    have hME : ∀ D ∈ Ds, D < W'.heap.size ∧ (W2.alloc (.cells #[.int .i64 (f k : Int)] 69)).heap[D]? = some (.deferred (some [])) := fun D hD => by
      have h2 := (hM D hD).2
      have hlt := (Array.getElem?_eq_some_iff.1 h2).1
      exact ⟨hlt, (hWE.block D hlt).trans h2⟩
    rw [← partF_nil f k] at hLE
    clear hWA hb2 c0 c1 hatk hat hcs hWE
    refine wpIn_rangeFunc_ownF rfl (by omega) (gf := 90) (lb := #[.pointer (some ⟨W2.heap.size, 0, none⟩)]) rfl trivial (enters_of Tryz.func90 (by kernel_rfl) rfl)
      (states_stops 2 (by omega) W2.heap.size (f k : Int) _ (by simp) bN.cell) kpB_t (kpB_b (by simp)) (Below.refl _ _) (fun _ => rfl)
      (fun pre W => Lies W W1.heap.size (revA (partF f k pre)) 102 ∧ Boxed W W'.heap.size 3 (.int .i64 (k : Int)) ∧ Boxed W W2.heap.size 69 (.int .i64 (f k : Int)) ∧ (∀ D ∈ Ds, W.heap[D]? = some (.deferred (some []))) ∧ Below W1.heap.size W1 W)
      (fun _ _ _ => False)
      (OwnFrom.and (Own.from (lies_own W1.heap.size 102 (fun pre => revA (partF f k pre))) _) (OwnFrom.and (Own.from (boxed_own W'.heap.size 3 (fun _ => .int .i64 (k : Int))) _) (OwnFrom.and (Own.from (boxed_own W2.heap.size 69 (fun _ => .int .i64 (f k : Int))) _) (OwnFrom.and (fun pre W W'' row hs hg hr D hD => (hg.block D (Array.getElem?_eq_some_iff.1 (hs D hD)).1 (by rintro rfl; have h1 := (hr D rfl).1; have h2 := (hME D hD).1; simp at h1; omega)).trans (hs D hD)) (ownFrom_below (Nat.le_refl _) (by simp; omega))))))
      (fun _ _ _ _ _ hs _ _ => hs)
      ⟨hLE, bK.alloc _, bN, fun D hD => (hME D hD).2, hBE⟩
      (fun z => { tmps := #[.string t, .int .i64 x, undef, undef, .pointer (some ⟨w.heap.size, 0, none⟩), .nilIface, .slice (some ⟨g, 0, none⟩) 9 cap, .nilIface, .pointer (some ⟨W1.heap.size, 0, none⟩), .pointer (some ⟨W'.heap.size, 0, none⟩), .pointer (some ⟨W'.heap.size + 1, 0, none⟩), .int .i64 (z.val : Int), .int .i64 x, .string (nameX x), .bool false, undef, undef, .tuple #[.slice (some ⟨g, 0, none⟩) 9 cap, .nilIface], .string t, .tuple #[.slice (some ⟨g, 0, none⟩) 9 cap, .nilIface], .slice (some ⟨g, 0, none⟩) 9 cap, .nilIface, .nilIface, .bool false, undef, undef, .slice (some ⟨g, 0, none⟩) 9 cap, .int .i64 9, .int .i64 (k : Int), .bool true, .int .i64 (k : Int), .pointer (some ⟨g, k * 2, none⟩), .agg #[.int .i64 (y.1 : Int), .int .i64 (y.2 : Int)], .agg #[.int .i64 (y.1 : Int), .int .i64 (y.2 : Int)], .int .i64 x, .int .i64 (f k : Int), .func (.func 90) #[] #[.pointer (some ⟨W2.heap.size, 0, none⟩)], .int .i64 (z.val : Int), undef, undef, undef, undef, undef, undef, undef, u45, undef], defers := [] }) ?assign ?body ?done ?stop
    case assign =>
      intro l z W K hK
      simp only [encs]
      gi_wp2
      exact hK
    case body =>
      rintro l pre z W ⟨hT, hO, hS, hD, hBb⟩ hpl
      have cO := hO.cell
      have z8 : (z.val : Int) < 9 := by have := z.isLt; omega
      have z0 : (0 : Int) ≤ (z.val : Int) := by omega
      obtain ⟨cT, fT⟩ := rev_cell hT z.isLt
      have hwi := fun W => withN (partF f k pre z.val) k (partF_lt f hlt pre z.val) k8 W
      have h1n : 1 ≤ 3 - 1 - 1 := by omega
      have hmix : Tryz.prog.follows .mixedOrders = true := by kernel_rfl
      gi_wp2_with fail
      gi_region_with_o (refine ⟨trivial, ?_⟩; first | (gi_at_call 86; refine (CallsIn.inRound l (callsIn_wide.2 (hwi _))).mono ?_; rintro e w1 ⟨rfl, rfl⟩))
      all_goals gi_wp2
      all_goals
        have hne : ∀ b, b ≠ W1.heap.size → ((W.setCell ⟨W1.heap.size, z.val, none⟩ (.int .i64 ((partF f k pre z.val ||| 2 ^ k : Nat) : Int))).drew).heap[b]? = W.heap[b]? := fun b h => heap_setCell_other W _ b _ (by simpa using h)
        refine ⟨(KeepsOthers.setCell W ⟨W1.heap.size, z.val, none⟩ (.int .i64 ((partF f k pre z.val ||| 2 ^ k : Nat) : Int))).trans (KeepsOthers.drew _), hne _ (by omega), ?_⟩
        dsimp only
        rw [← partF_snoc]
        exact ⟨rev_set hT z.isLt _, (hne _ (by omega)).trans (show _ = _ from hO), (hne _ (by omega)).trans (show _ = _ from hS), fun D hD' => (hne D (by rintro rfl; have h1 := hD _ hD'; rw [show W.heap[W1.heap.size]? = _ from hT] at h1; cases h1)).trans (hD D hD'), (hBb.setCell (p := ⟨W1.heap.size, z.val, none⟩) (Nat.le_refl _) _).drew⟩
    case done =>
      rintro D ys W hD rfl ⟨hT, hO, hS, hDs, hBb⟩ hK
      gi_wp2
      rw [show (k : Int) + 1 = ((k + 1 : Nat) : Int) by omega]
      refine ⟨⟨k + 1, _, _, _, _, _, _, _, _, _, _, _, D :: Ds, by omega, rfl, ?_, ?_, ?_, hBb⟩, ?_⟩
      · rw [← partF_all f k hfk]; exact hT
      · refine List.nodup_cons.2 ⟨fun h => ?_, hN⟩
        have := (hME D h).1
        simp at hD
        omega
      · rintro D' hD'
        rcases List.mem_cons.1 hD' with rfl | h
        · exact ⟨by simp at hD; omega, hK⟩
        · exact ⟨(hM D' h).1, hDs D' h⟩
      · simp [intOf]; omega
    case stop =>
      rintro D c pre W _ _ h _
      exact h.elim
  · obtain rfl : k = 9 := by omega
    have hRw := hR1.below hB
    generalize hF : (fun s => revN f s 9) = F at hR
    obtain ⟨c0, _⟩ := rev_cell hR (s := 0) (by omega)
    obtain ⟨d0, f0⟩ := rev_cell hRw (s := 0) (by omega)
    obtain ⟨c1, _⟩ := rev_cell hR (s := 1) (by omega)
    obtain ⟨d1, f1⟩ := rev_cell hRw (s := 1) (by omega)
    obtain ⟨c2, _⟩ := rev_cell hR (s := 2) (by omega)
    obtain ⟨d2, f2⟩ := rev_cell hRw (s := 2) (by omega)
    obtain ⟨c3, _⟩ := rev_cell hR (s := 3) (by omega)
    obtain ⟨d3, f3⟩ := rev_cell hRw (s := 3) (by omega)
    obtain ⟨c4, _⟩ := rev_cell hR (s := 4) (by omega)
    obtain ⟨d4, f4⟩ := rev_cell hRw (s := 4) (by omega)
    obtain ⟨c5, _⟩ := rev_cell hR (s := 5) (by omega)
    obtain ⟨d5, f5⟩ := rev_cell hRw (s := 5) (by omega)
    obtain ⟨c6, _⟩ := rev_cell hR (s := 6) (by omega)
    obtain ⟨d6, f6⟩ := rev_cell hRw (s := 6) (by omega)
    obtain ⟨c7, _⟩ := rev_cell hR (s := 7) (by omega)
    obtain ⟨d7, f7⟩ := rev_cell hRw (s := 7) (by omega)
    obtain ⟨c8, _⟩ := rev_cell hR (s := 8) (by omega)
    obtain ⟨d8, f8⟩ := rev_cell hRw (s := 8) (by omega)
    gi_wp2
    have hSL := set9_lies hRw F
    have hSB := set9_below (hB1.trans (hB.mono hB1.size)) (Nat.le_refl _) F
    have hSH := set9_heap W' w.heap.size F
    unfold set9 at hSL hSB hSH
    generalize (((((((((W'.setCell ⟨w.heap.size, 0, none⟩ (.int .i64 (F 0 : Int))).setCell ⟨w.heap.size, 1, none⟩ (.int .i64 (F 1 : Int))).setCell ⟨w.heap.size, 2, none⟩ (.int .i64 (F 2 : Int))).setCell ⟨w.heap.size, 3, none⟩ (.int .i64 (F 3 : Int))).setCell ⟨w.heap.size, 4, none⟩ (.int .i64 (F 4 : Int))).setCell ⟨w.heap.size, 5, none⟩ (.int .i64 (F 5 : Int))).setCell ⟨w.heap.size, 6, none⟩ (.int .i64 (F 6 : Int))).setCell ⟨w.heap.size, 7, none⟩ (.int .i64 (F 7 : Int))).setCell ⟨w.heap.size, 8, none⟩ (.int .i64 (F 8 : Int))) = Z at hSL hSB hSH ⊢
    refine leaves_marks w.heap.size Ds Z hN (fun D hD => ⟨Nat.le_trans (Nat.le_of_lt hlt1) (hM D hD).1, (hSH D (by have := (hM D hD).1; omega)).trans (hM D hD).2⟩) (fun W2 hc hb => ?_)
    have hZ := hc _ _ _ hSL
    obtain ⟨z0, _⟩ := rev_cell hZ (s := 0) (by omega)
    obtain ⟨z1, _⟩ := rev_cell hZ (s := 1) (by omega)
    obtain ⟨z2, _⟩ := rev_cell hZ (s := 2) (by omega)
    obtain ⟨z3, _⟩ := rev_cell hZ (s := 3) (by omega)
    obtain ⟨z4, _⟩ := rev_cell hZ (s := 4) (by omega)
    obtain ⟨z5, _⟩ := rev_cell hZ (s := 5) (by omega)
    obtain ⟨z6, _⟩ := rev_cell hZ (s := 6) (by omega)
    obtain ⟨z7, _⟩ := rev_cell hZ (s := 7) (by omega)
    obtain ⟨z8, _⟩ := rev_cell hZ (s := 8) (by omega)
    refine ⟨.tuple #[.agg (revA F), .nilIface], ?_, by rw [hF], hSB.trans hb⟩
    simp [results, Tryz.results64, go_sem, revA, z0, z1, z2, z3, z4, z5, z6, z7, z8]
theorem prev_some (t : ByteArray) (x : Int) (hx : x = 0 ∨ x = 1) (w : World) {N : Nat} (hL : Laid3 N w) {nd : Node} (hP : readP t.toList = some nd) :
    Calls Tryz.prog 64 #[.string t, .int .i64 x] w fun e w' => e = .returned (.tuple #[.agg (revA fun s => revN (fun k => exitN x (runR nd (2 ^ k))) s 9), .nilIface]) ∧ Below w.heap.size w w' :=
  callsIn_wide.1 (prev_some_in t x hx w hL hP)
end Go.Proofs.YtngcdgnijfiocaaGreatDoor

namespace Go.Proofs.YtngcdgnijfiocaaGreatDoor
open Go.ChangeShapes Go.WideShapes Go.ChangeAt Go.RowKit Go.Shelf
attribute [local go_sem] Oper.semAt_some
set_option maxRecDepth 100000

set_option maxHeartbeats 2000000 in
theorem pcan_err (t : ByteArray) (s x : Int) (w : World) {N : Nat} (hL : Laid3 N w) (hE : NoExit N w) (h : inB x 0 1 = false ∨ readP t.toList = none) :
    Calls Tryz.prog 29 #[.string t, .int .i64 x, .int .i64 s] w fun e w' => e = .returned (.tuple #[.int .i64 0, .bool false]) ∧ Below w.heap.size w w' := by
  have hr : Calls Tryz.prog 64 #[.string t, .int .i64 x] w fun e w' => (∃ T v, e = .returned (.tuple #[.agg (revA fun _ => 0), .iface T v])) ∧ Below w.heap.size w w' := by
    cases hx : inB x 0 1 with
    | false => exact prev_exit t x w hL hE hx
    | true =>
      have hx2 : x = 0 ∨ x = 1 := by have := of_decide_eq_true hx; omega
      exact prev_none t x w hL hx2 (h.resolve_left (by rw [hx]; simp))
  generalize (fun _ => 0 : Nat → Nat) = F at hr
  unfold revA at hr
  go_enter Tryz.func29, Tryz.ntmps29
  go_wp2_with (go_at_call 64; refine hr.mono ?_; rintro e W1 ⟨⟨T, v, rfl⟩, hb⟩)
  go_ret2
  exact ⟨rfl, hb.alloc hb.size _⟩
set_option maxHeartbeats 2000000 in
theorem pcan_set (t : ByteArray) (s x : Int) (w : World) {N : Nat} (hL : Laid3 N w) (hx : x = 0 ∨ x = 1) {nd : Node} (hP : readP t.toList = some nd) (hs : isSet s = false) :
    Calls Tryz.prog 29 #[.string t, .int .i64 x, .int .i64 s] w fun e w' => e = .returned (.tuple #[.int .i64 0, .bool false]) ∧ Below w.heap.size w w' := by
  have hr := prev_some t x hx w hL hP
  have HS := Lib.hid hs
  clear hs
  generalize (fun s => revN (fun k => exitN x (runR nd (2 ^ k))) s 9) = F at hr
  unfold revA at hr
  go_enter Tryz.func29, Tryz.ntmps29
  go_wp2_with (first
    | (go_at_call 64; refine hr.mono ?_; rintro e W1 ⟨rfl, hb⟩)
    | (go_at_call 38; refine (sv24 _ _).mono ?_; rintro e w' ⟨rfl, rfl⟩; rw [HS.out]))
  go_ret2
  exact ⟨rfl, hb.alloc hb.size _⟩
set_option maxHeartbeats 2000000 in
theorem pcan_ok (t : ByteArray) (m : Nat) (hm : m < 512) (x : Int) (w : World) {N : Nat} (hL : Laid3 N w) (hx : x = 0 ∨ x = 1) {nd : Node} (hP : readP t.toList = some nd) :
    Calls Tryz.prog 29 #[.string t, .int .i64 x, .int .i64 (m : Int)] w fun e w' => e = .returned (.tuple #[.int .i64 ((canN nd x m : Nat) : Int), .bool true]) ∧ Below w.heap.size w w' := by
  have hr := prev_some t x hx w hL hP
  have hs : isSet (m : Int) = true := decide_eq_true (by omega)
  have HS := Lib.hid hs
  clear hs
  have hinto := fun X => pinto (fun s => revN (fun k => exitN x (runR nd (2 ^ k))) s 9) (fun s _ => revN_lt _ s 9 (Nat.le_refl _)) m hm X
  rw [into_back _ hm] at hinto
  change ∀ X, Calls _ _ _ X fun e w' => e = .returned (.int .i64 ((canN nd x m : Nat) : Int)) ∧ Below X.heap.size X w' at hinto
  generalize canN nd x m = c at hinto ⊢
  generalize (fun s => revN (fun k => exitN x (runR nd (2 ^ k))) s 9) = F at hr hinto
  unfold revA at hr hinto
  go_enter Tryz.func29, Tryz.ntmps29
  go_wp2_with (first
    | (go_at_call 64; refine hr.mono ?_; rintro e W1 ⟨rfl, hb⟩)
    | (go_at_call 38; refine (sv24 _ _).mono ?_; rintro e w' ⟨rfl, rfl⟩; rw [HS.out])
    | (go_at_call 65; refine (hinto _).mono ?_; rintro e W2 ⟨rfl, hb2⟩))
  go_ret2
  exact ⟨rfl, (hb.alloc hb.size _).trans (hb2.mono (hb.alloc hb.size _).size)⟩
/-- **THE PROGRAM's CanReach.** -/
theorem pcan (t : ByteArray) (s x : Int) (w : World) {N : Nat} (hL : Laid3 N w) (hE : NoExit N w) :
    Calls Tryz.prog 29 #[.string t, .int .i64 x, .int .i64 s] w fun e w' => e = .returned (.tuple #[.int .i64 (canZ t s x), .bool (reachB t s x)]) ∧ Below w.heap.size w w' := by
  cases hP : readP t.toList with
  | none =>
    have hb := (reach_none hP s x).2
    rw [canZ_no hb, hb]
    exact pcan_err t s x w hL hE (.inr hP)
  | some nd =>
    cases hx : inB x 0 1 with
    | false =>
      have hb := (reach_bad (t := t) (s := s) (x := x) (by rw [hx, Bool.and_false])).2
      rw [canZ_no hb, hb]
      exact pcan_err t s x w hL hE (.inl hx)
    | true =>
      have hx2 : x = 0 ∨ x = 1 := by have := of_decide_eq_true hx; omega
      cases hs : isSet s with
      | false =>
        have hb := reachB_bad (t := t) hs x
        rw [canZ_no hb, hb]
        exact pcan_set t s x w hL hx2 hP hs
      | true =>
        obtain ⟨m, hm, rfl⟩ := set_nat hs
        rw [canZ_ok hP hm hx2, (reach_ok hP hm hx2).2]
        exact pcan_ok t m hm x w hL hx2 hP

theorem pfails (t : ByteArray) (w : World) {N : Nat} (hL : Laid3 N w) (hE : NoExit N w) :
    Calls Tryz.prog 28 #[.string t] w fun e w' => e = .returned (.tuple #[.int .i64 (canZ t 511 1), .bool (reachB t 511 1)]) ∧ Below w.heap.size w w' := by
  have H := pcan t 511 1 w hL hE
  generalize canZ t 511 1 = z at H ⊢
  generalize reachB t 511 1 = b at H ⊢
  go_enter Tryz.func28, Tryz.ntmps28
  go_wp2_with (go_at_call 29; refine H.mono ?_; rintro e w' ⟨rfl, hb1⟩)
  go_ret2
  exact ⟨rfl, hb1⟩
end Go.Proofs.YtngcdgnijfiocaaGreatDoor
