/- Chapter 5, the model: sure, always, missing, surplus, most, the texts. -/
import Derived.Test.YtpepaobgngighabGreatDoorTM
import Derived.Deep.RegionHeld3
namespace Go.Proofs.YtpepaobgngighabGreatDoor
open Go.ChangeShapes Go.WideShapes Go.ChangeAt Go.RowKit Go.Shelf
attribute [local go_sem] Oper.semAt_some
set_option maxRecDepth 100000

/-- A triple's cells as they are read. -/
def ReadsT (g : Nat) (b : Int) (p : ByteArray) (x r : Int) (W : World) : Prop :=
  W.cell? ⟨g, 0, none⟩ = some (.int .i64 b) ∧ W.cell? ⟨g, 1, none⟩ = some (.string p) ∧ W.cell? ⟨g, 2, none⟩ = some (.int .i64 x) ∧ W.cell? ⟨g, 3, none⟩ = some (.int .i64 r)
theorem ReadsT.below {g : Nat} {b : Int} {p : ByteArray} {x r : Int} {W W' : World} (h : ReadsT g b p x r W) {n : Nat} (hb : Below n W W') (hn : g < n) : ReadsT g b p x r W' := by
  obtain ⟨h0, h1, h2, h3⟩ := h
  exact ⟨(hb.cell (p := ⟨g, 0, none⟩) hn).trans h0, (hb.cell (p := ⟨g, 1, none⟩) hn).trans h1, (hb.cell (p := ⟨g, 2, none⟩) hn).trans h2, (hb.cell (p := ⟨g, 3, none⟩) hn).trans h3⟩
theorem ReadsT.drew {g : Nat} {b : Int} {p : ByteArray} {x r : Int} {W : World} (h : ReadsT g b p x r W) : ReadsT g b p x r W.drew := h

set_option maxHeartbeats 2000000 in
theorem msure_no (b : Int) (p : ByteArray) (hp : p.size ≤ 9000000) (x r : Int) (w : World) (hv : validT b p x r = false) :
    Calls Tryz.prog 19 #[.agg #[.int .i64 b, .string p, .int .i64 x, .int .i64 r]] w fun e w' => e = .returned (.bool false) ∧ Below w.heap.size w w' := by
  have hV := fun X => mtvalid b p hp x r X
  rw [hv] at hV
  clear hv
  have hA : Below w.heap.size w (w.alloc (.cells #[.int .i64 b, .string p, .int .i64 x, .int .i64 r] 25)) := (Below.refl _ w).alloc (Nat.le_refl _) _
  have hR : ReadsT w.heap.size b p x r (w.alloc (.cells #[.int .i64 b, .string p, .int .i64 x, .int .i64 r] 25)) := (TripAt.new w b p x r).cells
  have hlt : w.heap.size < (w.alloc (.cells #[.int .i64 b, .string p, .int .i64 x, .int .i64 r] 25)).heap.size := by simp
  have hs0 := hA.size
  go_enter Tryz.func19, Tryz.ntmps19
  go_wp2_with fail
  generalize hg : w.heap.size = g at hR hlt hA hs0 ⊢
  generalize w.alloc (.cells #[.int .i64 b, .string p, .int .i64 x, .int .i64 r] 25) = V at hR hlt hA hs0 ⊢
  have HG := Lib.hid hg
  clear hg
  refine wp_region_held (S := ReadsT g b p x r) (by kernel_rfl) ?_
  refine wpAnyH_take (i := 0) (v := .agg #[.int .i64 b, .string p, .int .i64 x, .int .i64 r]) rfl (by kernel_rfl) (by kernel_rfl) (by kernel_rfl) (fun _ _ _ h => h) (Or.inl ⟨by rfl, fun w hw => by obtain ⟨c0, c1, c2, c3⟩ := hw; first | (go_simp; done) | rfl⟩) hR ?_
  go_simp
  refine wpAnyH_ready (rs := [1]) (by kernel_rfl) (by simp) ?_
  refine AllReadyH.cons rfl (fun K hK => ?_) AllReadyH.nil
  go_simp
  go_wp2_with (go_at_call 29; refine (hV _).mono ?_; rintro e W1 ⟨rfl, hb⟩)
  refine hK _ _ (hR.drew.below hb hlt) (fun hR1 => ?_)
  clear hK K
  go_simp
  refine wpAnyH_take (i := 2) (v := .bool false) rfl (by kernel_rfl) (by kernel_rfl) (by kernel_rfl) (fun _ _ _ h => h) (Or.inl ⟨by rfl, fun w hw => by go_simp⟩) hR1 ?_
  go_simp
  refine wpAnyH_take (i := 3) (v := undef) rfl (by kernel_rfl) (by kernel_rfl) (by kernel_rfl) (fun _ _ _ h => h) (Or.inr ⟨by rfl, rfl⟩) hR1 ?_
  go_simp
  refine wpAnyH_take (i := 4) (v := undef) rfl (by kernel_rfl) (by kernel_rfl) (by kernel_rfl) (fun _ _ _ h => h) (Or.inr ⟨by rfl, rfl⟩) hR1 ?_
  go_simp
  refine wpAnyH_take (i := 5) (v := undef) rfl (by kernel_rfl) (by kernel_rfl) (by kernel_rfl) (fun _ _ _ h => h) (Or.inr ⟨by rfl, rfl⟩) hR1 ?_
  go_simp
  refine wpAnyH_take (i := 6) (v := undef) rfl (by kernel_rfl) (by kernel_rfl) (by kernel_rfl) (fun _ _ _ h => h) (Or.inr ⟨by rfl, rfl⟩) hR1 ?_
  go_simp
  refine wpAnyH_take (i := 7) (v := undef) rfl (by kernel_rfl) (by kernel_rfl) (by kernel_rfl) (fun _ _ _ h => h) (Or.inr ⟨by rfl, rfl⟩) hR1 ?_
  go_simp
  refine wpAnyH_take (i := 8) (v := undef) rfl (by kernel_rfl) (by kernel_rfl) (by kernel_rfl) (fun _ _ _ h => h) (Or.inr ⟨by rfl, rfl⟩) hR1 ?_
  go_simp
  refine wpAnyH_take (i := 9) (v := .bool false) rfl (by kernel_rfl) (by kernel_rfl) (by kernel_rfl) (fun _ _ _ h => h) (Or.inl ⟨by rfl, fun w hw => by go_simp⟩) hR1 ?_
  go_simp
  refine wpAnyH_take (i := 10) (v := .bool false) rfl (by kernel_rfl) (by kernel_rfl) (by kernel_rfl) (fun _ _ _ h => h) (Or.inl ⟨by rfl, fun w hw => by go_simp⟩) hR1 ?_
  go_simp
  refine wpAnyH_done (by kernel_rfl) ?_ _
  go_wp2_with fail
  go_ret
  obtain rfl := HG.out
  exact ⟨rfl, hA.drew.trans (hb.mono hs0)⟩

set_option maxHeartbeats 2000000 in
theorem msure_yes (b : Int) (p : ByteArray) (hp : p.size ≤ 9000000) (x r : Int) (w : World) (hv : validT b p x r = true) :
    Calls Tryz.prog 19 #[.agg #[.int .i64 b, .string p, .int .i64 x, .int .i64 r]] w fun e w' => e = .returned (.bool (bits .andNot .i64 r (reachN p b x) == 0)) ∧ Below w.heap.size w w' := by
  have hV := fun X => mtvalid b p hp x r X
  have hN := fun X => mreached5 b p hp x r X
  rw [hv] at hV
  clear hv
  generalize reachN p b x = z at hN ⊢
  have hA : Below w.heap.size w (w.alloc (.cells #[.int .i64 b, .string p, .int .i64 x, .int .i64 r] 25)) := (Below.refl _ w).alloc (Nat.le_refl _) _
  have hR : ReadsT w.heap.size b p x r (w.alloc (.cells #[.int .i64 b, .string p, .int .i64 x, .int .i64 r] 25)) := (TripAt.new w b p x r).cells
  have hlt : w.heap.size < (w.alloc (.cells #[.int .i64 b, .string p, .int .i64 x, .int .i64 r] 25)).heap.size := by simp
  have hs0 := hA.size
  go_enter Tryz.func19, Tryz.ntmps19
  go_wp2_with fail
  generalize hg : w.heap.size = g at hR hlt hA hs0 ⊢
  generalize w.alloc (.cells #[.int .i64 b, .string p, .int .i64 x, .int .i64 r] 25) = V at hR hlt hA hs0 ⊢
  have HG := Lib.hid hg
  clear hg
  refine wp_region_held (S := ReadsT g b p x r) (by kernel_rfl) ?_
  refine wpAnyH_take (i := 0) (v := .agg #[.int .i64 b, .string p, .int .i64 x, .int .i64 r]) rfl (by kernel_rfl) (by kernel_rfl) (by kernel_rfl) (fun _ _ _ h => h) (Or.inl ⟨by rfl, fun w hw => by obtain ⟨c0, c1, c2, c3⟩ := hw; first | (go_simp; done) | rfl⟩) hR ?_
  go_simp
  refine wpAnyH_ready (rs := [1]) (by kernel_rfl) (by simp) ?_
  refine AllReadyH.cons rfl (fun K hK => ?_) AllReadyH.nil
  go_simp
  go_wp2_with (go_at_call 29; refine (hV _).mono ?_; rintro e W1 ⟨rfl, hb⟩)
  refine hK _ _ (hR.drew.below hb hlt) (fun hR1 => ?_)
  clear hK K
  go_simp
  have hl1 := Nat.lt_of_lt_of_le hlt hb.size
  refine wpAnyH_take (i := 2) (v := .bool true) rfl (by kernel_rfl) (by kernel_rfl) (by kernel_rfl) (fun _ _ _ h => h) (Or.inl ⟨by rfl, fun w hw => by go_simp⟩) hR1 ?_
  go_simp
  refine wpAnyH_take (i := 3) (v := .pointer (some ⟨g, 3, none⟩)) rfl (by kernel_rfl) (by kernel_rfl) (by kernel_rfl) (fun _ _ _ h => h) (Or.inl ⟨by rfl, fun w hw => by go_simp⟩) hR1 ?_
  go_simp
  refine wpAnyH_take (i := 4) (v := .int .i64 r) rfl (by kernel_rfl) (by kernel_rfl) (by kernel_rfl) (fun _ _ _ h => h) (Or.inl ⟨by rfl, fun w hw => by obtain ⟨c0, c1, c2, c3⟩ := hw; first | (go_simp; done) | rfl⟩) hR1 ?_
  go_simp
  refine wpAnyH_take (i := 5) (v := .agg #[.int .i64 b, .string p, .int .i64 x, .int .i64 r]) rfl (by kernel_rfl) (by kernel_rfl) (by kernel_rfl) (fun _ _ _ h => h) (Or.inl ⟨by rfl, fun w hw => by obtain ⟨c0, c1, c2, c3⟩ := hw; first | (go_simp; done) | rfl⟩) hR1 ?_
  go_simp
  refine wpAnyH_ready (rs := [6]) (by kernel_rfl) (by simp) ?_
  refine AllReadyH.cons rfl (fun K hK => ?_) AllReadyH.nil
  go_simp
  go_wp2_with (go_at_call 30; refine (hN _).mono ?_; rintro e W2 ⟨rfl, hb2⟩)
  refine hK _ _ (hR1.below hb2 hl1) (fun hR2 => ?_)
  clear hK K
  go_simp
  refine wpAnyH_take (i := 7) (v := .int .i64 (bits .andNot .i64 r z)) rfl (by kernel_rfl) (by kernel_rfl) (by kernel_rfl) (fun _ _ _ h => h) (Or.inl ⟨by rfl, fun w hw => by go_simp⟩) hR2 ?_
  go_simp
  refine wpAnyH_take (i := 8) (v := .bool (bits .andNot .i64 r z == 0)) rfl (by kernel_rfl) (by kernel_rfl) (by kernel_rfl) (fun _ _ _ h => h) (Or.inl ⟨by rfl, fun w hw => by go_simp⟩) hR2 ?_
  go_simp
  refine wpAnyH_take (i := 9) (v := .bool (bits .andNot .i64 r z == 0)) rfl (by kernel_rfl) (by kernel_rfl) (by kernel_rfl) (fun _ _ _ h => h) (Or.inl ⟨by rfl, fun w hw => by go_simp⟩) hR2 ?_
  go_simp
  refine wpAnyH_take (i := 10) (v := .bool (bits .andNot .i64 r z == 0)) rfl (by kernel_rfl) (by kernel_rfl) (by kernel_rfl) (fun _ _ _ h => h) (Or.inl ⟨by rfl, fun w hw => by go_simp⟩) hR2 ?_
  go_simp
  refine wpAnyH_done (by kernel_rfl) ?_ _
  go_wp2_with fail
  go_ret
  have h1 := hA.drew.trans (hb.mono hs0)
  obtain rfl := HG.out
  exact ⟨rfl, h1.trans (hb2.mono (Nat.le_trans hs0 hb.size))⟩



theorem msure21 (b : Int) (p : ByteArray) (hp : p.size ≤ 9000000) (x r : Int) (w : World) :
    Calls Tryz.prog 19 #[.agg #[.int .i64 b, .string p, .int .i64 x, .int .i64 r]] w fun e w' => e = .returned (.bool (sureT b p x r)) ∧ Below w.heap.size w w' := by
  cases hv : validT b p x r with
  | false => rw [(sure_no hv).1]; exact msure_no b p hp x r w hv
  | true => rw [(sure_yes hv).1]; exact msure_yes b p hp x r w hv



/-- The four stores by which a triple's variable is written. -/
def set4 (U : World) (g : Nat) (b : Int) (p : ByteArray) (x r : Int) : World :=
  (((U.setCell ⟨g, 0, none⟩ (.int .i64 b)).setCell ⟨g, 1, none⟩ (.string p)).setCell ⟨g, 2, none⟩ (.int .i64 x)).setCell ⟨g, 3, none⟩ (.int .i64 r)
theorem TripAt.frozen {W : World} {g : Nat} {b : Int} {p : ByteArray} {x r : Int} (h : TripAt W g b p x r) :
    W.frozen? ⟨g, 0, none⟩ = false ∧ W.frozen? ⟨g, 1, none⟩ = false ∧ W.frozen? ⟨g, 2, none⟩ = false ∧ W.frozen? ⟨g, 3, none⟩ = false := by
  unfold TripAt at h
  exact ⟨by simp [World.frozen?, h], by simp [World.frozen?, h], by simp [World.frozen?, h], by simp [World.frozen?, h]⟩
theorem set4_trip {U : World} {g : Nat} {b0 : Int} {p0 : ByteArray} {x0 r0 : Int} (h : TripAt U g b0 p0 x0 r0) (b : Int) (p : ByteArray) (x r : Int) : TripAt (set4 U g b p x r) g b p x r := by
  unfold TripAt set4 at *
  have h1 := heap_setCell_same U g 0 _ 25 (.int .i64 b) h
  have h2 := heap_setCell_same _ g 1 _ 25 (.string p) h1
  have h3 := heap_setCell_same _ g 2 _ 25 (.int .i64 x) h2
  have h4 := heap_setCell_same _ g 3 _ 25 (.int .i64 r) h3
  rw [h4]
  rfl
theorem set4_below {A U : World} {g n : Nat} (h : Below n A U) (hn : n ≤ g) (b : Int) (p : ByteArray) (x r : Int) : Below n A (set4 U g b p x r) :=
  (((h.setCell (p := ⟨g, 0, none⟩) hn _).setCell (p := ⟨g, 1, none⟩) hn _).setCell (p := ⟨g, 2, none⟩) hn _).setCell (p := ⟨g, 3, none⟩) hn _

end Go.Proofs.YtpepaobgngighabGreatDoor

