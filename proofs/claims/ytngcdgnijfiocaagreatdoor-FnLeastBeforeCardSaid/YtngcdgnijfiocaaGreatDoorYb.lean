/- Chapter 5, the model: whether a triple is one, what it reaches, sure, always, missing, surplus, most. Chapter 5, the model: sure, always, missing, surplus, most, the texts. -/
import Derived.Test.YtngcdgnijfiocaaGreatDoorYa
import Derived.Test.YtngcdgnijfiocaaGreatDoorM7
import Derived.Deep.RegionHeld3
namespace Go.Proofs.YtngcdgnijfiocaaGreatDoor
open Go.ChangeShapes Go.WideShapes Go.ChangeAt Go.RowKit Go.Shelf
attribute [local go_sem] Oper.semAt_some
set_option maxRecDepth 100000

set_option maxHeartbeats 2000000 in
theorem mtvalid (b : Int) (p : ByteArray) (hp : p.size ≤ 9000000) (x r : Int) (w : World) :
    Calls Tryz.prog 87 #[.agg #[.int .i64 b, .string p, .int .i64 x, .int .i64 r]] w fun e w' => e = .returned (.bool (validT b p x r)) ∧ Below w.heap.size w w' := by
  have hA : Below w.heap.size w (w.alloc (.cells #[.int .i64 b, .string p, .int .i64 x, .int .i64 r] 33)) := (Below.refl _ w).alloc (Nat.le_refl _) _
  have hT := TripAt.new w b p x r
  have hP := fun (X : World) => valid21 p hp X
  cases h0 : isSet b with
  | false =>
    rw [valid_no0 p x r h0]
    have H0 := Lib.hid h0
    clear h0 hP
    go_enter Tryz.func87, Tryz.ntmps87
    go_wp2_with (go_at_call 74; refine (sv25 _ _).mono ?_; rintro e w' ⟨rfl, rfl⟩; rw [H0.out])
    go_ret
    exact ⟨rfl, hA⟩
  | true =>
    cases h1 : isP p.toList with
    | false =>
      rw [valid_no1 b x r h1]
      rw [h1] at hP
      have H0 := Lib.hid h0
      clear h0 h1
      go_enter Tryz.func87, Tryz.ntmps87
      go_wp2_with (first
        | (go_at_call 74; refine (sv25 _ _).mono ?_; rintro e w' ⟨rfl, rfl⟩; rw [H0.out])
        | (go_at_call 96; refine (hP _).mono ?_; rintro e W1 ⟨rfl, hb⟩))
      go_ret
      exact ⟨rfl, hA.trans (hb.mono hA.size)⟩
    | true =>
      rw [h1] at hP
      cases h2 : inB x 0 1 with
      | false =>
        rw [valid_no2 b p r h2]
        have HX := Lib.hid h2
        have H0 := Lib.hid h0
        clear h0 h1 h2
        go_enter Tryz.func87, Tryz.ntmps87
        go_wp2_with (first
          | (go_at_call 74; refine (sv25 _ _).mono ?_; rintro e w' ⟨rfl, rfl⟩; rw [H0.out])
          | (go_at_call 96; refine (hP _).mono ?_; rintro e W1 ⟨rfl, hb⟩; obtain ⟨c0, c1, c2, c3⟩ := (hT.below hb hT.lt).cells)
          | (go_at_call 75; refine (inB40 _ _ _ _).mono ?_; rintro e w' ⟨rfl, rfl⟩; rw [show inB x 0 1 = false from HX.out]))
        go_ret
        exact ⟨rfl, hA.trans (hb.mono hA.size)⟩
      | true =>
        rw [valid_yes3 r h0 h1 h2]
        have HX := Lib.hid h2
        have H0 := Lib.hid h0
        clear h0 h1 h2
        go_enter Tryz.func87, Tryz.ntmps87
        go_wp2_with (first
          | (go_at_call_of 74 (Value.int IntKind.i64 b); refine (sv25 b _).mono ?_; rintro e w' ⟨rfl, rfl⟩; rw [H0.out])
          | (go_at_call 96; refine (hP _).mono ?_; rintro e W1 ⟨rfl, hb⟩; obtain ⟨c0, c1, c2, c3⟩ := (hT.below hb hT.lt).cells)
          | (go_at_call 75; refine (inB40 _ _ _ _).mono ?_; rintro e w' ⟨rfl, rfl⟩; rw [show inB x 0 1 = true from HX.out])
          | (go_at_call 74; refine (sv25 r _).mono ?_; rintro e w' ⟨rfl, rfl⟩))
        go_ret
        exact ⟨rfl, hA.trans (hb.mono hA.size)⟩

set_option maxHeartbeats 2000000 in
theorem mreached5 (b : Int) (p : ByteArray) (hp : p.size ≤ 9000000) (x r : Int) (w : World) :
    Calls Tryz.prog 88 #[.agg #[.int .i64 b, .string p, .int .i64 x, .int .i64 r]] w fun e w' => e = .returned (.int .i64 (reachN p b x)) ∧ Below w.heap.size w w' := by
  have hA : Below w.heap.size w (w.alloc (.cells #[.int .i64 b, .string p, .int .i64 x, .int .i64 r] 33)) := (Below.refl _ w).alloc (Nat.le_refl _) _
  have H := fun X => mreach9 p hp b x X
  generalize reachN p b x = z at H ⊢
  generalize reachB p b x = o at H
  go_enter Tryz.func88, Tryz.ntmps88
  go_wp2_with (go_at_call 107; refine (H _).mono ?_; rintro e W1 ⟨rfl, hb⟩)
  go_ret
  exact ⟨rfl, hA.trans (hb.mono hA.size)⟩

theorem sure_no {b : Int} {p : ByteArray} {x r : Int} (h : validT b p x r = false) : sureT b p x r = false ∧ alwaysT b p x r = false ∧ missT b p x r = 0 ∧ surpT b p x r = 0 := by
  unfold sureT alwaysT missT surpT; rw [h]; exact ⟨rfl, rfl, rfl, rfl⟩
theorem sure_yes {b : Int} {p : ByteArray} {x r : Int} (h : validT b p x r = true) : sureT b p x r = (bits .andNot .i64 r (reachN p b x) == 0) ∧ alwaysT b p x r = (bits .andNot .i64 (reachN p b x) r == 0) ∧
    missT b p x r = bits .andNot .i64 r (reachN p b x) ∧ surpT b p x r = bits .andNot .i64 (reachN p b x) r := by
  unfold sureT alwaysT missT surpT; rw [h]; exact ⟨rfl, rfl, rfl, rfl⟩

end Go.Proofs.YtngcdgnijfiocaaGreatDoor

namespace Go.Proofs.YtngcdgnijfiocaaGreatDoor
open Go.ChangeShapes Go.WideShapes Go.ChangeAt Go.RowKit Go.Shelf
attribute [local go_sem] Oper.semAt_some
set_option maxRecDepth 100000

/-- A triple's cells as they are read. -/
def ReadsT (g : Nat) (b : Int) (p : ByteArray) (x r : Int) (W : World) : Prop :=
  W.cell? ⟨g, 0, none⟩ = some (.int .i64 b) ∧ W.cell? ⟨g, 1, none⟩ = some (.string p) ∧ W.cell? ⟨g, 2, none⟩ = some (.int .i64 x) ∧ W.cell? ⟨g, 3, none⟩ = some (.int .i64 r)
theorem ReadsT.below {g : Nat} {b : Int} {p : ByteArray} {x r : Int} {W W' : World} (h : ReadsT g b p x r W) {n : Nat} (hb : Below n W W') (hn : g < n) : ReadsT g b p x r W' := by
  obtain ⟨h0, h1, h2, h3⟩ := h
  exact ⟨(hb.cell (p := ⟨g, 0, none⟩) hn).trans h0, (hb.cell (p := ⟨g, 1, none⟩) hn).trans h1, (hb.cell (p := ⟨g, 2, none⟩) hn).trans h2, (hb.cell (p := ⟨g, 3, none⟩) hn).trans h3⟩
theorem ReadsT.drew {g : Nat} {b : Int} {p : ByteArray} {x r : Int} {W : World} (h : ReadsT g b p x r W) : ReadsT g b p x r W.drew := h

set_option maxHeartbeats 2000000 in
theorem msure_no (b : Int) (p : ByteArray) (hp : p.size ≤ 9000000) (x r : Int) (w : World) (hv : validT b p x r = false) :
    Calls Tryz.prog 50 #[.agg #[.int .i64 b, .string p, .int .i64 x, .int .i64 r]] w fun e w' => e = .returned (.bool false) ∧ Below w.heap.size w w' := by
  have hV := fun X => mtvalid b p hp x r X
  rw [hv] at hV
  clear hv
  have hA : Below w.heap.size w (w.alloc (.cells #[.int .i64 b, .string p, .int .i64 x, .int .i64 r] 33)) := (Below.refl _ w).alloc (Nat.le_refl _) _
  have hR : ReadsT w.heap.size b p x r (w.alloc (.cells #[.int .i64 b, .string p, .int .i64 x, .int .i64 r] 33)) := (TripAt.new w b p x r).cells
  have hlt : w.heap.size < (w.alloc (.cells #[.int .i64 b, .string p, .int .i64 x, .int .i64 r] 33)).heap.size := by simp
  have hs0 := hA.size
  go_enter Tryz.func50, Tryz.ntmps50
  go_wp2_with fail
  generalize hg : w.heap.size = g at hR hlt hA hs0 ⊢
  generalize w.alloc (.cells #[.int .i64 b, .string p, .int .i64 x, .int .i64 r] 33) = V at hR hlt hA hs0 ⊢
  have HG := Lib.hid hg
  clear hg
  refine wp_region_held (S := ReadsT g b p x r) (by kernel_rfl) ?_
  refine wpAnyH_take (i := 0) (v := .agg #[.int .i64 b, .string p, .int .i64 x, .int .i64 r]) rfl (by kernel_rfl) (by kernel_rfl) (by kernel_rfl) (fun _ _ _ h => h) (Or.inl ⟨by rfl, fun w hw => by obtain ⟨c0, c1, c2, c3⟩ := hw; first | (go_simp; done) | rfl⟩) hR ?_
  go_simp
  refine wpAnyH_ready (rs := [1]) (by kernel_rfl) (by simp) ?_
  refine AllReadyH.cons rfl (fun K hK => ?_) AllReadyH.nil
  go_simp
  go_wp2_with (go_at_call 87; refine (hV _).mono ?_; rintro e W1 ⟨rfl, hb⟩)
  refine hK _ _ (hR.drew.below hb hlt) (fun hR1 => ?_)
  clear hK K
  go_simp
  refine wpAnyH_take (i := 2) (v := .bool false) rfl (by kernel_rfl) (by kernel_rfl) (by kernel_rfl) (fun _ _ _ h => h) (Or.inl ⟨by rfl, fun w hw => by go_simp⟩) hR1 ?_
  go_simp
  refine wpAnyH_take (i := 3) (v := undef) rfl (by kernel_rfl) (by kernel_rfl) (by kernel_rfl) (fun _ _ _ h => h) (Or.inr ⟨by rfl, rfl⟩) hR1 ?_
  go_simp
  refine wpAnyH_take (i := 4) (v := undef) rfl (by kernel_rfl) (by kernel_rfl) (by kernel_rfl) (fun _ _ _ h => h) (Or.inr ⟨by rfl, rfl⟩) hR1 ?_
  go_simp
  refine wpAnyH_take (i := 5) (v := undef) rfl (by kernel_rfl) (by kernel_rfl) (by kernel_rfl) (fun _ _ _ h => h) (Or.inr ⟨by rfl, rfl⟩) hR1 ?_
  go_simp
  refine wpAnyH_take (i := 6) (v := undef) rfl (by kernel_rfl) (by kernel_rfl) (by kernel_rfl) (fun _ _ _ h => h) (Or.inr ⟨by rfl, rfl⟩) hR1 ?_
  go_simp
  refine wpAnyH_take (i := 7) (v := undef) rfl (by kernel_rfl) (by kernel_rfl) (by kernel_rfl) (fun _ _ _ h => h) (Or.inr ⟨by rfl, rfl⟩) hR1 ?_
  go_simp
  refine wpAnyH_take (i := 8) (v := undef) rfl (by kernel_rfl) (by kernel_rfl) (by kernel_rfl) (fun _ _ _ h => h) (Or.inr ⟨by rfl, rfl⟩) hR1 ?_
  go_simp
  refine wpAnyH_take (i := 9) (v := .bool false) rfl (by kernel_rfl) (by kernel_rfl) (by kernel_rfl) (fun _ _ _ h => h) (Or.inl ⟨by rfl, fun w hw => by go_simp⟩) hR1 ?_
  go_simp
  refine wpAnyH_take (i := 10) (v := .bool false) rfl (by kernel_rfl) (by kernel_rfl) (by kernel_rfl) (fun _ _ _ h => h) (Or.inl ⟨by rfl, fun w hw => by go_simp⟩) hR1 ?_
  go_simp
  refine wpAnyH_done (by kernel_rfl) ?_ _
  go_wp2_with fail
  go_ret
  obtain rfl := HG.out
  exact ⟨rfl, hA.drew.trans (hb.mono hs0)⟩

set_option maxHeartbeats 2000000 in
theorem msure_yes (b : Int) (p : ByteArray) (hp : p.size ≤ 9000000) (x r : Int) (w : World) (hv : validT b p x r = true) :
    Calls Tryz.prog 50 #[.agg #[.int .i64 b, .string p, .int .i64 x, .int .i64 r]] w fun e w' => e = .returned (.bool (bits .andNot .i64 r (reachN p b x) == 0)) ∧ Below w.heap.size w w' := by
  have hV := fun X => mtvalid b p hp x r X
  have hN := fun X => mreached5 b p hp x r X
  rw [hv] at hV
  clear hv
  generalize reachN p b x = z at hN ⊢
  have hA : Below w.heap.size w (w.alloc (.cells #[.int .i64 b, .string p, .int .i64 x, .int .i64 r] 33)) := (Below.refl _ w).alloc (Nat.le_refl _) _
  have hR : ReadsT w.heap.size b p x r (w.alloc (.cells #[.int .i64 b, .string p, .int .i64 x, .int .i64 r] 33)) := (TripAt.new w b p x r).cells
  have hlt : w.heap.size < (w.alloc (.cells #[.int .i64 b, .string p, .int .i64 x, .int .i64 r] 33)).heap.size := by simp
  have hs0 := hA.size
  go_enter Tryz.func50, Tryz.ntmps50
  go_wp2_with fail
  generalize hg : w.heap.size = g at hR hlt hA hs0 ⊢
  generalize w.alloc (.cells #[.int .i64 b, .string p, .int .i64 x, .int .i64 r] 33) = V at hR hlt hA hs0 ⊢
  have HG := Lib.hid hg
  clear hg
  refine wp_region_held (S := ReadsT g b p x r) (by kernel_rfl) ?_
  refine wpAnyH_take (i := 0) (v := .agg #[.int .i64 b, .string p, .int .i64 x, .int .i64 r]) rfl (by kernel_rfl) (by kernel_rfl) (by kernel_rfl) (fun _ _ _ h => h) (Or.inl ⟨by rfl, fun w hw => by obtain ⟨c0, c1, c2, c3⟩ := hw; first | (go_simp; done) | rfl⟩) hR ?_
  go_simp
  refine wpAnyH_ready (rs := [1]) (by kernel_rfl) (by simp) ?_
  refine AllReadyH.cons rfl (fun K hK => ?_) AllReadyH.nil
  go_simp
  go_wp2_with (go_at_call 87; refine (hV _).mono ?_; rintro e W1 ⟨rfl, hb⟩)
  refine hK _ _ (hR.drew.below hb hlt) (fun hR1 => ?_)
  clear hK K
  go_simp
  have hl1 := Nat.lt_of_lt_of_le hlt hb.size
  refine wpAnyH_take (i := 2) (v := .bool true) rfl (by kernel_rfl) (by kernel_rfl) (by kernel_rfl) (fun _ _ _ h => h) (Or.inl ⟨by rfl, fun w hw => by go_simp⟩) hR1 ?_
  go_simp
  refine wpAnyH_take (i := 3) (v := .pointer (some ⟨g, 3, none⟩)) rfl (by kernel_rfl) (by kernel_rfl) (by kernel_rfl) (fun _ _ _ h => h) (Or.inl ⟨by rfl, fun w hw => by go_simp⟩) hR1 ?_
  go_simp
  refine wpAnyH_take (i := 4) (v := .int .i64 r) rfl (by kernel_rfl) (by kernel_rfl) (by kernel_rfl) (fun _ _ _ h => h) (Or.inl ⟨by rfl, fun w hw => by obtain ⟨c0, c1, c2, c3⟩ := hw; first | (go_simp; done) | rfl⟩) hR1 ?_
  go_simp
  refine wpAnyH_take (i := 5) (v := .agg #[.int .i64 b, .string p, .int .i64 x, .int .i64 r]) rfl (by kernel_rfl) (by kernel_rfl) (by kernel_rfl) (fun _ _ _ h => h) (Or.inl ⟨by rfl, fun w hw => by obtain ⟨c0, c1, c2, c3⟩ := hw; first | (go_simp; done) | rfl⟩) hR1 ?_
  go_simp
  refine wpAnyH_ready (rs := [6]) (by kernel_rfl) (by simp) ?_
  refine AllReadyH.cons rfl (fun K hK => ?_) AllReadyH.nil
  go_simp
  go_wp2_with (go_at_call 88; refine (hN _).mono ?_; rintro e W2 ⟨rfl, hb2⟩)
  refine hK _ _ (hR1.below hb2 hl1) (fun hR2 => ?_)
  clear hK K
  go_simp
  refine wpAnyH_take (i := 7) (v := .int .i64 (bits .andNot .i64 r z)) rfl (by kernel_rfl) (by kernel_rfl) (by kernel_rfl) (fun _ _ _ h => h) (Or.inl ⟨by rfl, fun w hw => by go_simp⟩) hR2 ?_
  go_simp
  refine wpAnyH_take (i := 8) (v := .bool (bits .andNot .i64 r z == 0)) rfl (by kernel_rfl) (by kernel_rfl) (by kernel_rfl) (fun _ _ _ h => h) (Or.inl ⟨by rfl, fun w hw => by go_simp⟩) hR2 ?_
  go_simp
  refine wpAnyH_take (i := 9) (v := .bool (bits .andNot .i64 r z == 0)) rfl (by kernel_rfl) (by kernel_rfl) (by kernel_rfl) (fun _ _ _ h => h) (Or.inl ⟨by rfl, fun w hw => by go_simp⟩) hR2 ?_
  go_simp
  refine wpAnyH_take (i := 10) (v := .bool (bits .andNot .i64 r z == 0)) rfl (by kernel_rfl) (by kernel_rfl) (by kernel_rfl) (fun _ _ _ h => h) (Or.inl ⟨by rfl, fun w hw => by go_simp⟩) hR2 ?_
  go_simp
  refine wpAnyH_done (by kernel_rfl) ?_ _
  go_wp2_with fail
  go_ret
  have h1 := hA.drew.trans (hb.mono hs0)
  obtain rfl := HG.out
  exact ⟨rfl, h1.trans (hb2.mono (Nat.le_trans hs0 hb.size))⟩



theorem msure21 (b : Int) (p : ByteArray) (hp : p.size ≤ 9000000) (x r : Int) (w : World) :
    Calls Tryz.prog 50 #[.agg #[.int .i64 b, .string p, .int .i64 x, .int .i64 r]] w fun e w' => e = .returned (.bool (sureT b p x r)) ∧ Below w.heap.size w w' := by
  cases hv : validT b p x r with
  | false => rw [(sure_no hv).1]; exact msure_no b p hp x r w hv
  | true => rw [(sure_yes hv).1]; exact msure_yes b p hp x r w hv



/-- The four stores by which a triple's variable is written. -/
def set4 (U : World) (g : Nat) (b : Int) (p : ByteArray) (x r : Int) : World :=
  (((U.setCell ⟨g, 0, none⟩ (.int .i64 b)).setCell ⟨g, 1, none⟩ (.string p)).setCell ⟨g, 2, none⟩ (.int .i64 x)).setCell ⟨g, 3, none⟩ (.int .i64 r)
theorem TripAt.frozen {W : World} {g : Nat} {b : Int} {p : ByteArray} {x r : Int} (h : TripAt W g b p x r) :
    W.frozen? ⟨g, 0, none⟩ = false ∧ W.frozen? ⟨g, 1, none⟩ = false ∧ W.frozen? ⟨g, 2, none⟩ = false ∧ W.frozen? ⟨g, 3, none⟩ = false := by
  unfold TripAt at h
  exact ⟨by simp [World.frozen?, h], by simp [World.frozen?, h], by simp [World.frozen?, h], by simp [World.frozen?, h]⟩
theorem set4_trip {U : World} {g : Nat} {b0 : Int} {p0 : ByteArray} {x0 r0 : Int} (h : TripAt U g b0 p0 x0 r0) (b : Int) (p : ByteArray) (x r : Int) : TripAt (set4 U g b p x r) g b p x r := by
  unfold TripAt set4 at *
  have h1 := heap_setCell_same U g 0 _ 33 (.int .i64 b) h
  have h2 := heap_setCell_same _ g 1 _ 33 (.string p) h1
  have h3 := heap_setCell_same _ g 2 _ 33 (.int .i64 x) h2
  have h4 := heap_setCell_same _ g 3 _ 33 (.int .i64 r) h3
  rw [h4]
  rfl
theorem set4_below {A U : World} {g n : Nat} (h : Below n A U) (hn : n ≤ g) (b : Int) (p : ByteArray) (x r : Int) : Below n A (set4 U g b p x r) :=
  (((h.setCell (p := ⟨g, 0, none⟩) hn _).setCell (p := ⟨g, 1, none⟩) hn _).setCell (p := ⟨g, 2, none⟩) hn _).setCell (p := ⟨g, 3, none⟩) hn _

end Go.Proofs.YtngcdgnijfiocaaGreatDoor
