/- Chapter 6, the program: the rules 'both' and 'less'. -/
import Derived.Test.YtgdgbjnmibkmhaaGreatDoorZc
import Derived.Test.YtgdgbjnmibkmhaaGreatDoorE4
namespace Go.Proofs.YtgdgbjnmibkmhaaGreatDoor
open Go.ChangeShapes Go.WideShapes Go.ChangeAt Go.RowKit Go.Shelf
attribute [local go_sem] Oper.semAt_some
set_option maxRecDepth 100000

/-- The cells of a step's triple and of two triples more. -/
def Joined (X : World) (gs gt gu : Nat) (b : Int) (p : ByteArray) (x r : Int) (T U : Trip) : Prop := X.cell? ⟨gs, 0, none⟩ = some (.int .i64 b) ∧ X.cell? ⟨gs, 1, none⟩ = some (.string p) ∧ X.cell? ⟨gs, 2, none⟩ = some (.int .i64 x) ∧ X.cell? ⟨gs, 3, none⟩ = some (.int .i64 r) ∧ X.cell? ⟨gt, 0, none⟩ = some (.int .i64 T.b) ∧ X.cell? ⟨gt, 1, none⟩ = some (.string T.p) ∧ X.cell? ⟨gt, 2, none⟩ = some (.int .i64 T.x) ∧ X.cell? ⟨gt, 3, none⟩ = some (.int .i64 T.r) ∧ X.cell? ⟨gu, 0, none⟩ = some (.int .i64 U.b) ∧ X.cell? ⟨gu, 1, none⟩ = some (.string U.p) ∧ X.cell? ⟨gu, 2, none⟩ = some (.int .i64 U.x) ∧ X.cell? ⟨gu, 3, none⟩ = some (.int .i64 U.r)
theorem Joined.below {X Y : World} {gs gt gu : Nat} {b : Int} {p : ByteArray} {x r : Int} {T U : Trip} (bk : Below X.heap.size X Y) (h : Joined X gs gt gu b p x r T U) : Joined Y gs gt gu b p x r T U := by
  obtain ⟨h0, h1, h2, h3, h4, h5, h6, h7, h8, h9, h10, h11⟩ := h
  exact ⟨cell_below bk h0, cell_below bk h1, cell_below bk h2, cell_below bk h3, cell_below bk h4, cell_below bk h5, cell_below bk h6, cell_below bk h7, cell_below bk h8, cell_below bk h9, cell_below bk h10, cell_below bk h11⟩
theorem Joined.through {A X Y : World} {gs gt gu : Nat} {b : Int} {p : ByteArray} {x r : Int} {T U : Trip} {n : Nat} (bk : Below n X Y) (h : Joined A gs gt gu b p x r T U) (e : A.heap = X.heap) (hn : X.heap.size ≤ n) : Joined Y gs gt gu b p x r T U := by
  have hX : Joined X gs gt gu b p x r T U := by unfold Joined World.cell? at *; rw [← e]; exact h
  exact hX.below (bk.mono hn)
theorem Joined.of {X : World} {gs gt gu : Nat} {s : StepD} {T U : Trip} (h : StepAt X gs s) (h1 : TripAt X gt T.b T.p T.x T.r) (h2 : TripAt X gu U.b U.p U.x U.r) : Joined X gs gt gu s.b s.p s.x s.r T U := by
  obtain ⟨c0, c1, c2, c3, _, _⟩ := h.cells
  obtain ⟨t0, t1, t2, t3⟩ := h1.cells
  obtain ⟨u0, u1, u2, u3⟩ := h2.cells
  exact ⟨c0, c1, c2, c3, t0, t1, t2, t3, u0, u1, u2, u3⟩
set_option maxHeartbeats 4000000 in
theorem joins142 (s : StepD) (T U : Trip) (W : World) (hF : TwoAt W s T U) :
    Calls Tryz.prog 105 #[s.val] W fun e W' => e = .returned (.bool (sameT 0 T.p T.x 0 0 s.p s.x 0 && (sameT 0 U.p U.x 0 0 s.p s.x 0 && (bits .or .i64 T.b U.b == s.b && bits .or .i64 T.r U.r == s.r)))) ∧ Below W.heap.size W W' := by
  have hA : Below W.heap.size W (W.alloc (.cells s.row 77)) := (Below.refl _ W).alloc (Nat.le_refl _) _
  have hS := StepAt.new W s
  obtain ⟨g, o, f1, f2, f3, f7⟩ := hF
  have hg := cell_ltO f3.1
  have t4 := f3.below hA
  have t5 := f7.below hA
  obtain ⟨b, p, x, r, rl, ra, rn, rc, pa, pn, pc, fa, fn, fc⟩ := s
  dsimp only at *
  subst f1
  obtain ⟨c0, c1, c2, c3, c6, c7⟩ := hS.cells
  dsimp only at c0 c1 c2 c3 c6 c7
  unfold StepD.val StepD.row at *
  obtain ⟨t0, t1, t2, t3⟩ := id t4
  obtain ⟨v0, v1, v2, v3⟩ := id t5
  have n1 : (1 : Int) < (fn : Int) := by omega
  have n3 : (0 : Int) < (fn : Int) := by omega
  have n4 : 0 < fn := by omega
  have hB1 : Below W.heap.size W (((W.alloc (.cells #[.int .i64 b, .string p, .int .i64 x, .int .i64 r, .string rl, .slice ra rn rc, .slice pa pn pc, .slice (some ⟨g, o, none⟩) fn fc] 77)).alloc (.cells #[.int .i64 T.b, .string T.p, .int .i64 T.x, .int .i64 T.r] 31)).alloc (.cells #[.int .i64 U.b, .string U.p, .int .i64 U.x, .int .i64 U.r] 31)) := (hA.alloc hA.size _).alloc (hA.alloc hA.size _).size _
  have hB2 : Below W.heap.size W (((W.alloc (.cells #[.int .i64 b, .string p, .int .i64 x, .int .i64 r, .string rl, .slice ra rn rc, .slice pa pn pc, .slice (some ⟨g, o, none⟩) fn fc] 77)).alloc (.cells #[.int .i64 U.b, .string U.p, .int .i64 U.x, .int .i64 U.r] 31)).alloc (.cells #[.int .i64 T.b, .string T.p, .int .i64 T.x, .int .i64 T.r] 31)) := (hA.alloc hA.size _).alloc (hA.alloc hA.size _).size _
  have hq1 : Joined (((W.alloc (.cells #[.int .i64 b, .string p, .int .i64 x, .int .i64 r, .string rl, .slice ra rn rc, .slice pa pn pc, .slice (some ⟨g, o, none⟩) fn fc] 77)).alloc (.cells #[.int .i64 T.b, .string T.p, .int .i64 T.x, .int .i64 T.r] 31)).alloc (.cells #[.int .i64 U.b, .string U.p, .int .i64 U.x, .int .i64 U.r] 31)) W.heap.size (W.heap.size + 1) (W.heap.size + 1 + 1) b p x r T U := by
    have h1 := TripAt.new (W.alloc (.cells #[.int .i64 b, .string p, .int .i64 x, .int .i64 r, .string rl, .slice ra rn rc, .slice pa pn pc, .slice (some ⟨g, o, none⟩) fn fc] 77)) T.b T.p T.x T.r
    have h2 := TripAt.new ((W.alloc (.cells #[.int .i64 b, .string p, .int .i64 x, .int .i64 r, .string rl, .slice ra rn rc, .slice pa pn pc, .slice (some ⟨g, o, none⟩) fn fc] 77)).alloc (.cells #[.int .i64 T.b, .string T.p, .int .i64 T.x, .int .i64 T.r] 31)) U.b U.p U.x U.r
    have a1 := (Below.refl _ (W.alloc (.cells #[.int .i64 b, .string p, .int .i64 x, .int .i64 r, .string rl, .slice ra rn rc, .slice pa pn pc, .slice (some ⟨g, o, none⟩) fn fc] 77))).alloc (Nat.le_refl _) (.cells #[.int .i64 T.b, .string T.p, .int .i64 T.x, .int .i64 T.r] 31)
    have a2 := (Below.refl _ ((W.alloc (.cells #[.int .i64 b, .string p, .int .i64 x, .int .i64 r, .string rl, .slice ra rn rc, .slice pa pn pc, .slice (some ⟨g, o, none⟩) fn fc] 77)).alloc (.cells #[.int .i64 T.b, .string T.p, .int .i64 T.x, .int .i64 T.r] 31))).alloc (Nat.le_refl _) (.cells #[.int .i64 U.b, .string U.p, .int .i64 U.x, .int .i64 U.r] 31)
    have h3 := h1.below a2 h1.lt
    have h4 := (hS.below a1 hS.lt).below a2 (hS.below a1 hS.lt).lt
    simp only [World.size_alloc] at h2 h3
    exact Joined.of h4 h3 h2
  have hq2 : Joined (((W.alloc (.cells #[.int .i64 b, .string p, .int .i64 x, .int .i64 r, .string rl, .slice ra rn rc, .slice pa pn pc, .slice (some ⟨g, o, none⟩) fn fc] 77)).alloc (.cells #[.int .i64 U.b, .string U.p, .int .i64 U.x, .int .i64 U.r] 31)).alloc (.cells #[.int .i64 T.b, .string T.p, .int .i64 T.x, .int .i64 T.r] 31)) W.heap.size (W.heap.size + 1 + 1) (W.heap.size + 1) b p x r T U := by
    have h1 := TripAt.new (W.alloc (.cells #[.int .i64 b, .string p, .int .i64 x, .int .i64 r, .string rl, .slice ra rn rc, .slice pa pn pc, .slice (some ⟨g, o, none⟩) fn fc] 77)) U.b U.p U.x U.r
    have h2 := TripAt.new ((W.alloc (.cells #[.int .i64 b, .string p, .int .i64 x, .int .i64 r, .string rl, .slice ra rn rc, .slice pa pn pc, .slice (some ⟨g, o, none⟩) fn fc] 77)).alloc (.cells #[.int .i64 U.b, .string U.p, .int .i64 U.x, .int .i64 U.r] 31)) T.b T.p T.x T.r
    have a1 := (Below.refl _ (W.alloc (.cells #[.int .i64 b, .string p, .int .i64 x, .int .i64 r, .string rl, .slice ra rn rc, .slice pa pn pc, .slice (some ⟨g, o, none⟩) fn fc] 77))).alloc (Nat.le_refl _) (.cells #[.int .i64 U.b, .string U.p, .int .i64 U.x, .int .i64 U.r] 31)
    have a2 := (Below.refl _ ((W.alloc (.cells #[.int .i64 b, .string p, .int .i64 x, .int .i64 r, .string rl, .slice ra rn rc, .slice pa pn pc, .slice (some ⟨g, o, none⟩) fn fc] 77)).alloc (.cells #[.int .i64 U.b, .string U.p, .int .i64 U.x, .int .i64 U.r] 31))).alloc (Nat.le_refl _) (.cells #[.int .i64 T.b, .string T.p, .int .i64 T.x, .int .i64 T.r] 31)
    have h3 := h1.below a2 h1.lt
    have h4 := (hS.below a1 hS.lt).below a2 (hS.below a1 hS.lt).lt
    simp only [World.size_alloc] at h2 h3
    exact Joined.of h4 h2 h3
  have he1 := fun w : World => eqTrip 0 T.p T.x 0 0 p x 0 w
  have he2 := fun w : World => eqTrip 0 U.p U.x 0 0 p x 0 w
  obtain ⟨e1, hE1⟩ : ∃ e1, e1 = sameT 0 T.p T.x 0 0 p x 0 := ⟨_, rfl⟩
  obtain ⟨e2, hE2⟩ : ∃ e2, e2 = sameT 0 U.p U.x 0 0 p x 0 := ⟨_, rfl⟩
  simp only [← hE1] at he1 ⊢
  simp only [← hE2] at he2 ⊢
  clear hE1 hE2
  obtain ⟨e3, hE3⟩ : ∃ e3, (bits .or .i64 T.b U.b == b) = e3 := ⟨_, rfl⟩
  obtain ⟨e4, hE4⟩ : ∃ e4, (bits .or .i64 T.r U.r == r) = e4 := ⟨_, rfl⟩
  rw [hE3, hE4]
  have HB := fun b p x r X => subj178 b p x r X
  clear f3 f7 hS t4 t5
  go_enter Tryz.func105, Tryz.ntmps105
  go_wp2_with fail
  go_region_held3 (fun w' => w'.cell? ⟨W.heap.size, 7, none⟩ = some (.slice (some ⟨g, o, none⟩) fn fc) ∧ w'.cell? ⟨g, o, none⟩ = some (.int .i64 T.b) ∧ w'.cell? ⟨g, o + 1, none⟩ = some (.string T.p) ∧ w'.cell? ⟨g, o + 2, none⟩ = some (.int .i64 T.x) ∧ w'.cell? ⟨g, o + 3, none⟩ = some (.int .i64 T.r) ∧ w'.cell? ⟨g, o + 4, none⟩ = some (.int .i64 U.b) ∧ w'.cell? ⟨g, o + 4 + 1, none⟩ = some (.string U.p) ∧ w'.cell? ⟨g, o + 4 + 2, none⟩ = some (.int .i64 U.x) ∧ w'.cell? ⟨g, o + 4 + 3, none⟩ = some (.int .i64 U.r)) (first | exact ⟨c7, t0, t1, t2, t3, v0, v1, v2, v3⟩ | go_keep) (fail)
  · clear hq2 hB2
    have hq := hq1
    have hcur := hB1
    go_wp2_with fail
    cases e1 with
    | false =>
      refine wp_region_held (S := fun w' => Joined w' W.heap.size (W.heap.size + 1) (W.heap.size + 1 + 1) b p x r T U) (by kernel_rfl) ?_
      refine wpAnyH_take (i := 0) (v := .agg #[.int .i64 T.b, .string T.p, .int .i64 T.x, .int .i64 T.r]) rfl (by kernel_rfl) (by kernel_rfl) (by kernel_rfl) (fun _ _ _ h => h) (Or.inl ⟨by rfl, fun w hw => by obtain ⟨l0, l1, l2, l3, l4, l5, l6, l7, l8, l9, l10, l11⟩ := hw; first | (go_simp; done) | rfl⟩) hq ?_
      go_simp
      refine wpAnyH_take (i := 2) (v := .pointer (some ⟨W.heap.size, 0, none⟩)) rfl (by kernel_rfl) (by kernel_rfl) (by kernel_rfl) (fun _ _ _ h => h) (Or.inl ⟨by rfl, fun w hw => by go_simp⟩) hq ?_
      go_simp
      refine wpAnyH_take (i := 3) (v := .pointer (some ⟨W.heap.size, 0, none⟩)) rfl (by kernel_rfl) (by kernel_rfl) (by kernel_rfl) (fun _ _ _ h => h) (Or.inl ⟨by rfl, fun w hw => by go_simp⟩) hq ?_
      go_simp
      refine wpAnyH_take (i := 4) (v := .agg #[.int .i64 b, .string p, .int .i64 x, .int .i64 r]) rfl (by kernel_rfl) (by kernel_rfl) (by kernel_rfl) (fun _ _ _ h => h) (Or.inl ⟨by rfl, fun w hw => by obtain ⟨l0, l1, l2, l3, l4, l5, l6, l7, l8, l9, l10, l11⟩ := hw; first | (go_simp; done) | rfl⟩) hq ?_
      go_simp
      refine wpAnyH_ready (rs := [1]) (by kernel_rfl) (by simp) ?_
      refine AllReadyH.cons rfl (fun K hK => ?_) AllReadyH.nil
      go_simp
      go_wp2_with (go_at_call 130; refine (HB _ _ _ _ _).mono ?_; rintro e Wk1 ⟨rfl, bk1⟩)
      refine hK _ _ (Joined.through bk1 hq rfl (Nat.le_refl _)) (fun hR1 => ?_)
      clear hK K
      go_simp
      refine wpAnyH_ready (rs := [5]) (by kernel_rfl) (by simp) ?_
      refine AllReadyH.cons rfl (fun K hK => ?_) AllReadyH.nil
      go_simp
      go_wp2_with (go_at_call 130; refine (HB _ _ _ _ _).mono ?_; rintro e Wk2 ⟨rfl, bk2⟩)
      refine hK _ _ (Joined.through bk2 hR1 rfl (Nat.le_refl _)) (fun hR2 => ?_)
      clear hK K
      go_simp
      refine wpAnyH_take (i := 6) (v := .bool false) rfl (by kernel_rfl) (by kernel_rfl) (by kernel_rfl) (fun _ _ _ h => h) (Or.inl ⟨by rfl, fun w hw => by go_simp⟩) hR2 ?_
      go_simp
      refine wpAnyH_take (i := 7) (v := .bool false) rfl (by kernel_rfl) (by kernel_rfl) (by kernel_rfl) (fun _ _ _ h => h) (Or.inl ⟨by rfl, fun w hw => by go_simp⟩) hR2 ?_
      go_simp
      refine wpAnyH_take (i := 8) (v := undef) rfl (by kernel_rfl) (by kernel_rfl) (by kernel_rfl) (fun _ _ _ h => h) (Or.inr ⟨by rfl, rfl⟩) hR2 ?_
      go_simp
      refine wpAnyH_take (i := 9) (v := undef) rfl (by kernel_rfl) (by kernel_rfl) (by kernel_rfl) (fun _ _ _ h => h) (Or.inr ⟨by rfl, rfl⟩) hR2 ?_
      go_simp
      refine wpAnyH_take (i := 10) (v := undef) rfl (by kernel_rfl) (by kernel_rfl) (by kernel_rfl) (fun _ _ _ h => h) (Or.inr ⟨by rfl, rfl⟩) hR2 ?_
      go_simp
      refine wpAnyH_take (i := 11) (v := undef) rfl (by kernel_rfl) (by kernel_rfl) (by kernel_rfl) (fun _ _ _ h => h) (Or.inr ⟨by rfl, rfl⟩) hR2 ?_
      go_simp
      refine wpAnyH_take (i := 12) (v := undef) rfl (by kernel_rfl) (by kernel_rfl) (by kernel_rfl) (fun _ _ _ h => h) (Or.inr ⟨by rfl, rfl⟩) hR2 ?_
      go_simp
      refine wpAnyH_take (i := 13) (v := undef) rfl (by kernel_rfl) (by kernel_rfl) (by kernel_rfl) (fun _ _ _ h => h) (Or.inr ⟨by rfl, rfl⟩) hR2 ?_
      go_simp
      refine wpAnyH_take (i := 14) (v := undef) rfl (by kernel_rfl) (by kernel_rfl) (by kernel_rfl) (fun _ _ _ h => h) (Or.inr ⟨by rfl, rfl⟩) hR2 ?_
      go_simp
      refine wpAnyH_take (i := 15) (v := .bool false) rfl (by kernel_rfl) (by kernel_rfl) (by kernel_rfl) (fun _ _ _ h => h) (Or.inl ⟨by rfl, fun w hw => by go_simp⟩) hR2 ?_
      go_simp
      refine wpAnyH_take (i := 16) (v := .bool false) rfl (by kernel_rfl) (by kernel_rfl) (by kernel_rfl) (fun _ _ _ h => h) (Or.inl ⟨by rfl, fun w hw => by go_simp⟩) hR2 ?_
      go_simp
      refine wpAnyH_take (i := 17) (v := undef) rfl (by kernel_rfl) (by kernel_rfl) (by kernel_rfl) (fun _ _ _ h => h) (Or.inr ⟨by rfl, rfl⟩) hR2 ?_
      go_simp
      refine wpAnyH_take (i := 18) (v := undef) rfl (by kernel_rfl) (by kernel_rfl) (by kernel_rfl) (fun _ _ _ h => h) (Or.inr ⟨by rfl, rfl⟩) hR2 ?_
      go_simp
      refine wpAnyH_take (i := 19) (v := undef) rfl (by kernel_rfl) (by kernel_rfl) (by kernel_rfl) (fun _ _ _ h => h) (Or.inr ⟨by rfl, rfl⟩) hR2 ?_
      go_simp
      refine wpAnyH_take (i := 20) (v := undef) rfl (by kernel_rfl) (by kernel_rfl) (by kernel_rfl) (fun _ _ _ h => h) (Or.inr ⟨by rfl, rfl⟩) hR2 ?_
      go_simp
      refine wpAnyH_take (i := 21) (v := undef) rfl (by kernel_rfl) (by kernel_rfl) (by kernel_rfl) (fun _ _ _ h => h) (Or.inr ⟨by rfl, rfl⟩) hR2 ?_
      go_simp
      refine wpAnyH_take (i := 22) (v := undef) rfl (by kernel_rfl) (by kernel_rfl) (by kernel_rfl) (fun _ _ _ h => h) (Or.inr ⟨by rfl, rfl⟩) hR2 ?_
      go_simp
      refine wpAnyH_take (i := 23) (v := undef) rfl (by kernel_rfl) (by kernel_rfl) (by kernel_rfl) (fun _ _ _ h => h) (Or.inr ⟨by rfl, rfl⟩) hR2 ?_
      go_simp
      refine wpAnyH_take (i := 24) (v := undef) rfl (by kernel_rfl) (by kernel_rfl) (by kernel_rfl) (fun _ _ _ h => h) (Or.inr ⟨by rfl, rfl⟩) hR2 ?_
      go_simp
      refine wpAnyH_take (i := 25) (v := undef) rfl (by kernel_rfl) (by kernel_rfl) (by kernel_rfl) (fun _ _ _ h => h) (Or.inr ⟨by rfl, rfl⟩) hR2 ?_
      go_simp
      refine wpAnyH_take (i := 26) (v := undef) rfl (by kernel_rfl) (by kernel_rfl) (by kernel_rfl) (fun _ _ _ h => h) (Or.inr ⟨by rfl, rfl⟩) hR2 ?_
      go_simp
      refine wpAnyH_take (i := 27) (v := .bool false) rfl (by kernel_rfl) (by kernel_rfl) (by kernel_rfl) (fun _ _ _ h => h) (Or.inl ⟨by rfl, fun w hw => by go_simp⟩) hR2 ?_
      go_simp
      refine wpAnyH_take (i := 28) (v := .bool false) rfl (by kernel_rfl) (by kernel_rfl) (by kernel_rfl) (fun _ _ _ h => h) (Or.inl ⟨by rfl, fun w hw => by go_simp⟩) hR2 ?_
      go_simp
      refine wpAnyH_take (i := 29) (v := undef) rfl (by kernel_rfl) (by kernel_rfl) (by kernel_rfl) (fun _ _ _ h => h) (Or.inr ⟨by rfl, rfl⟩) hR2 ?_
      go_simp
      refine wpAnyH_take (i := 30) (v := undef) rfl (by kernel_rfl) (by kernel_rfl) (by kernel_rfl) (fun _ _ _ h => h) (Or.inr ⟨by rfl, rfl⟩) hR2 ?_
      go_simp
      refine wpAnyH_take (i := 31) (v := undef) rfl (by kernel_rfl) (by kernel_rfl) (by kernel_rfl) (fun _ _ _ h => h) (Or.inr ⟨by rfl, rfl⟩) hR2 ?_
      go_simp
      refine wpAnyH_take (i := 32) (v := undef) rfl (by kernel_rfl) (by kernel_rfl) (by kernel_rfl) (fun _ _ _ h => h) (Or.inr ⟨by rfl, rfl⟩) hR2 ?_
      go_simp
      refine wpAnyH_take (i := 33) (v := undef) rfl (by kernel_rfl) (by kernel_rfl) (by kernel_rfl) (fun _ _ _ h => h) (Or.inr ⟨by rfl, rfl⟩) hR2 ?_
      go_simp
      refine wpAnyH_take (i := 34) (v := undef) rfl (by kernel_rfl) (by kernel_rfl) (by kernel_rfl) (fun _ _ _ h => h) (Or.inr ⟨by rfl, rfl⟩) hR2 ?_
      go_simp
      refine wpAnyH_take (i := 35) (v := undef) rfl (by kernel_rfl) (by kernel_rfl) (by kernel_rfl) (fun _ _ _ h => h) (Or.inr ⟨by rfl, rfl⟩) hR2 ?_
      go_simp
      refine wpAnyH_take (i := 36) (v := undef) rfl (by kernel_rfl) (by kernel_rfl) (by kernel_rfl) (fun _ _ _ h => h) (Or.inr ⟨by rfl, rfl⟩) hR2 ?_
      go_simp
      refine wpAnyH_take (i := 37) (v := undef) rfl (by kernel_rfl) (by kernel_rfl) (by kernel_rfl) (fun _ _ _ h => h) (Or.inr ⟨by rfl, rfl⟩) hR2 ?_
      go_simp
      refine wpAnyH_take (i := 38) (v := undef) rfl (by kernel_rfl) (by kernel_rfl) (by kernel_rfl) (fun _ _ _ h => h) (Or.inr ⟨by rfl, rfl⟩) hR2 ?_
      go_simp
      refine wpAnyH_take (i := 39) (v := .bool false) rfl (by kernel_rfl) (by kernel_rfl) (by kernel_rfl) (fun _ _ _ h => h) (Or.inl ⟨by rfl, fun w hw => by go_simp⟩) hR2 ?_
      go_simp
      refine wpAnyH_take (i := 40) (v := .bool false) rfl (by kernel_rfl) (by kernel_rfl) (by kernel_rfl) (fun _ _ _ h => h) (Or.inl ⟨by rfl, fun w hw => by go_simp⟩) hR2 ?_
      go_simp
      refine wpAnyH_done (by kernel_rfl) ?_ _
      go_wp2_with fail
      go_ret
      exact ⟨rfl, ((hcur.drew.drew).trans (bk1.mono (hcur.drew.drew).size)).trans (bk2.mono ((hcur.drew.drew).trans (bk1.mono (hcur.drew.drew).size)).size)⟩
    | true =>
     cases e2 with
     | false =>
      refine wp_region_held (S := fun w' => Joined w' W.heap.size (W.heap.size + 1) (W.heap.size + 1 + 1) b p x r T U) (by kernel_rfl) ?_
      refine wpAnyH_take (i := 0) (v := .agg #[.int .i64 T.b, .string T.p, .int .i64 T.x, .int .i64 T.r]) rfl (by kernel_rfl) (by kernel_rfl) (by kernel_rfl) (fun _ _ _ h => h) (Or.inl ⟨by rfl, fun w hw => by obtain ⟨l0, l1, l2, l3, l4, l5, l6, l7, l8, l9, l10, l11⟩ := hw; first | (go_simp; done) | rfl⟩) hq ?_
      go_simp
      refine wpAnyH_take (i := 2) (v := .pointer (some ⟨W.heap.size, 0, none⟩)) rfl (by kernel_rfl) (by kernel_rfl) (by kernel_rfl) (fun _ _ _ h => h) (Or.inl ⟨by rfl, fun w hw => by go_simp⟩) hq ?_
      go_simp
      refine wpAnyH_take (i := 3) (v := .pointer (some ⟨W.heap.size, 0, none⟩)) rfl (by kernel_rfl) (by kernel_rfl) (by kernel_rfl) (fun _ _ _ h => h) (Or.inl ⟨by rfl, fun w hw => by go_simp⟩) hq ?_
      go_simp
      refine wpAnyH_take (i := 4) (v := .agg #[.int .i64 b, .string p, .int .i64 x, .int .i64 r]) rfl (by kernel_rfl) (by kernel_rfl) (by kernel_rfl) (fun _ _ _ h => h) (Or.inl ⟨by rfl, fun w hw => by obtain ⟨l0, l1, l2, l3, l4, l5, l6, l7, l8, l9, l10, l11⟩ := hw; first | (go_simp; done) | rfl⟩) hq ?_
      go_simp
      refine wpAnyH_ready (rs := [1]) (by kernel_rfl) (by simp) ?_
      refine AllReadyH.cons rfl (fun K hK => ?_) AllReadyH.nil
      go_simp
      go_wp2_with (go_at_call 130; refine (HB _ _ _ _ _).mono ?_; rintro e Wk1 ⟨rfl, bk1⟩)
      refine hK _ _ (Joined.through bk1 hq rfl (Nat.le_refl _)) (fun hR1 => ?_)
      clear hK K
      go_simp
      refine wpAnyH_ready (rs := [5]) (by kernel_rfl) (by simp) ?_
      refine AllReadyH.cons rfl (fun K hK => ?_) AllReadyH.nil
      go_simp
      go_wp2_with (go_at_call 130; refine (HB _ _ _ _ _).mono ?_; rintro e Wk2 ⟨rfl, bk2⟩)
      refine hK _ _ (Joined.through bk2 hR1 rfl (Nat.le_refl _)) (fun hR2 => ?_)
      clear hK K
      go_simp
      refine wpAnyH_take (i := 6) (v := .bool true) rfl (by kernel_rfl) (by kernel_rfl) (by kernel_rfl) (fun _ _ _ h => h) (Or.inl ⟨by rfl, fun w hw => by go_simp⟩) hR2 ?_
      go_simp
      refine wpAnyH_take (i := 7) (v := .bool true) rfl (by kernel_rfl) (by kernel_rfl) (by kernel_rfl) (fun _ _ _ h => h) (Or.inl ⟨by rfl, fun w hw => by go_simp⟩) hR2 ?_
      go_simp
      refine wpAnyH_take (i := 8) (v := .agg #[.int .i64 U.b, .string U.p, .int .i64 U.x, .int .i64 U.r]) rfl (by kernel_rfl) (by kernel_rfl) (by kernel_rfl) (fun _ _ _ h => h) (Or.inl ⟨by rfl, fun w hw => by obtain ⟨l0, l1, l2, l3, l4, l5, l6, l7, l8, l9, l10, l11⟩ := hw; first | (go_simp; done) | rfl⟩) hR2 ?_
      go_simp
      refine wpAnyH_take (i := 10) (v := .pointer (some ⟨W.heap.size, 0, none⟩)) rfl (by kernel_rfl) (by kernel_rfl) (by kernel_rfl) (fun _ _ _ h => h) (Or.inl ⟨by rfl, fun w hw => by go_simp⟩) hR2 ?_
      go_simp
      refine wpAnyH_take (i := 11) (v := .pointer (some ⟨W.heap.size, 0, none⟩)) rfl (by kernel_rfl) (by kernel_rfl) (by kernel_rfl) (fun _ _ _ h => h) (Or.inl ⟨by rfl, fun w hw => by go_simp⟩) hR2 ?_
      go_simp
      refine wpAnyH_take (i := 12) (v := .agg #[.int .i64 b, .string p, .int .i64 x, .int .i64 r]) rfl (by kernel_rfl) (by kernel_rfl) (by kernel_rfl) (fun _ _ _ h => h) (Or.inl ⟨by rfl, fun w hw => by obtain ⟨l0, l1, l2, l3, l4, l5, l6, l7, l8, l9, l10, l11⟩ := hw; first | (go_simp; done) | rfl⟩) hR2 ?_
      go_simp
      refine wpAnyH_ready (rs := [9]) (by kernel_rfl) (by simp) ?_
      refine AllReadyH.cons rfl (fun K hK => ?_) AllReadyH.nil
      go_simp
      go_wp2_with (go_at_call 130; refine (HB _ _ _ _ _).mono ?_; rintro e Wk3 ⟨rfl, bk3⟩)
      refine hK _ _ (Joined.through bk3 hR2 rfl (Nat.le_refl _)) (fun hR3 => ?_)
      clear hK K
      go_simp
      refine wpAnyH_ready (rs := [13]) (by kernel_rfl) (by simp) ?_
      refine AllReadyH.cons rfl (fun K hK => ?_) AllReadyH.nil
      go_simp
      go_wp2_with (go_at_call 130; refine (HB _ _ _ _ _).mono ?_; rintro e Wk4 ⟨rfl, bk4⟩)
      refine hK _ _ (Joined.through bk4 hR3 rfl (Nat.le_refl _)) (fun hR4 => ?_)
      clear hK K
      go_simp
      refine wpAnyH_take (i := 14) (v := .bool false) rfl (by kernel_rfl) (by kernel_rfl) (by kernel_rfl) (fun _ _ _ h => h) (Or.inl ⟨by rfl, fun w hw => by go_simp⟩) hR4 ?_
      go_simp
      refine wpAnyH_take (i := 15) (v := .bool false) rfl (by kernel_rfl) (by kernel_rfl) (by kernel_rfl) (fun _ _ _ h => h) (Or.inl ⟨by rfl, fun w hw => by go_simp⟩) hR4 ?_
      go_simp
      refine wpAnyH_take (i := 16) (v := .bool false) rfl (by kernel_rfl) (by kernel_rfl) (by kernel_rfl) (fun _ _ _ h => h) (Or.inl ⟨by rfl, fun w hw => by go_simp⟩) hR4 ?_
      go_simp
      refine wpAnyH_take (i := 17) (v := undef) rfl (by kernel_rfl) (by kernel_rfl) (by kernel_rfl) (fun _ _ _ h => h) (Or.inr ⟨by rfl, rfl⟩) hR4 ?_
      go_simp
      refine wpAnyH_take (i := 18) (v := undef) rfl (by kernel_rfl) (by kernel_rfl) (by kernel_rfl) (fun _ _ _ h => h) (Or.inr ⟨by rfl, rfl⟩) hR4 ?_
      go_simp
      refine wpAnyH_take (i := 19) (v := undef) rfl (by kernel_rfl) (by kernel_rfl) (by kernel_rfl) (fun _ _ _ h => h) (Or.inr ⟨by rfl, rfl⟩) hR4 ?_
      go_simp
      refine wpAnyH_take (i := 20) (v := undef) rfl (by kernel_rfl) (by kernel_rfl) (by kernel_rfl) (fun _ _ _ h => h) (Or.inr ⟨by rfl, rfl⟩) hR4 ?_
      go_simp
      refine wpAnyH_take (i := 21) (v := undef) rfl (by kernel_rfl) (by kernel_rfl) (by kernel_rfl) (fun _ _ _ h => h) (Or.inr ⟨by rfl, rfl⟩) hR4 ?_
      go_simp
      refine wpAnyH_take (i := 22) (v := undef) rfl (by kernel_rfl) (by kernel_rfl) (by kernel_rfl) (fun _ _ _ h => h) (Or.inr ⟨by rfl, rfl⟩) hR4 ?_
      go_simp
      refine wpAnyH_take (i := 23) (v := undef) rfl (by kernel_rfl) (by kernel_rfl) (by kernel_rfl) (fun _ _ _ h => h) (Or.inr ⟨by rfl, rfl⟩) hR4 ?_
      go_simp
      refine wpAnyH_take (i := 24) (v := undef) rfl (by kernel_rfl) (by kernel_rfl) (by kernel_rfl) (fun _ _ _ h => h) (Or.inr ⟨by rfl, rfl⟩) hR4 ?_
      go_simp
      refine wpAnyH_take (i := 25) (v := undef) rfl (by kernel_rfl) (by kernel_rfl) (by kernel_rfl) (fun _ _ _ h => h) (Or.inr ⟨by rfl, rfl⟩) hR4 ?_
      go_simp
      refine wpAnyH_take (i := 26) (v := undef) rfl (by kernel_rfl) (by kernel_rfl) (by kernel_rfl) (fun _ _ _ h => h) (Or.inr ⟨by rfl, rfl⟩) hR4 ?_
      go_simp
      refine wpAnyH_take (i := 27) (v := .bool false) rfl (by kernel_rfl) (by kernel_rfl) (by kernel_rfl) (fun _ _ _ h => h) (Or.inl ⟨by rfl, fun w hw => by go_simp⟩) hR4 ?_
      go_simp
      refine wpAnyH_take (i := 28) (v := .bool false) rfl (by kernel_rfl) (by kernel_rfl) (by kernel_rfl) (fun _ _ _ h => h) (Or.inl ⟨by rfl, fun w hw => by go_simp⟩) hR4 ?_
      go_simp
      refine wpAnyH_take (i := 29) (v := undef) rfl (by kernel_rfl) (by kernel_rfl) (by kernel_rfl) (fun _ _ _ h => h) (Or.inr ⟨by rfl, rfl⟩) hR4 ?_
      go_simp
      refine wpAnyH_take (i := 30) (v := undef) rfl (by kernel_rfl) (by kernel_rfl) (by kernel_rfl) (fun _ _ _ h => h) (Or.inr ⟨by rfl, rfl⟩) hR4 ?_
      go_simp
      refine wpAnyH_take (i := 31) (v := undef) rfl (by kernel_rfl) (by kernel_rfl) (by kernel_rfl) (fun _ _ _ h => h) (Or.inr ⟨by rfl, rfl⟩) hR4 ?_
      go_simp
      refine wpAnyH_take (i := 32) (v := undef) rfl (by kernel_rfl) (by kernel_rfl) (by kernel_rfl) (fun _ _ _ h => h) (Or.inr ⟨by rfl, rfl⟩) hR4 ?_
      go_simp
      refine wpAnyH_take (i := 33) (v := undef) rfl (by kernel_rfl) (by kernel_rfl) (by kernel_rfl) (fun _ _ _ h => h) (Or.inr ⟨by rfl, rfl⟩) hR4 ?_
      go_simp
      refine wpAnyH_take (i := 34) (v := undef) rfl (by kernel_rfl) (by kernel_rfl) (by kernel_rfl) (fun _ _ _ h => h) (Or.inr ⟨by rfl, rfl⟩) hR4 ?_
      go_simp
      refine wpAnyH_take (i := 35) (v := undef) rfl (by kernel_rfl) (by kernel_rfl) (by kernel_rfl) (fun _ _ _ h => h) (Or.inr ⟨by rfl, rfl⟩) hR4 ?_
      go_simp
      refine wpAnyH_take (i := 36) (v := undef) rfl (by kernel_rfl) (by kernel_rfl) (by kernel_rfl) (fun _ _ _ h => h) (Or.inr ⟨by rfl, rfl⟩) hR4 ?_
      go_simp
      refine wpAnyH_take (i := 37) (v := undef) rfl (by kernel_rfl) (by kernel_rfl) (by kernel_rfl) (fun _ _ _ h => h) (Or.inr ⟨by rfl, rfl⟩) hR4 ?_
      go_simp
      refine wpAnyH_take (i := 38) (v := undef) rfl (by kernel_rfl) (by kernel_rfl) (by kernel_rfl) (fun _ _ _ h => h) (Or.inr ⟨by rfl, rfl⟩) hR4 ?_
      go_simp
      refine wpAnyH_take (i := 39) (v := .bool false) rfl (by kernel_rfl) (by kernel_rfl) (by kernel_rfl) (fun _ _ _ h => h) (Or.inl ⟨by rfl, fun w hw => by go_simp⟩) hR4 ?_
      go_simp
      refine wpAnyH_take (i := 40) (v := .bool false) rfl (by kernel_rfl) (by kernel_rfl) (by kernel_rfl) (fun _ _ _ h => h) (Or.inl ⟨by rfl, fun w hw => by go_simp⟩) hR4 ?_
      go_simp
      refine wpAnyH_done (by kernel_rfl) ?_ _
      go_wp2_with fail
      go_ret
      exact ⟨rfl, ((((hcur.drew.drew).trans (bk1.mono (hcur.drew.drew).size)).trans (bk2.mono ((hcur.drew.drew).trans (bk1.mono (hcur.drew.drew).size)).size)).trans (bk3.mono (((hcur.drew.drew).trans (bk1.mono (hcur.drew.drew).size)).trans (bk2.mono ((hcur.drew.drew).trans (bk1.mono (hcur.drew.drew).size)).size)).size)).trans (bk4.mono ((((hcur.drew.drew).trans (bk1.mono (hcur.drew.drew).size)).trans (bk2.mono ((hcur.drew.drew).trans (bk1.mono (hcur.drew.drew).size)).size)).trans (bk3.mono (((hcur.drew.drew).trans (bk1.mono (hcur.drew.drew).size)).trans (bk2.mono ((hcur.drew.drew).trans (bk1.mono (hcur.drew.drew).size)).size)).size)).size)⟩
     | true =>
      cases e3 with
      | false =>
        refine wp_region_held (S := fun w' => Joined w' W.heap.size (W.heap.size + 1) (W.heap.size + 1 + 1) b p x r T U) (by kernel_rfl) ?_
        refine wpAnyH_take (i := 0) (v := .agg #[.int .i64 T.b, .string T.p, .int .i64 T.x, .int .i64 T.r]) rfl (by kernel_rfl) (by kernel_rfl) (by kernel_rfl) (fun _ _ _ h => h) (Or.inl ⟨by rfl, fun w hw => by obtain ⟨l0, l1, l2, l3, l4, l5, l6, l7, l8, l9, l10, l11⟩ := hw; first | (go_simp; done) | rfl⟩) hq ?_
        go_simp
        refine wpAnyH_take (i := 2) (v := .pointer (some ⟨W.heap.size, 0, none⟩)) rfl (by kernel_rfl) (by kernel_rfl) (by kernel_rfl) (fun _ _ _ h => h) (Or.inl ⟨by rfl, fun w hw => by go_simp⟩) hq ?_
        go_simp
        refine wpAnyH_take (i := 3) (v := .pointer (some ⟨W.heap.size, 0, none⟩)) rfl (by kernel_rfl) (by kernel_rfl) (by kernel_rfl) (fun _ _ _ h => h) (Or.inl ⟨by rfl, fun w hw => by go_simp⟩) hq ?_
        go_simp
        refine wpAnyH_take (i := 4) (v := .agg #[.int .i64 b, .string p, .int .i64 x, .int .i64 r]) rfl (by kernel_rfl) (by kernel_rfl) (by kernel_rfl) (fun _ _ _ h => h) (Or.inl ⟨by rfl, fun w hw => by obtain ⟨l0, l1, l2, l3, l4, l5, l6, l7, l8, l9, l10, l11⟩ := hw; first | (go_simp; done) | rfl⟩) hq ?_
        go_simp
        refine wpAnyH_ready (rs := [1]) (by kernel_rfl) (by simp) ?_
        refine AllReadyH.cons rfl (fun K hK => ?_) AllReadyH.nil
        go_simp
        go_wp2_with (go_at_call 130; refine (HB _ _ _ _ _).mono ?_; rintro e Wk1 ⟨rfl, bk1⟩)
        refine hK _ _ (Joined.through bk1 hq rfl (Nat.le_refl _)) (fun hR1 => ?_)
        clear hK K
        go_simp
        refine wpAnyH_ready (rs := [5]) (by kernel_rfl) (by simp) ?_
        refine AllReadyH.cons rfl (fun K hK => ?_) AllReadyH.nil
        go_simp
        go_wp2_with (go_at_call 130; refine (HB _ _ _ _ _).mono ?_; rintro e Wk2 ⟨rfl, bk2⟩)
        refine hK _ _ (Joined.through bk2 hR1 rfl (Nat.le_refl _)) (fun hR2 => ?_)
        clear hK K
        go_simp
        refine wpAnyH_take (i := 6) (v := .bool true) rfl (by kernel_rfl) (by kernel_rfl) (by kernel_rfl) (fun _ _ _ h => h) (Or.inl ⟨by rfl, fun w hw => by go_simp⟩) hR2 ?_
        go_simp
        refine wpAnyH_take (i := 7) (v := .bool true) rfl (by kernel_rfl) (by kernel_rfl) (by kernel_rfl) (fun _ _ _ h => h) (Or.inl ⟨by rfl, fun w hw => by go_simp⟩) hR2 ?_
        go_simp
        refine wpAnyH_take (i := 8) (v := .agg #[.int .i64 U.b, .string U.p, .int .i64 U.x, .int .i64 U.r]) rfl (by kernel_rfl) (by kernel_rfl) (by kernel_rfl) (fun _ _ _ h => h) (Or.inl ⟨by rfl, fun w hw => by obtain ⟨l0, l1, l2, l3, l4, l5, l6, l7, l8, l9, l10, l11⟩ := hw; first | (go_simp; done) | rfl⟩) hR2 ?_
        go_simp
        refine wpAnyH_take (i := 10) (v := .pointer (some ⟨W.heap.size, 0, none⟩)) rfl (by kernel_rfl) (by kernel_rfl) (by kernel_rfl) (fun _ _ _ h => h) (Or.inl ⟨by rfl, fun w hw => by go_simp⟩) hR2 ?_
        go_simp
        refine wpAnyH_take (i := 11) (v := .pointer (some ⟨W.heap.size, 0, none⟩)) rfl (by kernel_rfl) (by kernel_rfl) (by kernel_rfl) (fun _ _ _ h => h) (Or.inl ⟨by rfl, fun w hw => by go_simp⟩) hR2 ?_
        go_simp
        refine wpAnyH_take (i := 12) (v := .agg #[.int .i64 b, .string p, .int .i64 x, .int .i64 r]) rfl (by kernel_rfl) (by kernel_rfl) (by kernel_rfl) (fun _ _ _ h => h) (Or.inl ⟨by rfl, fun w hw => by obtain ⟨l0, l1, l2, l3, l4, l5, l6, l7, l8, l9, l10, l11⟩ := hw; first | (go_simp; done) | rfl⟩) hR2 ?_
        go_simp
        refine wpAnyH_ready (rs := [9]) (by kernel_rfl) (by simp) ?_
        refine AllReadyH.cons rfl (fun K hK => ?_) AllReadyH.nil
        go_simp
        go_wp2_with (go_at_call 130; refine (HB _ _ _ _ _).mono ?_; rintro e Wk3 ⟨rfl, bk3⟩)
        refine hK _ _ (Joined.through bk3 hR2 rfl (Nat.le_refl _)) (fun hR3 => ?_)
        clear hK K
        go_simp
        refine wpAnyH_ready (rs := [13]) (by kernel_rfl) (by simp) ?_
        refine AllReadyH.cons rfl (fun K hK => ?_) AllReadyH.nil
        go_simp
        go_wp2_with (go_at_call 130; refine (HB _ _ _ _ _).mono ?_; rintro e Wk4 ⟨rfl, bk4⟩)
        refine hK _ _ (Joined.through bk4 hR3 rfl (Nat.le_refl _)) (fun hR4 => ?_)
        clear hK K
        go_simp
        refine wpAnyH_take (i := 14) (v := .bool true) rfl (by kernel_rfl) (by kernel_rfl) (by kernel_rfl) (fun _ _ _ h => h) (Or.inl ⟨by rfl, fun w hw => by go_simp⟩) hR4 ?_
        go_simp
        refine wpAnyH_take (i := 15) (v := .bool true) rfl (by kernel_rfl) (by kernel_rfl) (by kernel_rfl) (fun _ _ _ h => h) (Or.inl ⟨by rfl, fun w hw => by go_simp⟩) hR4 ?_
        go_simp
        refine wpAnyH_take (i := 16) (v := .bool true) rfl (by kernel_rfl) (by kernel_rfl) (by kernel_rfl) (fun _ _ _ h => h) (Or.inl ⟨by rfl, fun w hw => by go_simp⟩) hR4 ?_
        go_simp
        refine wpAnyH_take (i := 17) (v := .pointer (some ⟨W.heap.size + 1, 0, none⟩)) rfl (by kernel_rfl) (by kernel_rfl) (by kernel_rfl) (fun _ _ _ h => h) (Or.inl ⟨by rfl, fun w hw => by go_simp⟩) hR4 ?_
        go_simp
        refine wpAnyH_take (i := 18) (v := .int .i64 T.b) rfl (by kernel_rfl) (by kernel_rfl) (by kernel_rfl) (fun _ _ _ h => h) (Or.inl ⟨by rfl, fun w hw => by obtain ⟨l0, l1, l2, l3, l4, l5, l6, l7, l8, l9, l10, l11⟩ := hw; first | (go_simp; done) | rfl⟩) hR4 ?_
        go_simp
        refine wpAnyH_take (i := 19) (v := .pointer (some ⟨W.heap.size + 1 + 1, 0, none⟩)) rfl (by kernel_rfl) (by kernel_rfl) (by kernel_rfl) (fun _ _ _ h => h) (Or.inl ⟨by rfl, fun w hw => by go_simp⟩) hR4 ?_
        go_simp
        refine wpAnyH_take (i := 20) (v := .int .i64 U.b) rfl (by kernel_rfl) (by kernel_rfl) (by kernel_rfl) (fun _ _ _ h => h) (Or.inl ⟨by rfl, fun w hw => by obtain ⟨l0, l1, l2, l3, l4, l5, l6, l7, l8, l9, l10, l11⟩ := hw; first | (go_simp; done) | rfl⟩) hR4 ?_
        go_simp
        refine wpAnyH_take (i := 21) (v := .int .i64 (bits .or .i64 T.b U.b)) rfl (by kernel_rfl) (by kernel_rfl) (by kernel_rfl) (fun _ _ _ h => h) (Or.inl ⟨by rfl, fun w hw => by go_simp⟩) hR4 ?_
        go_simp
        refine wpAnyH_take (i := 22) (v := .pointer (some ⟨W.heap.size, 0, none⟩)) rfl (by kernel_rfl) (by kernel_rfl) (by kernel_rfl) (fun _ _ _ h => h) (Or.inl ⟨by rfl, fun w hw => by go_simp⟩) hR4 ?_
        go_simp
        refine wpAnyH_take (i := 23) (v := .pointer (some ⟨W.heap.size, 0, none⟩)) rfl (by kernel_rfl) (by kernel_rfl) (by kernel_rfl) (fun _ _ _ h => h) (Or.inl ⟨by rfl, fun w hw => by go_simp⟩) hR4 ?_
        go_simp
        refine wpAnyH_take (i := 24) (v := .pointer (some ⟨W.heap.size, 0, none⟩)) rfl (by kernel_rfl) (by kernel_rfl) (by kernel_rfl) (fun _ _ _ h => h) (Or.inl ⟨by rfl, fun w hw => by go_simp⟩) hR4 ?_
        go_simp
        refine wpAnyH_take (i := 25) (v := .int .i64 b) rfl (by kernel_rfl) (by kernel_rfl) (by kernel_rfl) (fun _ _ _ h => h) (Or.inl ⟨by rfl, fun w hw => by obtain ⟨l0, l1, l2, l3, l4, l5, l6, l7, l8, l9, l10, l11⟩ := hw; first | (go_simp; done) | rfl⟩) hR4 ?_
        go_simp
        refine wpAnyH_take (i := 26) (v := .bool false) rfl (by kernel_rfl) (by kernel_rfl) (by kernel_rfl) (fun _ _ _ h => h) (Or.inl ⟨by rfl, fun w hw => by go_simp⟩) hR4 ?_
        go_simp
        refine wpAnyH_take (i := 27) (v := .bool false) rfl (by kernel_rfl) (by kernel_rfl) (by kernel_rfl) (fun _ _ _ h => h) (Or.inl ⟨by rfl, fun w hw => by go_simp⟩) hR4 ?_
        go_simp
        refine wpAnyH_take (i := 28) (v := .bool false) rfl (by kernel_rfl) (by kernel_rfl) (by kernel_rfl) (fun _ _ _ h => h) (Or.inl ⟨by rfl, fun w hw => by go_simp⟩) hR4 ?_
        go_simp
        refine wpAnyH_take (i := 29) (v := undef) rfl (by kernel_rfl) (by kernel_rfl) (by kernel_rfl) (fun _ _ _ h => h) (Or.inr ⟨by rfl, rfl⟩) hR4 ?_
        go_simp
        refine wpAnyH_take (i := 30) (v := undef) rfl (by kernel_rfl) (by kernel_rfl) (by kernel_rfl) (fun _ _ _ h => h) (Or.inr ⟨by rfl, rfl⟩) hR4 ?_
        go_simp
        refine wpAnyH_take (i := 31) (v := undef) rfl (by kernel_rfl) (by kernel_rfl) (by kernel_rfl) (fun _ _ _ h => h) (Or.inr ⟨by rfl, rfl⟩) hR4 ?_
        go_simp
        refine wpAnyH_take (i := 32) (v := undef) rfl (by kernel_rfl) (by kernel_rfl) (by kernel_rfl) (fun _ _ _ h => h) (Or.inr ⟨by rfl, rfl⟩) hR4 ?_
        go_simp
        refine wpAnyH_take (i := 33) (v := undef) rfl (by kernel_rfl) (by kernel_rfl) (by kernel_rfl) (fun _ _ _ h => h) (Or.inr ⟨by rfl, rfl⟩) hR4 ?_
        go_simp
        refine wpAnyH_take (i := 34) (v := undef) rfl (by kernel_rfl) (by kernel_rfl) (by kernel_rfl) (fun _ _ _ h => h) (Or.inr ⟨by rfl, rfl⟩) hR4 ?_
        go_simp
        refine wpAnyH_take (i := 35) (v := undef) rfl (by kernel_rfl) (by kernel_rfl) (by kernel_rfl) (fun _ _ _ h => h) (Or.inr ⟨by rfl, rfl⟩) hR4 ?_
        go_simp
        refine wpAnyH_take (i := 36) (v := undef) rfl (by kernel_rfl) (by kernel_rfl) (by kernel_rfl) (fun _ _ _ h => h) (Or.inr ⟨by rfl, rfl⟩) hR4 ?_
        go_simp
        refine wpAnyH_take (i := 37) (v := undef) rfl (by kernel_rfl) (by kernel_rfl) (by kernel_rfl) (fun _ _ _ h => h) (Or.inr ⟨by rfl, rfl⟩) hR4 ?_
        go_simp
        refine wpAnyH_take (i := 38) (v := undef) rfl (by kernel_rfl) (by kernel_rfl) (by kernel_rfl) (fun _ _ _ h => h) (Or.inr ⟨by rfl, rfl⟩) hR4 ?_
        go_simp
        refine wpAnyH_take (i := 39) (v := .bool false) rfl (by kernel_rfl) (by kernel_rfl) (by kernel_rfl) (fun _ _ _ h => h) (Or.inl ⟨by rfl, fun w hw => by go_simp⟩) hR4 ?_
        go_simp
        refine wpAnyH_take (i := 40) (v := .bool false) rfl (by kernel_rfl) (by kernel_rfl) (by kernel_rfl) (fun _ _ _ h => h) (Or.inl ⟨by rfl, fun w hw => by go_simp⟩) hR4 ?_
        go_simp
        refine wpAnyH_done (by kernel_rfl) ?_ _
        go_wp2_with fail
        go_ret
        exact ⟨rfl, ((((hcur.drew.drew).trans (bk1.mono (hcur.drew.drew).size)).trans (bk2.mono ((hcur.drew.drew).trans (bk1.mono (hcur.drew.drew).size)).size)).trans (bk3.mono (((hcur.drew.drew).trans (bk1.mono (hcur.drew.drew).size)).trans (bk2.mono ((hcur.drew.drew).trans (bk1.mono (hcur.drew.drew).size)).size)).size)).trans (bk4.mono ((((hcur.drew.drew).trans (bk1.mono (hcur.drew.drew).size)).trans (bk2.mono ((hcur.drew.drew).trans (bk1.mono (hcur.drew.drew).size)).size)).trans (bk3.mono (((hcur.drew.drew).trans (bk1.mono (hcur.drew.drew).size)).trans (bk2.mono ((hcur.drew.drew).trans (bk1.mono (hcur.drew.drew).size)).size)).size)).size)⟩
      | true =>
        refine wp_region_held (S := fun w' => Joined w' W.heap.size (W.heap.size + 1) (W.heap.size + 1 + 1) b p x r T U) (by kernel_rfl) ?_
        refine wpAnyH_take (i := 0) (v := .agg #[.int .i64 T.b, .string T.p, .int .i64 T.x, .int .i64 T.r]) rfl (by kernel_rfl) (by kernel_rfl) (by kernel_rfl) (fun _ _ _ h => h) (Or.inl ⟨by rfl, fun w hw => by obtain ⟨l0, l1, l2, l3, l4, l5, l6, l7, l8, l9, l10, l11⟩ := hw; first | (go_simp; done) | rfl⟩) hq ?_
        go_simp
        refine wpAnyH_take (i := 2) (v := .pointer (some ⟨W.heap.size, 0, none⟩)) rfl (by kernel_rfl) (by kernel_rfl) (by kernel_rfl) (fun _ _ _ h => h) (Or.inl ⟨by rfl, fun w hw => by go_simp⟩) hq ?_
        go_simp
        refine wpAnyH_take (i := 3) (v := .pointer (some ⟨W.heap.size, 0, none⟩)) rfl (by kernel_rfl) (by kernel_rfl) (by kernel_rfl) (fun _ _ _ h => h) (Or.inl ⟨by rfl, fun w hw => by go_simp⟩) hq ?_
        go_simp
        refine wpAnyH_take (i := 4) (v := .agg #[.int .i64 b, .string p, .int .i64 x, .int .i64 r]) rfl (by kernel_rfl) (by kernel_rfl) (by kernel_rfl) (fun _ _ _ h => h) (Or.inl ⟨by rfl, fun w hw => by obtain ⟨l0, l1, l2, l3, l4, l5, l6, l7, l8, l9, l10, l11⟩ := hw; first | (go_simp; done) | rfl⟩) hq ?_
        go_simp
        refine wpAnyH_ready (rs := [1]) (by kernel_rfl) (by simp) ?_
        refine AllReadyH.cons rfl (fun K hK => ?_) AllReadyH.nil
        go_simp
        go_wp2_with (go_at_call 130; refine (HB _ _ _ _ _).mono ?_; rintro e Wk1 ⟨rfl, bk1⟩)
        refine hK _ _ (Joined.through bk1 hq rfl (Nat.le_refl _)) (fun hR1 => ?_)
        clear hK K
        go_simp
        refine wpAnyH_ready (rs := [5]) (by kernel_rfl) (by simp) ?_
        refine AllReadyH.cons rfl (fun K hK => ?_) AllReadyH.nil
        go_simp
        go_wp2_with (go_at_call 130; refine (HB _ _ _ _ _).mono ?_; rintro e Wk2 ⟨rfl, bk2⟩)
        refine hK _ _ (Joined.through bk2 hR1 rfl (Nat.le_refl _)) (fun hR2 => ?_)
        clear hK K
        go_simp
        refine wpAnyH_take (i := 6) (v := .bool true) rfl (by kernel_rfl) (by kernel_rfl) (by kernel_rfl) (fun _ _ _ h => h) (Or.inl ⟨by rfl, fun w hw => by go_simp⟩) hR2 ?_
        go_simp
        refine wpAnyH_take (i := 7) (v := .bool true) rfl (by kernel_rfl) (by kernel_rfl) (by kernel_rfl) (fun _ _ _ h => h) (Or.inl ⟨by rfl, fun w hw => by go_simp⟩) hR2 ?_
        go_simp
        refine wpAnyH_take (i := 8) (v := .agg #[.int .i64 U.b, .string U.p, .int .i64 U.x, .int .i64 U.r]) rfl (by kernel_rfl) (by kernel_rfl) (by kernel_rfl) (fun _ _ _ h => h) (Or.inl ⟨by rfl, fun w hw => by obtain ⟨l0, l1, l2, l3, l4, l5, l6, l7, l8, l9, l10, l11⟩ := hw; first | (go_simp; done) | rfl⟩) hR2 ?_
        go_simp
        refine wpAnyH_take (i := 10) (v := .pointer (some ⟨W.heap.size, 0, none⟩)) rfl (by kernel_rfl) (by kernel_rfl) (by kernel_rfl) (fun _ _ _ h => h) (Or.inl ⟨by rfl, fun w hw => by go_simp⟩) hR2 ?_
        go_simp
        refine wpAnyH_take (i := 11) (v := .pointer (some ⟨W.heap.size, 0, none⟩)) rfl (by kernel_rfl) (by kernel_rfl) (by kernel_rfl) (fun _ _ _ h => h) (Or.inl ⟨by rfl, fun w hw => by go_simp⟩) hR2 ?_
        go_simp
        refine wpAnyH_take (i := 12) (v := .agg #[.int .i64 b, .string p, .int .i64 x, .int .i64 r]) rfl (by kernel_rfl) (by kernel_rfl) (by kernel_rfl) (fun _ _ _ h => h) (Or.inl ⟨by rfl, fun w hw => by obtain ⟨l0, l1, l2, l3, l4, l5, l6, l7, l8, l9, l10, l11⟩ := hw; first | (go_simp; done) | rfl⟩) hR2 ?_
        go_simp
        refine wpAnyH_ready (rs := [9]) (by kernel_rfl) (by simp) ?_
        refine AllReadyH.cons rfl (fun K hK => ?_) AllReadyH.nil
        go_simp
        go_wp2_with (go_at_call 130; refine (HB _ _ _ _ _).mono ?_; rintro e Wk3 ⟨rfl, bk3⟩)
        refine hK _ _ (Joined.through bk3 hR2 rfl (Nat.le_refl _)) (fun hR3 => ?_)
        clear hK K
        go_simp
        refine wpAnyH_ready (rs := [13]) (by kernel_rfl) (by simp) ?_
        refine AllReadyH.cons rfl (fun K hK => ?_) AllReadyH.nil
        go_simp
        go_wp2_with (go_at_call 130; refine (HB _ _ _ _ _).mono ?_; rintro e Wk4 ⟨rfl, bk4⟩)
        refine hK _ _ (Joined.through bk4 hR3 rfl (Nat.le_refl _)) (fun hR4 => ?_)
        clear hK K
        go_simp
        refine wpAnyH_take (i := 14) (v := .bool true) rfl (by kernel_rfl) (by kernel_rfl) (by kernel_rfl) (fun _ _ _ h => h) (Or.inl ⟨by rfl, fun w hw => by go_simp⟩) hR4 ?_
        go_simp
        refine wpAnyH_take (i := 15) (v := .bool true) rfl (by kernel_rfl) (by kernel_rfl) (by kernel_rfl) (fun _ _ _ h => h) (Or.inl ⟨by rfl, fun w hw => by go_simp⟩) hR4 ?_
        go_simp
        refine wpAnyH_take (i := 16) (v := .bool true) rfl (by kernel_rfl) (by kernel_rfl) (by kernel_rfl) (fun _ _ _ h => h) (Or.inl ⟨by rfl, fun w hw => by go_simp⟩) hR4 ?_
        go_simp
        refine wpAnyH_take (i := 17) (v := .pointer (some ⟨W.heap.size + 1, 0, none⟩)) rfl (by kernel_rfl) (by kernel_rfl) (by kernel_rfl) (fun _ _ _ h => h) (Or.inl ⟨by rfl, fun w hw => by go_simp⟩) hR4 ?_
        go_simp
        refine wpAnyH_take (i := 18) (v := .int .i64 T.b) rfl (by kernel_rfl) (by kernel_rfl) (by kernel_rfl) (fun _ _ _ h => h) (Or.inl ⟨by rfl, fun w hw => by obtain ⟨l0, l1, l2, l3, l4, l5, l6, l7, l8, l9, l10, l11⟩ := hw; first | (go_simp; done) | rfl⟩) hR4 ?_
        go_simp
        refine wpAnyH_take (i := 19) (v := .pointer (some ⟨W.heap.size + 1 + 1, 0, none⟩)) rfl (by kernel_rfl) (by kernel_rfl) (by kernel_rfl) (fun _ _ _ h => h) (Or.inl ⟨by rfl, fun w hw => by go_simp⟩) hR4 ?_
        go_simp
        refine wpAnyH_take (i := 20) (v := .int .i64 U.b) rfl (by kernel_rfl) (by kernel_rfl) (by kernel_rfl) (fun _ _ _ h => h) (Or.inl ⟨by rfl, fun w hw => by obtain ⟨l0, l1, l2, l3, l4, l5, l6, l7, l8, l9, l10, l11⟩ := hw; first | (go_simp; done) | rfl⟩) hR4 ?_
        go_simp
        refine wpAnyH_take (i := 21) (v := .int .i64 (bits .or .i64 T.b U.b)) rfl (by kernel_rfl) (by kernel_rfl) (by kernel_rfl) (fun _ _ _ h => h) (Or.inl ⟨by rfl, fun w hw => by go_simp⟩) hR4 ?_
        go_simp
        refine wpAnyH_take (i := 22) (v := .pointer (some ⟨W.heap.size, 0, none⟩)) rfl (by kernel_rfl) (by kernel_rfl) (by kernel_rfl) (fun _ _ _ h => h) (Or.inl ⟨by rfl, fun w hw => by go_simp⟩) hR4 ?_
        go_simp
        refine wpAnyH_take (i := 23) (v := .pointer (some ⟨W.heap.size, 0, none⟩)) rfl (by kernel_rfl) (by kernel_rfl) (by kernel_rfl) (fun _ _ _ h => h) (Or.inl ⟨by rfl, fun w hw => by go_simp⟩) hR4 ?_
        go_simp
        refine wpAnyH_take (i := 24) (v := .pointer (some ⟨W.heap.size, 0, none⟩)) rfl (by kernel_rfl) (by kernel_rfl) (by kernel_rfl) (fun _ _ _ h => h) (Or.inl ⟨by rfl, fun w hw => by go_simp⟩) hR4 ?_
        go_simp
        refine wpAnyH_take (i := 25) (v := .int .i64 b) rfl (by kernel_rfl) (by kernel_rfl) (by kernel_rfl) (fun _ _ _ h => h) (Or.inl ⟨by rfl, fun w hw => by obtain ⟨l0, l1, l2, l3, l4, l5, l6, l7, l8, l9, l10, l11⟩ := hw; first | (go_simp; done) | rfl⟩) hR4 ?_
        go_simp
        refine wpAnyH_take (i := 26) (v := .bool true) rfl (by kernel_rfl) (by kernel_rfl) (by kernel_rfl) (fun _ _ _ h => h) (Or.inl ⟨by rfl, fun w hw => by go_simp⟩) hR4 ?_
        go_simp
        refine wpAnyH_take (i := 27) (v := .bool true) rfl (by kernel_rfl) (by kernel_rfl) (by kernel_rfl) (fun _ _ _ h => h) (Or.inl ⟨by rfl, fun w hw => by go_simp⟩) hR4 ?_
        go_simp
        refine wpAnyH_take (i := 28) (v := .bool true) rfl (by kernel_rfl) (by kernel_rfl) (by kernel_rfl) (fun _ _ _ h => h) (Or.inl ⟨by rfl, fun w hw => by go_simp⟩) hR4 ?_
        go_simp
        refine wpAnyH_take (i := 29) (v := .pointer (some ⟨W.heap.size + 1, 3, none⟩)) rfl (by kernel_rfl) (by kernel_rfl) (by kernel_rfl) (fun _ _ _ h => h) (Or.inl ⟨by rfl, fun w hw => by go_simp⟩) hR4 ?_
        go_simp
        refine wpAnyH_take (i := 30) (v := .int .i64 T.r) rfl (by kernel_rfl) (by kernel_rfl) (by kernel_rfl) (fun _ _ _ h => h) (Or.inl ⟨by rfl, fun w hw => by obtain ⟨l0, l1, l2, l3, l4, l5, l6, l7, l8, l9, l10, l11⟩ := hw; first | (go_simp; done) | rfl⟩) hR4 ?_
        go_simp
        refine wpAnyH_take (i := 31) (v := .pointer (some ⟨W.heap.size + 1 + 1, 3, none⟩)) rfl (by kernel_rfl) (by kernel_rfl) (by kernel_rfl) (fun _ _ _ h => h) (Or.inl ⟨by rfl, fun w hw => by go_simp⟩) hR4 ?_
        go_simp
        refine wpAnyH_take (i := 32) (v := .int .i64 U.r) rfl (by kernel_rfl) (by kernel_rfl) (by kernel_rfl) (fun _ _ _ h => h) (Or.inl ⟨by rfl, fun w hw => by obtain ⟨l0, l1, l2, l3, l4, l5, l6, l7, l8, l9, l10, l11⟩ := hw; first | (go_simp; done) | rfl⟩) hR4 ?_
        go_simp
        refine wpAnyH_take (i := 33) (v := .int .i64 (bits .or .i64 T.r U.r)) rfl (by kernel_rfl) (by kernel_rfl) (by kernel_rfl) (fun _ _ _ h => h) (Or.inl ⟨by rfl, fun w hw => by go_simp⟩) hR4 ?_
        go_simp
        refine wpAnyH_take (i := 34) (v := .pointer (some ⟨W.heap.size, 0, none⟩)) rfl (by kernel_rfl) (by kernel_rfl) (by kernel_rfl) (fun _ _ _ h => h) (Or.inl ⟨by rfl, fun w hw => by go_simp⟩) hR4 ?_
        go_simp
        refine wpAnyH_take (i := 35) (v := .pointer (some ⟨W.heap.size, 0, none⟩)) rfl (by kernel_rfl) (by kernel_rfl) (by kernel_rfl) (fun _ _ _ h => h) (Or.inl ⟨by rfl, fun w hw => by go_simp⟩) hR4 ?_
        go_simp
        refine wpAnyH_take (i := 36) (v := .pointer (some ⟨W.heap.size, 3, none⟩)) rfl (by kernel_rfl) (by kernel_rfl) (by kernel_rfl) (fun _ _ _ h => h) (Or.inl ⟨by rfl, fun w hw => by go_simp⟩) hR4 ?_
        go_simp
        refine wpAnyH_take (i := 37) (v := .int .i64 r) rfl (by kernel_rfl) (by kernel_rfl) (by kernel_rfl) (fun _ _ _ h => h) (Or.inl ⟨by rfl, fun w hw => by obtain ⟨l0, l1, l2, l3, l4, l5, l6, l7, l8, l9, l10, l11⟩ := hw; first | (go_simp; done) | rfl⟩) hR4 ?_
        go_simp
        refine wpAnyH_take (i := 38) (v := .bool e4) rfl (by kernel_rfl) (by kernel_rfl) (by kernel_rfl) (fun _ _ _ h => h) (Or.inl ⟨by rfl, fun w hw => by go_simp⟩) hR4 ?_
        go_simp
        refine wpAnyH_take (i := 39) (v := .bool e4) rfl (by kernel_rfl) (by kernel_rfl) (by kernel_rfl) (fun _ _ _ h => h) (Or.inl ⟨by rfl, fun w hw => by go_simp⟩) hR4 ?_
        go_simp
        refine wpAnyH_take (i := 40) (v := .bool e4) rfl (by kernel_rfl) (by kernel_rfl) (by kernel_rfl) (fun _ _ _ h => h) (Or.inl ⟨by rfl, fun w hw => by go_simp⟩) hR4 ?_
        go_simp
        refine wpAnyH_done (by kernel_rfl) ?_ _
        go_wp2_with fail
        go_ret
        exact ⟨rfl, ((((hcur.drew.drew).trans (bk1.mono (hcur.drew.drew).size)).trans (bk2.mono ((hcur.drew.drew).trans (bk1.mono (hcur.drew.drew).size)).size)).trans (bk3.mono (((hcur.drew.drew).trans (bk1.mono (hcur.drew.drew).size)).trans (bk2.mono ((hcur.drew.drew).trans (bk1.mono (hcur.drew.drew).size)).size)).size)).trans (bk4.mono ((((hcur.drew.drew).trans (bk1.mono (hcur.drew.drew).size)).trans (bk2.mono ((hcur.drew.drew).trans (bk1.mono (hcur.drew.drew).size)).size)).trans (bk3.mono (((hcur.drew.drew).trans (bk1.mono (hcur.drew.drew).size)).trans (bk2.mono ((hcur.drew.drew).trans (bk1.mono (hcur.drew.drew).size)).size)).size)).size)⟩
  · clear hq1 hB1
    have hq := hq2
    have hcur := hB2
    go_wp2_with fail
    cases e1 with
    | false =>
      refine wp_region_held (S := fun w' => Joined w' W.heap.size (W.heap.size + 1 + 1) (W.heap.size + 1) b p x r T U) (by kernel_rfl) ?_
      refine wpAnyH_take (i := 0) (v := .agg #[.int .i64 T.b, .string T.p, .int .i64 T.x, .int .i64 T.r]) rfl (by kernel_rfl) (by kernel_rfl) (by kernel_rfl) (fun _ _ _ h => h) (Or.inl ⟨by rfl, fun w hw => by obtain ⟨l0, l1, l2, l3, l4, l5, l6, l7, l8, l9, l10, l11⟩ := hw; first | (go_simp; done) | rfl⟩) hq ?_
      go_simp
      refine wpAnyH_take (i := 2) (v := .pointer (some ⟨W.heap.size, 0, none⟩)) rfl (by kernel_rfl) (by kernel_rfl) (by kernel_rfl) (fun _ _ _ h => h) (Or.inl ⟨by rfl, fun w hw => by go_simp⟩) hq ?_
      go_simp
      refine wpAnyH_take (i := 3) (v := .pointer (some ⟨W.heap.size, 0, none⟩)) rfl (by kernel_rfl) (by kernel_rfl) (by kernel_rfl) (fun _ _ _ h => h) (Or.inl ⟨by rfl, fun w hw => by go_simp⟩) hq ?_
      go_simp
      refine wpAnyH_take (i := 4) (v := .agg #[.int .i64 b, .string p, .int .i64 x, .int .i64 r]) rfl (by kernel_rfl) (by kernel_rfl) (by kernel_rfl) (fun _ _ _ h => h) (Or.inl ⟨by rfl, fun w hw => by obtain ⟨l0, l1, l2, l3, l4, l5, l6, l7, l8, l9, l10, l11⟩ := hw; first | (go_simp; done) | rfl⟩) hq ?_
      go_simp
      refine wpAnyH_ready (rs := [1]) (by kernel_rfl) (by simp) ?_
      refine AllReadyH.cons rfl (fun K hK => ?_) AllReadyH.nil
      go_simp
      go_wp2_with (go_at_call 130; refine (HB _ _ _ _ _).mono ?_; rintro e Wk1 ⟨rfl, bk1⟩)
      refine hK _ _ (Joined.through bk1 hq rfl (Nat.le_refl _)) (fun hR1 => ?_)
      clear hK K
      go_simp
      refine wpAnyH_ready (rs := [5]) (by kernel_rfl) (by simp) ?_
      refine AllReadyH.cons rfl (fun K hK => ?_) AllReadyH.nil
      go_simp
      go_wp2_with (go_at_call 130; refine (HB _ _ _ _ _).mono ?_; rintro e Wk2 ⟨rfl, bk2⟩)
      refine hK _ _ (Joined.through bk2 hR1 rfl (Nat.le_refl _)) (fun hR2 => ?_)
      clear hK K
      go_simp
      refine wpAnyH_take (i := 6) (v := .bool false) rfl (by kernel_rfl) (by kernel_rfl) (by kernel_rfl) (fun _ _ _ h => h) (Or.inl ⟨by rfl, fun w hw => by go_simp⟩) hR2 ?_
      go_simp
      refine wpAnyH_take (i := 7) (v := .bool false) rfl (by kernel_rfl) (by kernel_rfl) (by kernel_rfl) (fun _ _ _ h => h) (Or.inl ⟨by rfl, fun w hw => by go_simp⟩) hR2 ?_
      go_simp
      refine wpAnyH_take (i := 8) (v := undef) rfl (by kernel_rfl) (by kernel_rfl) (by kernel_rfl) (fun _ _ _ h => h) (Or.inr ⟨by rfl, rfl⟩) hR2 ?_
      go_simp
      refine wpAnyH_take (i := 9) (v := undef) rfl (by kernel_rfl) (by kernel_rfl) (by kernel_rfl) (fun _ _ _ h => h) (Or.inr ⟨by rfl, rfl⟩) hR2 ?_
      go_simp
      refine wpAnyH_take (i := 10) (v := undef) rfl (by kernel_rfl) (by kernel_rfl) (by kernel_rfl) (fun _ _ _ h => h) (Or.inr ⟨by rfl, rfl⟩) hR2 ?_
      go_simp
      refine wpAnyH_take (i := 11) (v := undef) rfl (by kernel_rfl) (by kernel_rfl) (by kernel_rfl) (fun _ _ _ h => h) (Or.inr ⟨by rfl, rfl⟩) hR2 ?_
      go_simp
      refine wpAnyH_take (i := 12) (v := undef) rfl (by kernel_rfl) (by kernel_rfl) (by kernel_rfl) (fun _ _ _ h => h) (Or.inr ⟨by rfl, rfl⟩) hR2 ?_
      go_simp
      refine wpAnyH_take (i := 13) (v := undef) rfl (by kernel_rfl) (by kernel_rfl) (by kernel_rfl) (fun _ _ _ h => h) (Or.inr ⟨by rfl, rfl⟩) hR2 ?_
      go_simp
      refine wpAnyH_take (i := 14) (v := undef) rfl (by kernel_rfl) (by kernel_rfl) (by kernel_rfl) (fun _ _ _ h => h) (Or.inr ⟨by rfl, rfl⟩) hR2 ?_
      go_simp
      refine wpAnyH_take (i := 15) (v := .bool false) rfl (by kernel_rfl) (by kernel_rfl) (by kernel_rfl) (fun _ _ _ h => h) (Or.inl ⟨by rfl, fun w hw => by go_simp⟩) hR2 ?_
      go_simp
      refine wpAnyH_take (i := 16) (v := .bool false) rfl (by kernel_rfl) (by kernel_rfl) (by kernel_rfl) (fun _ _ _ h => h) (Or.inl ⟨by rfl, fun w hw => by go_simp⟩) hR2 ?_
      go_simp
      refine wpAnyH_take (i := 17) (v := undef) rfl (by kernel_rfl) (by kernel_rfl) (by kernel_rfl) (fun _ _ _ h => h) (Or.inr ⟨by rfl, rfl⟩) hR2 ?_
      go_simp
      refine wpAnyH_take (i := 18) (v := undef) rfl (by kernel_rfl) (by kernel_rfl) (by kernel_rfl) (fun _ _ _ h => h) (Or.inr ⟨by rfl, rfl⟩) hR2 ?_
      go_simp
      refine wpAnyH_take (i := 19) (v := undef) rfl (by kernel_rfl) (by kernel_rfl) (by kernel_rfl) (fun _ _ _ h => h) (Or.inr ⟨by rfl, rfl⟩) hR2 ?_
      go_simp
      refine wpAnyH_take (i := 20) (v := undef) rfl (by kernel_rfl) (by kernel_rfl) (by kernel_rfl) (fun _ _ _ h => h) (Or.inr ⟨by rfl, rfl⟩) hR2 ?_
      go_simp
      refine wpAnyH_take (i := 21) (v := undef) rfl (by kernel_rfl) (by kernel_rfl) (by kernel_rfl) (fun _ _ _ h => h) (Or.inr ⟨by rfl, rfl⟩) hR2 ?_
      go_simp
      refine wpAnyH_take (i := 22) (v := undef) rfl (by kernel_rfl) (by kernel_rfl) (by kernel_rfl) (fun _ _ _ h => h) (Or.inr ⟨by rfl, rfl⟩) hR2 ?_
      go_simp
      refine wpAnyH_take (i := 23) (v := undef) rfl (by kernel_rfl) (by kernel_rfl) (by kernel_rfl) (fun _ _ _ h => h) (Or.inr ⟨by rfl, rfl⟩) hR2 ?_
      go_simp
      refine wpAnyH_take (i := 24) (v := undef) rfl (by kernel_rfl) (by kernel_rfl) (by kernel_rfl) (fun _ _ _ h => h) (Or.inr ⟨by rfl, rfl⟩) hR2 ?_
      go_simp
      refine wpAnyH_take (i := 25) (v := undef) rfl (by kernel_rfl) (by kernel_rfl) (by kernel_rfl) (fun _ _ _ h => h) (Or.inr ⟨by rfl, rfl⟩) hR2 ?_
      go_simp
      refine wpAnyH_take (i := 26) (v := undef) rfl (by kernel_rfl) (by kernel_rfl) (by kernel_rfl) (fun _ _ _ h => h) (Or.inr ⟨by rfl, rfl⟩) hR2 ?_
      go_simp
      refine wpAnyH_take (i := 27) (v := .bool false) rfl (by kernel_rfl) (by kernel_rfl) (by kernel_rfl) (fun _ _ _ h => h) (Or.inl ⟨by rfl, fun w hw => by go_simp⟩) hR2 ?_
      go_simp
      refine wpAnyH_take (i := 28) (v := .bool false) rfl (by kernel_rfl) (by kernel_rfl) (by kernel_rfl) (fun _ _ _ h => h) (Or.inl ⟨by rfl, fun w hw => by go_simp⟩) hR2 ?_
      go_simp
      refine wpAnyH_take (i := 29) (v := undef) rfl (by kernel_rfl) (by kernel_rfl) (by kernel_rfl) (fun _ _ _ h => h) (Or.inr ⟨by rfl, rfl⟩) hR2 ?_
      go_simp
      refine wpAnyH_take (i := 30) (v := undef) rfl (by kernel_rfl) (by kernel_rfl) (by kernel_rfl) (fun _ _ _ h => h) (Or.inr ⟨by rfl, rfl⟩) hR2 ?_
      go_simp
      refine wpAnyH_take (i := 31) (v := undef) rfl (by kernel_rfl) (by kernel_rfl) (by kernel_rfl) (fun _ _ _ h => h) (Or.inr ⟨by rfl, rfl⟩) hR2 ?_
      go_simp
      refine wpAnyH_take (i := 32) (v := undef) rfl (by kernel_rfl) (by kernel_rfl) (by kernel_rfl) (fun _ _ _ h => h) (Or.inr ⟨by rfl, rfl⟩) hR2 ?_
      go_simp
      refine wpAnyH_take (i := 33) (v := undef) rfl (by kernel_rfl) (by kernel_rfl) (by kernel_rfl) (fun _ _ _ h => h) (Or.inr ⟨by rfl, rfl⟩) hR2 ?_
      go_simp
      refine wpAnyH_take (i := 34) (v := undef) rfl (by kernel_rfl) (by kernel_rfl) (by kernel_rfl) (fun _ _ _ h => h) (Or.inr ⟨by rfl, rfl⟩) hR2 ?_
      go_simp
      refine wpAnyH_take (i := 35) (v := undef) rfl (by kernel_rfl) (by kernel_rfl) (by kernel_rfl) (fun _ _ _ h => h) (Or.inr ⟨by rfl, rfl⟩) hR2 ?_
      go_simp
      refine wpAnyH_take (i := 36) (v := undef) rfl (by kernel_rfl) (by kernel_rfl) (by kernel_rfl) (fun _ _ _ h => h) (Or.inr ⟨by rfl, rfl⟩) hR2 ?_
      go_simp
      refine wpAnyH_take (i := 37) (v := undef) rfl (by kernel_rfl) (by kernel_rfl) (by kernel_rfl) (fun _ _ _ h => h) (Or.inr ⟨by rfl, rfl⟩) hR2 ?_
      go_simp
      refine wpAnyH_take (i := 38) (v := undef) rfl (by kernel_rfl) (by kernel_rfl) (by kernel_rfl) (fun _ _ _ h => h) (Or.inr ⟨by rfl, rfl⟩) hR2 ?_
      go_simp
      refine wpAnyH_take (i := 39) (v := .bool false) rfl (by kernel_rfl) (by kernel_rfl) (by kernel_rfl) (fun _ _ _ h => h) (Or.inl ⟨by rfl, fun w hw => by go_simp⟩) hR2 ?_
      go_simp
      refine wpAnyH_take (i := 40) (v := .bool false) rfl (by kernel_rfl) (by kernel_rfl) (by kernel_rfl) (fun _ _ _ h => h) (Or.inl ⟨by rfl, fun w hw => by go_simp⟩) hR2 ?_
      go_simp
      refine wpAnyH_done (by kernel_rfl) ?_ _
      go_wp2_with fail
      go_ret
      exact ⟨rfl, ((hcur.drew.drew).trans (bk1.mono (hcur.drew.drew).size)).trans (bk2.mono ((hcur.drew.drew).trans (bk1.mono (hcur.drew.drew).size)).size)⟩
    | true =>
     cases e2 with
     | false =>
      refine wp_region_held (S := fun w' => Joined w' W.heap.size (W.heap.size + 1 + 1) (W.heap.size + 1) b p x r T U) (by kernel_rfl) ?_
      refine wpAnyH_take (i := 0) (v := .agg #[.int .i64 T.b, .string T.p, .int .i64 T.x, .int .i64 T.r]) rfl (by kernel_rfl) (by kernel_rfl) (by kernel_rfl) (fun _ _ _ h => h) (Or.inl ⟨by rfl, fun w hw => by obtain ⟨l0, l1, l2, l3, l4, l5, l6, l7, l8, l9, l10, l11⟩ := hw; first | (go_simp; done) | rfl⟩) hq ?_
      go_simp
      refine wpAnyH_take (i := 2) (v := .pointer (some ⟨W.heap.size, 0, none⟩)) rfl (by kernel_rfl) (by kernel_rfl) (by kernel_rfl) (fun _ _ _ h => h) (Or.inl ⟨by rfl, fun w hw => by go_simp⟩) hq ?_
      go_simp
      refine wpAnyH_take (i := 3) (v := .pointer (some ⟨W.heap.size, 0, none⟩)) rfl (by kernel_rfl) (by kernel_rfl) (by kernel_rfl) (fun _ _ _ h => h) (Or.inl ⟨by rfl, fun w hw => by go_simp⟩) hq ?_
      go_simp
      refine wpAnyH_take (i := 4) (v := .agg #[.int .i64 b, .string p, .int .i64 x, .int .i64 r]) rfl (by kernel_rfl) (by kernel_rfl) (by kernel_rfl) (fun _ _ _ h => h) (Or.inl ⟨by rfl, fun w hw => by obtain ⟨l0, l1, l2, l3, l4, l5, l6, l7, l8, l9, l10, l11⟩ := hw; first | (go_simp; done) | rfl⟩) hq ?_
      go_simp
      refine wpAnyH_ready (rs := [1]) (by kernel_rfl) (by simp) ?_
      refine AllReadyH.cons rfl (fun K hK => ?_) AllReadyH.nil
      go_simp
      go_wp2_with (go_at_call 130; refine (HB _ _ _ _ _).mono ?_; rintro e Wk1 ⟨rfl, bk1⟩)
      refine hK _ _ (Joined.through bk1 hq rfl (Nat.le_refl _)) (fun hR1 => ?_)
      clear hK K
      go_simp
      refine wpAnyH_ready (rs := [5]) (by kernel_rfl) (by simp) ?_
      refine AllReadyH.cons rfl (fun K hK => ?_) AllReadyH.nil
      go_simp
      go_wp2_with (go_at_call 130; refine (HB _ _ _ _ _).mono ?_; rintro e Wk2 ⟨rfl, bk2⟩)
      refine hK _ _ (Joined.through bk2 hR1 rfl (Nat.le_refl _)) (fun hR2 => ?_)
      clear hK K
      go_simp
      refine wpAnyH_take (i := 6) (v := .bool true) rfl (by kernel_rfl) (by kernel_rfl) (by kernel_rfl) (fun _ _ _ h => h) (Or.inl ⟨by rfl, fun w hw => by go_simp⟩) hR2 ?_
      go_simp
      refine wpAnyH_take (i := 7) (v := .bool true) rfl (by kernel_rfl) (by kernel_rfl) (by kernel_rfl) (fun _ _ _ h => h) (Or.inl ⟨by rfl, fun w hw => by go_simp⟩) hR2 ?_
      go_simp
      refine wpAnyH_take (i := 8) (v := .agg #[.int .i64 U.b, .string U.p, .int .i64 U.x, .int .i64 U.r]) rfl (by kernel_rfl) (by kernel_rfl) (by kernel_rfl) (fun _ _ _ h => h) (Or.inl ⟨by rfl, fun w hw => by obtain ⟨l0, l1, l2, l3, l4, l5, l6, l7, l8, l9, l10, l11⟩ := hw; first | (go_simp; done) | rfl⟩) hR2 ?_
      go_simp
      refine wpAnyH_take (i := 10) (v := .pointer (some ⟨W.heap.size, 0, none⟩)) rfl (by kernel_rfl) (by kernel_rfl) (by kernel_rfl) (fun _ _ _ h => h) (Or.inl ⟨by rfl, fun w hw => by go_simp⟩) hR2 ?_
      go_simp
      refine wpAnyH_take (i := 11) (v := .pointer (some ⟨W.heap.size, 0, none⟩)) rfl (by kernel_rfl) (by kernel_rfl) (by kernel_rfl) (fun _ _ _ h => h) (Or.inl ⟨by rfl, fun w hw => by go_simp⟩) hR2 ?_
      go_simp
      refine wpAnyH_take (i := 12) (v := .agg #[.int .i64 b, .string p, .int .i64 x, .int .i64 r]) rfl (by kernel_rfl) (by kernel_rfl) (by kernel_rfl) (fun _ _ _ h => h) (Or.inl ⟨by rfl, fun w hw => by obtain ⟨l0, l1, l2, l3, l4, l5, l6, l7, l8, l9, l10, l11⟩ := hw; first | (go_simp; done) | rfl⟩) hR2 ?_
      go_simp
      refine wpAnyH_ready (rs := [9]) (by kernel_rfl) (by simp) ?_
      refine AllReadyH.cons rfl (fun K hK => ?_) AllReadyH.nil
      go_simp
      go_wp2_with (go_at_call 130; refine (HB _ _ _ _ _).mono ?_; rintro e Wk3 ⟨rfl, bk3⟩)
      refine hK _ _ (Joined.through bk3 hR2 rfl (Nat.le_refl _)) (fun hR3 => ?_)
      clear hK K
      go_simp
      refine wpAnyH_ready (rs := [13]) (by kernel_rfl) (by simp) ?_
      refine AllReadyH.cons rfl (fun K hK => ?_) AllReadyH.nil
      go_simp
      go_wp2_with (go_at_call 130; refine (HB _ _ _ _ _).mono ?_; rintro e Wk4 ⟨rfl, bk4⟩)
      refine hK _ _ (Joined.through bk4 hR3 rfl (Nat.le_refl _)) (fun hR4 => ?_)
      clear hK K
      go_simp
      refine wpAnyH_take (i := 14) (v := .bool false) rfl (by kernel_rfl) (by kernel_rfl) (by kernel_rfl) (fun _ _ _ h => h) (Or.inl ⟨by rfl, fun w hw => by go_simp⟩) hR4 ?_
      go_simp
      refine wpAnyH_take (i := 15) (v := .bool false) rfl (by kernel_rfl) (by kernel_rfl) (by kernel_rfl) (fun _ _ _ h => h) (Or.inl ⟨by rfl, fun w hw => by go_simp⟩) hR4 ?_
      go_simp
      refine wpAnyH_take (i := 16) (v := .bool false) rfl (by kernel_rfl) (by kernel_rfl) (by kernel_rfl) (fun _ _ _ h => h) (Or.inl ⟨by rfl, fun w hw => by go_simp⟩) hR4 ?_
      go_simp
      refine wpAnyH_take (i := 17) (v := undef) rfl (by kernel_rfl) (by kernel_rfl) (by kernel_rfl) (fun _ _ _ h => h) (Or.inr ⟨by rfl, rfl⟩) hR4 ?_
      go_simp
      refine wpAnyH_take (i := 18) (v := undef) rfl (by kernel_rfl) (by kernel_rfl) (by kernel_rfl) (fun _ _ _ h => h) (Or.inr ⟨by rfl, rfl⟩) hR4 ?_
      go_simp
      refine wpAnyH_take (i := 19) (v := undef) rfl (by kernel_rfl) (by kernel_rfl) (by kernel_rfl) (fun _ _ _ h => h) (Or.inr ⟨by rfl, rfl⟩) hR4 ?_
      go_simp
      refine wpAnyH_take (i := 20) (v := undef) rfl (by kernel_rfl) (by kernel_rfl) (by kernel_rfl) (fun _ _ _ h => h) (Or.inr ⟨by rfl, rfl⟩) hR4 ?_
      go_simp
      refine wpAnyH_take (i := 21) (v := undef) rfl (by kernel_rfl) (by kernel_rfl) (by kernel_rfl) (fun _ _ _ h => h) (Or.inr ⟨by rfl, rfl⟩) hR4 ?_
      go_simp
      refine wpAnyH_take (i := 22) (v := undef) rfl (by kernel_rfl) (by kernel_rfl) (by kernel_rfl) (fun _ _ _ h => h) (Or.inr ⟨by rfl, rfl⟩) hR4 ?_
      go_simp
      refine wpAnyH_take (i := 23) (v := undef) rfl (by kernel_rfl) (by kernel_rfl) (by kernel_rfl) (fun _ _ _ h => h) (Or.inr ⟨by rfl, rfl⟩) hR4 ?_
      go_simp
      refine wpAnyH_take (i := 24) (v := undef) rfl (by kernel_rfl) (by kernel_rfl) (by kernel_rfl) (fun _ _ _ h => h) (Or.inr ⟨by rfl, rfl⟩) hR4 ?_
      go_simp
      refine wpAnyH_take (i := 25) (v := undef) rfl (by kernel_rfl) (by kernel_rfl) (by kernel_rfl) (fun _ _ _ h => h) (Or.inr ⟨by rfl, rfl⟩) hR4 ?_
      go_simp
      refine wpAnyH_take (i := 26) (v := undef) rfl (by kernel_rfl) (by kernel_rfl) (by kernel_rfl) (fun _ _ _ h => h) (Or.inr ⟨by rfl, rfl⟩) hR4 ?_
      go_simp
      refine wpAnyH_take (i := 27) (v := .bool false) rfl (by kernel_rfl) (by kernel_rfl) (by kernel_rfl) (fun _ _ _ h => h) (Or.inl ⟨by rfl, fun w hw => by go_simp⟩) hR4 ?_
      go_simp
      refine wpAnyH_take (i := 28) (v := .bool false) rfl (by kernel_rfl) (by kernel_rfl) (by kernel_rfl) (fun _ _ _ h => h) (Or.inl ⟨by rfl, fun w hw => by go_simp⟩) hR4 ?_
      go_simp
      refine wpAnyH_take (i := 29) (v := undef) rfl (by kernel_rfl) (by kernel_rfl) (by kernel_rfl) (fun _ _ _ h => h) (Or.inr ⟨by rfl, rfl⟩) hR4 ?_
      go_simp
      refine wpAnyH_take (i := 30) (v := undef) rfl (by kernel_rfl) (by kernel_rfl) (by kernel_rfl) (fun _ _ _ h => h) (Or.inr ⟨by rfl, rfl⟩) hR4 ?_
      go_simp
      refine wpAnyH_take (i := 31) (v := undef) rfl (by kernel_rfl) (by kernel_rfl) (by kernel_rfl) (fun _ _ _ h => h) (Or.inr ⟨by rfl, rfl⟩) hR4 ?_
      go_simp
      refine wpAnyH_take (i := 32) (v := undef) rfl (by kernel_rfl) (by kernel_rfl) (by kernel_rfl) (fun _ _ _ h => h) (Or.inr ⟨by rfl, rfl⟩) hR4 ?_
      go_simp
      refine wpAnyH_take (i := 33) (v := undef) rfl (by kernel_rfl) (by kernel_rfl) (by kernel_rfl) (fun _ _ _ h => h) (Or.inr ⟨by rfl, rfl⟩) hR4 ?_
      go_simp
      refine wpAnyH_take (i := 34) (v := undef) rfl (by kernel_rfl) (by kernel_rfl) (by kernel_rfl) (fun _ _ _ h => h) (Or.inr ⟨by rfl, rfl⟩) hR4 ?_
      go_simp
      refine wpAnyH_take (i := 35) (v := undef) rfl (by kernel_rfl) (by kernel_rfl) (by kernel_rfl) (fun _ _ _ h => h) (Or.inr ⟨by rfl, rfl⟩) hR4 ?_
      go_simp
      refine wpAnyH_take (i := 36) (v := undef) rfl (by kernel_rfl) (by kernel_rfl) (by kernel_rfl) (fun _ _ _ h => h) (Or.inr ⟨by rfl, rfl⟩) hR4 ?_
      go_simp
      refine wpAnyH_take (i := 37) (v := undef) rfl (by kernel_rfl) (by kernel_rfl) (by kernel_rfl) (fun _ _ _ h => h) (Or.inr ⟨by rfl, rfl⟩) hR4 ?_
      go_simp
      refine wpAnyH_take (i := 38) (v := undef) rfl (by kernel_rfl) (by kernel_rfl) (by kernel_rfl) (fun _ _ _ h => h) (Or.inr ⟨by rfl, rfl⟩) hR4 ?_
      go_simp
      refine wpAnyH_take (i := 39) (v := .bool false) rfl (by kernel_rfl) (by kernel_rfl) (by kernel_rfl) (fun _ _ _ h => h) (Or.inl ⟨by rfl, fun w hw => by go_simp⟩) hR4 ?_
      go_simp
      refine wpAnyH_take (i := 40) (v := .bool false) rfl (by kernel_rfl) (by kernel_rfl) (by kernel_rfl) (fun _ _ _ h => h) (Or.inl ⟨by rfl, fun w hw => by go_simp⟩) hR4 ?_
      go_simp
      refine wpAnyH_done (by kernel_rfl) ?_ _
      go_wp2_with fail
      go_ret
      exact ⟨rfl, ((((hcur.drew.drew).trans (bk1.mono (hcur.drew.drew).size)).trans (bk2.mono ((hcur.drew.drew).trans (bk1.mono (hcur.drew.drew).size)).size)).trans (bk3.mono (((hcur.drew.drew).trans (bk1.mono (hcur.drew.drew).size)).trans (bk2.mono ((hcur.drew.drew).trans (bk1.mono (hcur.drew.drew).size)).size)).size)).trans (bk4.mono ((((hcur.drew.drew).trans (bk1.mono (hcur.drew.drew).size)).trans (bk2.mono ((hcur.drew.drew).trans (bk1.mono (hcur.drew.drew).size)).size)).trans (bk3.mono (((hcur.drew.drew).trans (bk1.mono (hcur.drew.drew).size)).trans (bk2.mono ((hcur.drew.drew).trans (bk1.mono (hcur.drew.drew).size)).size)).size)).size)⟩
     | true =>
      cases e3 with
      | false =>
        refine wp_region_held (S := fun w' => Joined w' W.heap.size (W.heap.size + 1 + 1) (W.heap.size + 1) b p x r T U) (by kernel_rfl) ?_
        refine wpAnyH_take (i := 0) (v := .agg #[.int .i64 T.b, .string T.p, .int .i64 T.x, .int .i64 T.r]) rfl (by kernel_rfl) (by kernel_rfl) (by kernel_rfl) (fun _ _ _ h => h) (Or.inl ⟨by rfl, fun w hw => by obtain ⟨l0, l1, l2, l3, l4, l5, l6, l7, l8, l9, l10, l11⟩ := hw; first | (go_simp; done) | rfl⟩) hq ?_
        go_simp
        refine wpAnyH_take (i := 2) (v := .pointer (some ⟨W.heap.size, 0, none⟩)) rfl (by kernel_rfl) (by kernel_rfl) (by kernel_rfl) (fun _ _ _ h => h) (Or.inl ⟨by rfl, fun w hw => by go_simp⟩) hq ?_
        go_simp
        refine wpAnyH_take (i := 3) (v := .pointer (some ⟨W.heap.size, 0, none⟩)) rfl (by kernel_rfl) (by kernel_rfl) (by kernel_rfl) (fun _ _ _ h => h) (Or.inl ⟨by rfl, fun w hw => by go_simp⟩) hq ?_
        go_simp
        refine wpAnyH_take (i := 4) (v := .agg #[.int .i64 b, .string p, .int .i64 x, .int .i64 r]) rfl (by kernel_rfl) (by kernel_rfl) (by kernel_rfl) (fun _ _ _ h => h) (Or.inl ⟨by rfl, fun w hw => by obtain ⟨l0, l1, l2, l3, l4, l5, l6, l7, l8, l9, l10, l11⟩ := hw; first | (go_simp; done) | rfl⟩) hq ?_
        go_simp
        refine wpAnyH_ready (rs := [1]) (by kernel_rfl) (by simp) ?_
        refine AllReadyH.cons rfl (fun K hK => ?_) AllReadyH.nil
        go_simp
        go_wp2_with (go_at_call 130; refine (HB _ _ _ _ _).mono ?_; rintro e Wk1 ⟨rfl, bk1⟩)
        refine hK _ _ (Joined.through bk1 hq rfl (Nat.le_refl _)) (fun hR1 => ?_)
        clear hK K
        go_simp
        refine wpAnyH_ready (rs := [5]) (by kernel_rfl) (by simp) ?_
        refine AllReadyH.cons rfl (fun K hK => ?_) AllReadyH.nil
        go_simp
        go_wp2_with (go_at_call 130; refine (HB _ _ _ _ _).mono ?_; rintro e Wk2 ⟨rfl, bk2⟩)
        refine hK _ _ (Joined.through bk2 hR1 rfl (Nat.le_refl _)) (fun hR2 => ?_)
        clear hK K
        go_simp
        refine wpAnyH_take (i := 6) (v := .bool true) rfl (by kernel_rfl) (by kernel_rfl) (by kernel_rfl) (fun _ _ _ h => h) (Or.inl ⟨by rfl, fun w hw => by go_simp⟩) hR2 ?_
        go_simp
        refine wpAnyH_take (i := 7) (v := .bool true) rfl (by kernel_rfl) (by kernel_rfl) (by kernel_rfl) (fun _ _ _ h => h) (Or.inl ⟨by rfl, fun w hw => by go_simp⟩) hR2 ?_
        go_simp
        refine wpAnyH_take (i := 8) (v := .agg #[.int .i64 U.b, .string U.p, .int .i64 U.x, .int .i64 U.r]) rfl (by kernel_rfl) (by kernel_rfl) (by kernel_rfl) (fun _ _ _ h => h) (Or.inl ⟨by rfl, fun w hw => by obtain ⟨l0, l1, l2, l3, l4, l5, l6, l7, l8, l9, l10, l11⟩ := hw; first | (go_simp; done) | rfl⟩) hR2 ?_
        go_simp
        refine wpAnyH_take (i := 10) (v := .pointer (some ⟨W.heap.size, 0, none⟩)) rfl (by kernel_rfl) (by kernel_rfl) (by kernel_rfl) (fun _ _ _ h => h) (Or.inl ⟨by rfl, fun w hw => by go_simp⟩) hR2 ?_
        go_simp
        refine wpAnyH_take (i := 11) (v := .pointer (some ⟨W.heap.size, 0, none⟩)) rfl (by kernel_rfl) (by kernel_rfl) (by kernel_rfl) (fun _ _ _ h => h) (Or.inl ⟨by rfl, fun w hw => by go_simp⟩) hR2 ?_
        go_simp
        refine wpAnyH_take (i := 12) (v := .agg #[.int .i64 b, .string p, .int .i64 x, .int .i64 r]) rfl (by kernel_rfl) (by kernel_rfl) (by kernel_rfl) (fun _ _ _ h => h) (Or.inl ⟨by rfl, fun w hw => by obtain ⟨l0, l1, l2, l3, l4, l5, l6, l7, l8, l9, l10, l11⟩ := hw; first | (go_simp; done) | rfl⟩) hR2 ?_
        go_simp
        refine wpAnyH_ready (rs := [9]) (by kernel_rfl) (by simp) ?_
        refine AllReadyH.cons rfl (fun K hK => ?_) AllReadyH.nil
        go_simp
        go_wp2_with (go_at_call 130; refine (HB _ _ _ _ _).mono ?_; rintro e Wk3 ⟨rfl, bk3⟩)
        refine hK _ _ (Joined.through bk3 hR2 rfl (Nat.le_refl _)) (fun hR3 => ?_)
        clear hK K
        go_simp
        refine wpAnyH_ready (rs := [13]) (by kernel_rfl) (by simp) ?_
        refine AllReadyH.cons rfl (fun K hK => ?_) AllReadyH.nil
        go_simp
        go_wp2_with (go_at_call 130; refine (HB _ _ _ _ _).mono ?_; rintro e Wk4 ⟨rfl, bk4⟩)
        refine hK _ _ (Joined.through bk4 hR3 rfl (Nat.le_refl _)) (fun hR4 => ?_)
        clear hK K
        go_simp
        refine wpAnyH_take (i := 14) (v := .bool true) rfl (by kernel_rfl) (by kernel_rfl) (by kernel_rfl) (fun _ _ _ h => h) (Or.inl ⟨by rfl, fun w hw => by go_simp⟩) hR4 ?_
        go_simp
        refine wpAnyH_take (i := 15) (v := .bool true) rfl (by kernel_rfl) (by kernel_rfl) (by kernel_rfl) (fun _ _ _ h => h) (Or.inl ⟨by rfl, fun w hw => by go_simp⟩) hR4 ?_
        go_simp
        refine wpAnyH_take (i := 16) (v := .bool true) rfl (by kernel_rfl) (by kernel_rfl) (by kernel_rfl) (fun _ _ _ h => h) (Or.inl ⟨by rfl, fun w hw => by go_simp⟩) hR4 ?_
        go_simp
        refine wpAnyH_take (i := 17) (v := .pointer (some ⟨W.heap.size + 1 + 1, 0, none⟩)) rfl (by kernel_rfl) (by kernel_rfl) (by kernel_rfl) (fun _ _ _ h => h) (Or.inl ⟨by rfl, fun w hw => by go_simp⟩) hR4 ?_
        go_simp
        refine wpAnyH_take (i := 18) (v := .int .i64 T.b) rfl (by kernel_rfl) (by kernel_rfl) (by kernel_rfl) (fun _ _ _ h => h) (Or.inl ⟨by rfl, fun w hw => by obtain ⟨l0, l1, l2, l3, l4, l5, l6, l7, l8, l9, l10, l11⟩ := hw; first | (go_simp; done) | rfl⟩) hR4 ?_
        go_simp
        refine wpAnyH_take (i := 19) (v := .pointer (some ⟨W.heap.size + 1, 0, none⟩)) rfl (by kernel_rfl) (by kernel_rfl) (by kernel_rfl) (fun _ _ _ h => h) (Or.inl ⟨by rfl, fun w hw => by go_simp⟩) hR4 ?_
        go_simp
        refine wpAnyH_take (i := 20) (v := .int .i64 U.b) rfl (by kernel_rfl) (by kernel_rfl) (by kernel_rfl) (fun _ _ _ h => h) (Or.inl ⟨by rfl, fun w hw => by obtain ⟨l0, l1, l2, l3, l4, l5, l6, l7, l8, l9, l10, l11⟩ := hw; first | (go_simp; done) | rfl⟩) hR4 ?_
        go_simp
        refine wpAnyH_take (i := 21) (v := .int .i64 (bits .or .i64 T.b U.b)) rfl (by kernel_rfl) (by kernel_rfl) (by kernel_rfl) (fun _ _ _ h => h) (Or.inl ⟨by rfl, fun w hw => by go_simp⟩) hR4 ?_
        go_simp
        refine wpAnyH_take (i := 22) (v := .pointer (some ⟨W.heap.size, 0, none⟩)) rfl (by kernel_rfl) (by kernel_rfl) (by kernel_rfl) (fun _ _ _ h => h) (Or.inl ⟨by rfl, fun w hw => by go_simp⟩) hR4 ?_
        go_simp
        refine wpAnyH_take (i := 23) (v := .pointer (some ⟨W.heap.size, 0, none⟩)) rfl (by kernel_rfl) (by kernel_rfl) (by kernel_rfl) (fun _ _ _ h => h) (Or.inl ⟨by rfl, fun w hw => by go_simp⟩) hR4 ?_
        go_simp
        refine wpAnyH_take (i := 24) (v := .pointer (some ⟨W.heap.size, 0, none⟩)) rfl (by kernel_rfl) (by kernel_rfl) (by kernel_rfl) (fun _ _ _ h => h) (Or.inl ⟨by rfl, fun w hw => by go_simp⟩) hR4 ?_
        go_simp
        refine wpAnyH_take (i := 25) (v := .int .i64 b) rfl (by kernel_rfl) (by kernel_rfl) (by kernel_rfl) (fun _ _ _ h => h) (Or.inl ⟨by rfl, fun w hw => by obtain ⟨l0, l1, l2, l3, l4, l5, l6, l7, l8, l9, l10, l11⟩ := hw; first | (go_simp; done) | rfl⟩) hR4 ?_
        go_simp
        refine wpAnyH_take (i := 26) (v := .bool false) rfl (by kernel_rfl) (by kernel_rfl) (by kernel_rfl) (fun _ _ _ h => h) (Or.inl ⟨by rfl, fun w hw => by go_simp⟩) hR4 ?_
        go_simp
        refine wpAnyH_take (i := 27) (v := .bool false) rfl (by kernel_rfl) (by kernel_rfl) (by kernel_rfl) (fun _ _ _ h => h) (Or.inl ⟨by rfl, fun w hw => by go_simp⟩) hR4 ?_
        go_simp
        refine wpAnyH_take (i := 28) (v := .bool false) rfl (by kernel_rfl) (by kernel_rfl) (by kernel_rfl) (fun _ _ _ h => h) (Or.inl ⟨by rfl, fun w hw => by go_simp⟩) hR4 ?_
        go_simp
        refine wpAnyH_take (i := 29) (v := undef) rfl (by kernel_rfl) (by kernel_rfl) (by kernel_rfl) (fun _ _ _ h => h) (Or.inr ⟨by rfl, rfl⟩) hR4 ?_
        go_simp
        refine wpAnyH_take (i := 30) (v := undef) rfl (by kernel_rfl) (by kernel_rfl) (by kernel_rfl) (fun _ _ _ h => h) (Or.inr ⟨by rfl, rfl⟩) hR4 ?_
        go_simp
        refine wpAnyH_take (i := 31) (v := undef) rfl (by kernel_rfl) (by kernel_rfl) (by kernel_rfl) (fun _ _ _ h => h) (Or.inr ⟨by rfl, rfl⟩) hR4 ?_
        go_simp
        refine wpAnyH_take (i := 32) (v := undef) rfl (by kernel_rfl) (by kernel_rfl) (by kernel_rfl) (fun _ _ _ h => h) (Or.inr ⟨by rfl, rfl⟩) hR4 ?_
        go_simp
        refine wpAnyH_take (i := 33) (v := undef) rfl (by kernel_rfl) (by kernel_rfl) (by kernel_rfl) (fun _ _ _ h => h) (Or.inr ⟨by rfl, rfl⟩) hR4 ?_
        go_simp
        refine wpAnyH_take (i := 34) (v := undef) rfl (by kernel_rfl) (by kernel_rfl) (by kernel_rfl) (fun _ _ _ h => h) (Or.inr ⟨by rfl, rfl⟩) hR4 ?_
        go_simp
        refine wpAnyH_take (i := 35) (v := undef) rfl (by kernel_rfl) (by kernel_rfl) (by kernel_rfl) (fun _ _ _ h => h) (Or.inr ⟨by rfl, rfl⟩) hR4 ?_
        go_simp
        refine wpAnyH_take (i := 36) (v := undef) rfl (by kernel_rfl) (by kernel_rfl) (by kernel_rfl) (fun _ _ _ h => h) (Or.inr ⟨by rfl, rfl⟩) hR4 ?_
        go_simp
        refine wpAnyH_take (i := 37) (v := undef) rfl (by kernel_rfl) (by kernel_rfl) (by kernel_rfl) (fun _ _ _ h => h) (Or.inr ⟨by rfl, rfl⟩) hR4 ?_
        go_simp
        refine wpAnyH_take (i := 38) (v := undef) rfl (by kernel_rfl) (by kernel_rfl) (by kernel_rfl) (fun _ _ _ h => h) (Or.inr ⟨by rfl, rfl⟩) hR4 ?_
        go_simp
        refine wpAnyH_take (i := 39) (v := .bool false) rfl (by kernel_rfl) (by kernel_rfl) (by kernel_rfl) (fun _ _ _ h => h) (Or.inl ⟨by rfl, fun w hw => by go_simp⟩) hR4 ?_
        go_simp
        refine wpAnyH_take (i := 40) (v := .bool false) rfl (by kernel_rfl) (by kernel_rfl) (by kernel_rfl) (fun _ _ _ h => h) (Or.inl ⟨by rfl, fun w hw => by go_simp⟩) hR4 ?_
        go_simp
        refine wpAnyH_done (by kernel_rfl) ?_ _
        go_wp2_with fail
        go_ret
        exact ⟨rfl, ((((hcur.drew.drew).trans (bk1.mono (hcur.drew.drew).size)).trans (bk2.mono ((hcur.drew.drew).trans (bk1.mono (hcur.drew.drew).size)).size)).trans (bk3.mono (((hcur.drew.drew).trans (bk1.mono (hcur.drew.drew).size)).trans (bk2.mono ((hcur.drew.drew).trans (bk1.mono (hcur.drew.drew).size)).size)).size)).trans (bk4.mono ((((hcur.drew.drew).trans (bk1.mono (hcur.drew.drew).size)).trans (bk2.mono ((hcur.drew.drew).trans (bk1.mono (hcur.drew.drew).size)).size)).trans (bk3.mono (((hcur.drew.drew).trans (bk1.mono (hcur.drew.drew).size)).trans (bk2.mono ((hcur.drew.drew).trans (bk1.mono (hcur.drew.drew).size)).size)).size)).size)⟩
      | true =>
        refine wp_region_held (S := fun w' => Joined w' W.heap.size (W.heap.size + 1 + 1) (W.heap.size + 1) b p x r T U) (by kernel_rfl) ?_
        refine wpAnyH_take (i := 0) (v := .agg #[.int .i64 T.b, .string T.p, .int .i64 T.x, .int .i64 T.r]) rfl (by kernel_rfl) (by kernel_rfl) (by kernel_rfl) (fun _ _ _ h => h) (Or.inl ⟨by rfl, fun w hw => by obtain ⟨l0, l1, l2, l3, l4, l5, l6, l7, l8, l9, l10, l11⟩ := hw; first | (go_simp; done) | rfl⟩) hq ?_
        go_simp
        refine wpAnyH_take (i := 2) (v := .pointer (some ⟨W.heap.size, 0, none⟩)) rfl (by kernel_rfl) (by kernel_rfl) (by kernel_rfl) (fun _ _ _ h => h) (Or.inl ⟨by rfl, fun w hw => by go_simp⟩) hq ?_
        go_simp
        refine wpAnyH_take (i := 3) (v := .pointer (some ⟨W.heap.size, 0, none⟩)) rfl (by kernel_rfl) (by kernel_rfl) (by kernel_rfl) (fun _ _ _ h => h) (Or.inl ⟨by rfl, fun w hw => by go_simp⟩) hq ?_
        go_simp
        refine wpAnyH_take (i := 4) (v := .agg #[.int .i64 b, .string p, .int .i64 x, .int .i64 r]) rfl (by kernel_rfl) (by kernel_rfl) (by kernel_rfl) (fun _ _ _ h => h) (Or.inl ⟨by rfl, fun w hw => by obtain ⟨l0, l1, l2, l3, l4, l5, l6, l7, l8, l9, l10, l11⟩ := hw; first | (go_simp; done) | rfl⟩) hq ?_
        go_simp
        refine wpAnyH_ready (rs := [1]) (by kernel_rfl) (by simp) ?_
        refine AllReadyH.cons rfl (fun K hK => ?_) AllReadyH.nil
        go_simp
        go_wp2_with (go_at_call 130; refine (HB _ _ _ _ _).mono ?_; rintro e Wk1 ⟨rfl, bk1⟩)
        refine hK _ _ (Joined.through bk1 hq rfl (Nat.le_refl _)) (fun hR1 => ?_)
        clear hK K
        go_simp
        refine wpAnyH_ready (rs := [5]) (by kernel_rfl) (by simp) ?_
        refine AllReadyH.cons rfl (fun K hK => ?_) AllReadyH.nil
        go_simp
        go_wp2_with (go_at_call 130; refine (HB _ _ _ _ _).mono ?_; rintro e Wk2 ⟨rfl, bk2⟩)
        refine hK _ _ (Joined.through bk2 hR1 rfl (Nat.le_refl _)) (fun hR2 => ?_)
        clear hK K
        go_simp
        refine wpAnyH_take (i := 6) (v := .bool true) rfl (by kernel_rfl) (by kernel_rfl) (by kernel_rfl) (fun _ _ _ h => h) (Or.inl ⟨by rfl, fun w hw => by go_simp⟩) hR2 ?_
        go_simp
        refine wpAnyH_take (i := 7) (v := .bool true) rfl (by kernel_rfl) (by kernel_rfl) (by kernel_rfl) (fun _ _ _ h => h) (Or.inl ⟨by rfl, fun w hw => by go_simp⟩) hR2 ?_
        go_simp
        refine wpAnyH_take (i := 8) (v := .agg #[.int .i64 U.b, .string U.p, .int .i64 U.x, .int .i64 U.r]) rfl (by kernel_rfl) (by kernel_rfl) (by kernel_rfl) (fun _ _ _ h => h) (Or.inl ⟨by rfl, fun w hw => by obtain ⟨l0, l1, l2, l3, l4, l5, l6, l7, l8, l9, l10, l11⟩ := hw; first | (go_simp; done) | rfl⟩) hR2 ?_
        go_simp
        refine wpAnyH_take (i := 10) (v := .pointer (some ⟨W.heap.size, 0, none⟩)) rfl (by kernel_rfl) (by kernel_rfl) (by kernel_rfl) (fun _ _ _ h => h) (Or.inl ⟨by rfl, fun w hw => by go_simp⟩) hR2 ?_
        go_simp
        refine wpAnyH_take (i := 11) (v := .pointer (some ⟨W.heap.size, 0, none⟩)) rfl (by kernel_rfl) (by kernel_rfl) (by kernel_rfl) (fun _ _ _ h => h) (Or.inl ⟨by rfl, fun w hw => by go_simp⟩) hR2 ?_
        go_simp
        refine wpAnyH_take (i := 12) (v := .agg #[.int .i64 b, .string p, .int .i64 x, .int .i64 r]) rfl (by kernel_rfl) (by kernel_rfl) (by kernel_rfl) (fun _ _ _ h => h) (Or.inl ⟨by rfl, fun w hw => by obtain ⟨l0, l1, l2, l3, l4, l5, l6, l7, l8, l9, l10, l11⟩ := hw; first | (go_simp; done) | rfl⟩) hR2 ?_
        go_simp
        refine wpAnyH_ready (rs := [9]) (by kernel_rfl) (by simp) ?_
        refine AllReadyH.cons rfl (fun K hK => ?_) AllReadyH.nil
        go_simp
        go_wp2_with (go_at_call 130; refine (HB _ _ _ _ _).mono ?_; rintro e Wk3 ⟨rfl, bk3⟩)
        refine hK _ _ (Joined.through bk3 hR2 rfl (Nat.le_refl _)) (fun hR3 => ?_)
        clear hK K
        go_simp
        refine wpAnyH_ready (rs := [13]) (by kernel_rfl) (by simp) ?_
        refine AllReadyH.cons rfl (fun K hK => ?_) AllReadyH.nil
        go_simp
        go_wp2_with (go_at_call 130; refine (HB _ _ _ _ _).mono ?_; rintro e Wk4 ⟨rfl, bk4⟩)
        refine hK _ _ (Joined.through bk4 hR3 rfl (Nat.le_refl _)) (fun hR4 => ?_)
        clear hK K
        go_simp
        refine wpAnyH_take (i := 14) (v := .bool true) rfl (by kernel_rfl) (by kernel_rfl) (by kernel_rfl) (fun _ _ _ h => h) (Or.inl ⟨by rfl, fun w hw => by go_simp⟩) hR4 ?_
        go_simp
        refine wpAnyH_take (i := 15) (v := .bool true) rfl (by kernel_rfl) (by kernel_rfl) (by kernel_rfl) (fun _ _ _ h => h) (Or.inl ⟨by rfl, fun w hw => by go_simp⟩) hR4 ?_
        go_simp
        refine wpAnyH_take (i := 16) (v := .bool true) rfl (by kernel_rfl) (by kernel_rfl) (by kernel_rfl) (fun _ _ _ h => h) (Or.inl ⟨by rfl, fun w hw => by go_simp⟩) hR4 ?_
        go_simp
        refine wpAnyH_take (i := 17) (v := .pointer (some ⟨W.heap.size + 1 + 1, 0, none⟩)) rfl (by kernel_rfl) (by kernel_rfl) (by kernel_rfl) (fun _ _ _ h => h) (Or.inl ⟨by rfl, fun w hw => by go_simp⟩) hR4 ?_
        go_simp
        refine wpAnyH_take (i := 18) (v := .int .i64 T.b) rfl (by kernel_rfl) (by kernel_rfl) (by kernel_rfl) (fun _ _ _ h => h) (Or.inl ⟨by rfl, fun w hw => by obtain ⟨l0, l1, l2, l3, l4, l5, l6, l7, l8, l9, l10, l11⟩ := hw; first | (go_simp; done) | rfl⟩) hR4 ?_
        go_simp
        refine wpAnyH_take (i := 19) (v := .pointer (some ⟨W.heap.size + 1, 0, none⟩)) rfl (by kernel_rfl) (by kernel_rfl) (by kernel_rfl) (fun _ _ _ h => h) (Or.inl ⟨by rfl, fun w hw => by go_simp⟩) hR4 ?_
        go_simp
        refine wpAnyH_take (i := 20) (v := .int .i64 U.b) rfl (by kernel_rfl) (by kernel_rfl) (by kernel_rfl) (fun _ _ _ h => h) (Or.inl ⟨by rfl, fun w hw => by obtain ⟨l0, l1, l2, l3, l4, l5, l6, l7, l8, l9, l10, l11⟩ := hw; first | (go_simp; done) | rfl⟩) hR4 ?_
        go_simp
        refine wpAnyH_take (i := 21) (v := .int .i64 (bits .or .i64 T.b U.b)) rfl (by kernel_rfl) (by kernel_rfl) (by kernel_rfl) (fun _ _ _ h => h) (Or.inl ⟨by rfl, fun w hw => by go_simp⟩) hR4 ?_
        go_simp
        refine wpAnyH_take (i := 22) (v := .pointer (some ⟨W.heap.size, 0, none⟩)) rfl (by kernel_rfl) (by kernel_rfl) (by kernel_rfl) (fun _ _ _ h => h) (Or.inl ⟨by rfl, fun w hw => by go_simp⟩) hR4 ?_
        go_simp
        refine wpAnyH_take (i := 23) (v := .pointer (some ⟨W.heap.size, 0, none⟩)) rfl (by kernel_rfl) (by kernel_rfl) (by kernel_rfl) (fun _ _ _ h => h) (Or.inl ⟨by rfl, fun w hw => by go_simp⟩) hR4 ?_
        go_simp
        refine wpAnyH_take (i := 24) (v := .pointer (some ⟨W.heap.size, 0, none⟩)) rfl (by kernel_rfl) (by kernel_rfl) (by kernel_rfl) (fun _ _ _ h => h) (Or.inl ⟨by rfl, fun w hw => by go_simp⟩) hR4 ?_
        go_simp
        refine wpAnyH_take (i := 25) (v := .int .i64 b) rfl (by kernel_rfl) (by kernel_rfl) (by kernel_rfl) (fun _ _ _ h => h) (Or.inl ⟨by rfl, fun w hw => by obtain ⟨l0, l1, l2, l3, l4, l5, l6, l7, l8, l9, l10, l11⟩ := hw; first | (go_simp; done) | rfl⟩) hR4 ?_
        go_simp
        refine wpAnyH_take (i := 26) (v := .bool true) rfl (by kernel_rfl) (by kernel_rfl) (by kernel_rfl) (fun _ _ _ h => h) (Or.inl ⟨by rfl, fun w hw => by go_simp⟩) hR4 ?_
        go_simp
        refine wpAnyH_take (i := 27) (v := .bool true) rfl (by kernel_rfl) (by kernel_rfl) (by kernel_rfl) (fun _ _ _ h => h) (Or.inl ⟨by rfl, fun w hw => by go_simp⟩) hR4 ?_
        go_simp
        refine wpAnyH_take (i := 28) (v := .bool true) rfl (by kernel_rfl) (by kernel_rfl) (by kernel_rfl) (fun _ _ _ h => h) (Or.inl ⟨by rfl, fun w hw => by go_simp⟩) hR4 ?_
        go_simp
        refine wpAnyH_take (i := 29) (v := .pointer (some ⟨W.heap.size + 1 + 1, 3, none⟩)) rfl (by kernel_rfl) (by kernel_rfl) (by kernel_rfl) (fun _ _ _ h => h) (Or.inl ⟨by rfl, fun w hw => by go_simp⟩) hR4 ?_
        go_simp
        refine wpAnyH_take (i := 30) (v := .int .i64 T.r) rfl (by kernel_rfl) (by kernel_rfl) (by kernel_rfl) (fun _ _ _ h => h) (Or.inl ⟨by rfl, fun w hw => by obtain ⟨l0, l1, l2, l3, l4, l5, l6, l7, l8, l9, l10, l11⟩ := hw; first | (go_simp; done) | rfl⟩) hR4 ?_
        go_simp
        refine wpAnyH_take (i := 31) (v := .pointer (some ⟨W.heap.size + 1, 3, none⟩)) rfl (by kernel_rfl) (by kernel_rfl) (by kernel_rfl) (fun _ _ _ h => h) (Or.inl ⟨by rfl, fun w hw => by go_simp⟩) hR4 ?_
        go_simp
        refine wpAnyH_take (i := 32) (v := .int .i64 U.r) rfl (by kernel_rfl) (by kernel_rfl) (by kernel_rfl) (fun _ _ _ h => h) (Or.inl ⟨by rfl, fun w hw => by obtain ⟨l0, l1, l2, l3, l4, l5, l6, l7, l8, l9, l10, l11⟩ := hw; first | (go_simp; done) | rfl⟩) hR4 ?_
        go_simp
        refine wpAnyH_take (i := 33) (v := .int .i64 (bits .or .i64 T.r U.r)) rfl (by kernel_rfl) (by kernel_rfl) (by kernel_rfl) (fun _ _ _ h => h) (Or.inl ⟨by rfl, fun w hw => by go_simp⟩) hR4 ?_
        go_simp
        refine wpAnyH_take (i := 34) (v := .pointer (some ⟨W.heap.size, 0, none⟩)) rfl (by kernel_rfl) (by kernel_rfl) (by kernel_rfl) (fun _ _ _ h => h) (Or.inl ⟨by rfl, fun w hw => by go_simp⟩) hR4 ?_
        go_simp
        refine wpAnyH_take (i := 35) (v := .pointer (some ⟨W.heap.size, 0, none⟩)) rfl (by kernel_rfl) (by kernel_rfl) (by kernel_rfl) (fun _ _ _ h => h) (Or.inl ⟨by rfl, fun w hw => by go_simp⟩) hR4 ?_
        go_simp
        refine wpAnyH_take (i := 36) (v := .pointer (some ⟨W.heap.size, 3, none⟩)) rfl (by kernel_rfl) (by kernel_rfl) (by kernel_rfl) (fun _ _ _ h => h) (Or.inl ⟨by rfl, fun w hw => by go_simp⟩) hR4 ?_
        go_simp
        refine wpAnyH_take (i := 37) (v := .int .i64 r) rfl (by kernel_rfl) (by kernel_rfl) (by kernel_rfl) (fun _ _ _ h => h) (Or.inl ⟨by rfl, fun w hw => by obtain ⟨l0, l1, l2, l3, l4, l5, l6, l7, l8, l9, l10, l11⟩ := hw; first | (go_simp; done) | rfl⟩) hR4 ?_
        go_simp
        refine wpAnyH_take (i := 38) (v := .bool e4) rfl (by kernel_rfl) (by kernel_rfl) (by kernel_rfl) (fun _ _ _ h => h) (Or.inl ⟨by rfl, fun w hw => by go_simp⟩) hR4 ?_
        go_simp
        refine wpAnyH_take (i := 39) (v := .bool e4) rfl (by kernel_rfl) (by kernel_rfl) (by kernel_rfl) (fun _ _ _ h => h) (Or.inl ⟨by rfl, fun w hw => by go_simp⟩) hR4 ?_
        go_simp
        refine wpAnyH_take (i := 40) (v := .bool e4) rfl (by kernel_rfl) (by kernel_rfl) (by kernel_rfl) (fun _ _ _ h => h) (Or.inl ⟨by rfl, fun w hw => by go_simp⟩) hR4 ?_
        go_simp
        refine wpAnyH_done (by kernel_rfl) ?_ _
        go_wp2_with fail
        go_ret
        exact ⟨rfl, ((((hcur.drew.drew).trans (bk1.mono (hcur.drew.drew).size)).trans (bk2.mono ((hcur.drew.drew).trans (bk1.mono (hcur.drew.drew).size)).size)).trans (bk3.mono (((hcur.drew.drew).trans (bk1.mono (hcur.drew.drew).size)).trans (bk2.mono ((hcur.drew.drew).trans (bk1.mono (hcur.drew.drew).size)).size)).size)).trans (bk4.mono ((((hcur.drew.drew).trans (bk1.mono (hcur.drew.drew).size)).trans (bk2.mono ((hcur.drew.drew).trans (bk1.mono (hcur.drew.drew).size)).size)).trans (bk3.mono (((hcur.drew.drew).trans (bk1.mono (hcur.drew.drew).size)).trans (bk2.mono ((hcur.drew.drew).trans (bk1.mono (hcur.drew.drew).size)).size)).size)).size)⟩
/-- The cells of a step's triple and of one triple more. -/
def Weaker (X : World) (gs gt : Nat) (b : Int) (p : ByteArray) (x r : Int) (T : Trip) : Prop := X.cell? ⟨gs, 0, none⟩ = some (.int .i64 b) ∧ X.cell? ⟨gs, 1, none⟩ = some (.string p) ∧ X.cell? ⟨gs, 2, none⟩ = some (.int .i64 x) ∧ X.cell? ⟨gs, 3, none⟩ = some (.int .i64 r) ∧ X.cell? ⟨gt, 0, none⟩ = some (.int .i64 T.b) ∧ X.cell? ⟨gt, 1, none⟩ = some (.string T.p) ∧ X.cell? ⟨gt, 2, none⟩ = some (.int .i64 T.x) ∧ X.cell? ⟨gt, 3, none⟩ = some (.int .i64 T.r)
theorem Weaker.below {X Y : World} {gs gt : Nat} {b : Int} {p : ByteArray} {x r : Int} {T : Trip} (bk : Below X.heap.size X Y) (h : Weaker X gs gt b p x r T) : Weaker Y gs gt b p x r T := by
  obtain ⟨h0, h1, h2, h3, h4, h5, h6, h7⟩ := h
  exact ⟨cell_below bk h0, cell_below bk h1, cell_below bk h2, cell_below bk h3, cell_below bk h4, cell_below bk h5, cell_below bk h6, cell_below bk h7⟩
theorem Weaker.through {A X Y : World} {gs gt : Nat} {b : Int} {p : ByteArray} {x r : Int} {T : Trip} {n : Nat} (bk : Below n X Y) (h : Weaker A gs gt b p x r T) (e : A.heap = X.heap) (hn : X.heap.size ≤ n) : Weaker Y gs gt b p x r T := by
  have hX : Weaker X gs gt b p x r T := by unfold Weaker World.cell? at *; rw [← e]; exact h
  exact hX.below (bk.mono hn)
theorem Weaker.of {X : World} {gs gt : Nat} {s : StepD} {T : Trip} (h : StepAt X gs s) (h1 : TripAt X gt T.b T.p T.x T.r) : Weaker X gs gt s.b s.p s.x s.r T := by
  obtain ⟨c0, c1, c2, c3, _, _⟩ := h.cells
  obtain ⟨t0, t1, t2, t3⟩ := h1.cells
  exact ⟨c0, c1, c2, c3, t0, t1, t2, t3⟩
set_option maxHeartbeats 4000000 in
theorem weakens143 (s : StepD) (T : Trip) (W : World) (hF : FirstAt W s T) :
    Calls Tryz.prog 106 #[s.val] W fun e W' => e = .returned (.bool (sameT 0 T.p T.x 0 0 s.p s.x 0 && (within T.b s.b && within s.r T.r))) ∧ Below W.heap.size W W' := by
  have hA : Below W.heap.size W (W.alloc (.cells s.row 77)) := (Below.refl _ W).alloc (Nat.le_refl _) _
  have hS := StepAt.new W s
  obtain ⟨g, o, f1, f2, f3⟩ := hF
  have t4 := f3.below hA
  obtain ⟨b, p, x, r, rl, ra, rn, rc, pa, pn, pc, fa, fn, fc⟩ := s
  dsimp only at *
  subst f1
  obtain ⟨c0, c1, c2, c3, c6, c7⟩ := hS.cells
  dsimp only at c0 c1 c2 c3 c6 c7
  unfold StepD.val StepD.row at *
  obtain ⟨t0, t1, t2, t3⟩ := id t4
  have n3 : (0 : Int) < (fn : Int) := by omega
  have hcur : Below W.heap.size W ((W.alloc (.cells #[.int .i64 b, .string p, .int .i64 x, .int .i64 r, .string rl, .slice ra rn rc, .slice pa pn pc, .slice (some ⟨g, o, none⟩) fn fc] 77)).alloc (.cells #[.int .i64 T.b, .string T.p, .int .i64 T.x, .int .i64 T.r] 31)) := hA.alloc hA.size _
  have hq : Weaker ((W.alloc (.cells #[.int .i64 b, .string p, .int .i64 x, .int .i64 r, .string rl, .slice ra rn rc, .slice pa pn pc, .slice (some ⟨g, o, none⟩) fn fc] 77)).alloc (.cells #[.int .i64 T.b, .string T.p, .int .i64 T.x, .int .i64 T.r] 31)) W.heap.size (W.heap.size + 1) b p x r T := by
    have h1 := TripAt.new (W.alloc (.cells #[.int .i64 b, .string p, .int .i64 x, .int .i64 r, .string rl, .slice ra rn rc, .slice pa pn pc, .slice (some ⟨g, o, none⟩) fn fc] 77)) T.b T.p T.x T.r
    have h4 := hS.below ((Below.refl _ (W.alloc (.cells #[.int .i64 b, .string p, .int .i64 x, .int .i64 r, .string rl, .slice ra rn rc, .slice pa pn pc, .slice (some ⟨g, o, none⟩) fn fc] 77))).alloc (Nat.le_refl _) (.cells #[.int .i64 T.b, .string T.p, .int .i64 T.x, .int .i64 T.r] 31)) hS.lt
    simp only [World.size_alloc] at h1
    exact Weaker.of h4 h1
  have he1 := fun w : World => eqTrip 0 T.p T.x 0 0 p x 0 w
  obtain ⟨e1, hE1⟩ : ∃ e1, e1 = sameT 0 T.p T.x 0 0 p x 0 := ⟨_, rfl⟩
  simp only [← hE1] at he1 ⊢
  clear hE1
  have HB := fun b p x r X => subj178 b p x r X
  have hw1 := fun X => wi21 T.b b X
  have hw2 := fun X => wi21 r T.r X
  generalize within T.b b = w1 at hw1 ⊢
  generalize within r T.r = w2 at hw2 ⊢
  clear f3 hS t4
  cases e1 with
  | false =>
      go_enter Tryz.func106, Tryz.ntmps106
      go_wp2_with fail
      refine wp_region_held (S := fun w' => Weaker w' W.heap.size (W.heap.size + 1) b p x r T) (by kernel_rfl) ?_
      refine wpAnyH_take (i := 0) (v := .agg #[.int .i64 T.b, .string T.p, .int .i64 T.x, .int .i64 T.r]) rfl (by kernel_rfl) (by kernel_rfl) (by kernel_rfl) (fun _ _ _ h => h) (Or.inl ⟨by rfl, fun w hw => by obtain ⟨l0, l1, l2, l3, l4, l5, l6, l7⟩ := hw; first | (go_simp; done) | rfl⟩) hq ?_
      go_simp
      refine wpAnyH_take (i := 2) (v := .pointer (some ⟨W.heap.size, 0, none⟩)) rfl (by kernel_rfl) (by kernel_rfl) (by kernel_rfl) (fun _ _ _ h => h) (Or.inl ⟨by rfl, fun w hw => by go_simp⟩) hq ?_
      go_simp
      refine wpAnyH_take (i := 3) (v := .pointer (some ⟨W.heap.size, 0, none⟩)) rfl (by kernel_rfl) (by kernel_rfl) (by kernel_rfl) (fun _ _ _ h => h) (Or.inl ⟨by rfl, fun w hw => by go_simp⟩) hq ?_
      go_simp
      refine wpAnyH_take (i := 4) (v := .agg #[.int .i64 b, .string p, .int .i64 x, .int .i64 r]) rfl (by kernel_rfl) (by kernel_rfl) (by kernel_rfl) (fun _ _ _ h => h) (Or.inl ⟨by rfl, fun w hw => by obtain ⟨l0, l1, l2, l3, l4, l5, l6, l7⟩ := hw; first | (go_simp; done) | rfl⟩) hq ?_
      go_simp
      refine wpAnyH_ready (rs := [1]) (by kernel_rfl) (by simp) ?_
      refine AllReadyH.cons rfl (fun K hK => ?_) AllReadyH.nil
      go_simp
      go_wp2_with (go_at_call 130; refine (HB _ _ _ _ _).mono ?_; rintro e Wk1 ⟨rfl, bk1⟩)
      refine hK _ _ (Weaker.through bk1 hq rfl (Nat.le_refl _)) (fun hR1 => ?_)
      clear hK K
      go_simp
      refine wpAnyH_ready (rs := [5]) (by kernel_rfl) (by simp) ?_
      refine AllReadyH.cons rfl (fun K hK => ?_) AllReadyH.nil
      go_simp
      go_wp2_with (go_at_call 130; refine (HB _ _ _ _ _).mono ?_; rintro e Wk2 ⟨rfl, bk2⟩)
      refine hK _ _ (Weaker.through bk2 hR1 rfl (Nat.le_refl _)) (fun hR2 => ?_)
      clear hK K
      go_simp
      refine wpAnyH_take (i := 6) (v := .bool false) rfl (by kernel_rfl) (by kernel_rfl) (by kernel_rfl) (fun _ _ _ h => h) (Or.inl ⟨by rfl, fun w hw => by go_simp⟩) hR2 ?_
      go_simp
      refine wpAnyH_take (i := 7) (v := .bool false) rfl (by kernel_rfl) (by kernel_rfl) (by kernel_rfl) (fun _ _ _ h => h) (Or.inl ⟨by rfl, fun w hw => by go_simp⟩) hR2 ?_
      go_simp
      refine wpAnyH_take (i := 8) (v := undef) rfl (by kernel_rfl) (by kernel_rfl) (by kernel_rfl) (fun _ _ _ h => h) (Or.inr ⟨by rfl, rfl⟩) hR2 ?_
      go_simp
      refine wpAnyH_take (i := 9) (v := undef) rfl (by kernel_rfl) (by kernel_rfl) (by kernel_rfl) (fun _ _ _ h => h) (Or.inr ⟨by rfl, rfl⟩) hR2 ?_
      go_simp
      refine wpAnyH_take (i := 10) (v := undef) rfl (by kernel_rfl) (by kernel_rfl) (by kernel_rfl) (fun _ _ _ h => h) (Or.inr ⟨by rfl, rfl⟩) hR2 ?_
      go_simp
      refine wpAnyH_take (i := 11) (v := undef) rfl (by kernel_rfl) (by kernel_rfl) (by kernel_rfl) (fun _ _ _ h => h) (Or.inr ⟨by rfl, rfl⟩) hR2 ?_
      go_simp
      refine wpAnyH_take (i := 12) (v := undef) rfl (by kernel_rfl) (by kernel_rfl) (by kernel_rfl) (fun _ _ _ h => h) (Or.inr ⟨by rfl, rfl⟩) hR2 ?_
      go_simp
      refine wpAnyH_take (i := 13) (v := undef) rfl (by kernel_rfl) (by kernel_rfl) (by kernel_rfl) (fun _ _ _ h => h) (Or.inr ⟨by rfl, rfl⟩) hR2 ?_
      go_simp
      refine wpAnyH_take (i := 14) (v := undef) rfl (by kernel_rfl) (by kernel_rfl) (by kernel_rfl) (fun _ _ _ h => h) (Or.inr ⟨by rfl, rfl⟩) hR2 ?_
      go_simp
      refine wpAnyH_take (i := 15) (v := .bool false) rfl (by kernel_rfl) (by kernel_rfl) (by kernel_rfl) (fun _ _ _ h => h) (Or.inl ⟨by rfl, fun w hw => by go_simp⟩) hR2 ?_
      go_simp
      refine wpAnyH_take (i := 16) (v := .bool false) rfl (by kernel_rfl) (by kernel_rfl) (by kernel_rfl) (fun _ _ _ h => h) (Or.inl ⟨by rfl, fun w hw => by go_simp⟩) hR2 ?_
      go_simp
      refine wpAnyH_take (i := 17) (v := undef) rfl (by kernel_rfl) (by kernel_rfl) (by kernel_rfl) (fun _ _ _ h => h) (Or.inr ⟨by rfl, rfl⟩) hR2 ?_
      go_simp
      refine wpAnyH_take (i := 18) (v := undef) rfl (by kernel_rfl) (by kernel_rfl) (by kernel_rfl) (fun _ _ _ h => h) (Or.inr ⟨by rfl, rfl⟩) hR2 ?_
      go_simp
      refine wpAnyH_take (i := 19) (v := undef) rfl (by kernel_rfl) (by kernel_rfl) (by kernel_rfl) (fun _ _ _ h => h) (Or.inr ⟨by rfl, rfl⟩) hR2 ?_
      go_simp
      refine wpAnyH_take (i := 20) (v := undef) rfl (by kernel_rfl) (by kernel_rfl) (by kernel_rfl) (fun _ _ _ h => h) (Or.inr ⟨by rfl, rfl⟩) hR2 ?_
      go_simp
      refine wpAnyH_take (i := 21) (v := undef) rfl (by kernel_rfl) (by kernel_rfl) (by kernel_rfl) (fun _ _ _ h => h) (Or.inr ⟨by rfl, rfl⟩) hR2 ?_
      go_simp
      refine wpAnyH_take (i := 22) (v := undef) rfl (by kernel_rfl) (by kernel_rfl) (by kernel_rfl) (fun _ _ _ h => h) (Or.inr ⟨by rfl, rfl⟩) hR2 ?_
      go_simp
      refine wpAnyH_take (i := 23) (v := undef) rfl (by kernel_rfl) (by kernel_rfl) (by kernel_rfl) (fun _ _ _ h => h) (Or.inr ⟨by rfl, rfl⟩) hR2 ?_
      go_simp
      refine wpAnyH_take (i := 24) (v := .bool false) rfl (by kernel_rfl) (by kernel_rfl) (by kernel_rfl) (fun _ _ _ h => h) (Or.inl ⟨by rfl, fun w hw => by go_simp⟩) hR2 ?_
      go_simp
      refine wpAnyH_take (i := 25) (v := .bool false) rfl (by kernel_rfl) (by kernel_rfl) (by kernel_rfl) (fun _ _ _ h => h) (Or.inl ⟨by rfl, fun w hw => by go_simp⟩) hR2 ?_
      go_simp
      refine wpAnyH_done (by kernel_rfl) ?_ _
      go_wp2_with fail
      go_ret
      exact ⟨rfl, ((hcur.drew).trans (bk1.mono (hcur.drew).size)).trans (bk2.mono ((hcur.drew).trans (bk1.mono (hcur.drew).size)).size)⟩
  | true =>
    cases w1 with
    | false =>
      go_enter Tryz.func106, Tryz.ntmps106
      go_wp2_with fail
      refine wp_region_held (S := fun w' => Weaker w' W.heap.size (W.heap.size + 1) b p x r T) (by kernel_rfl) ?_
      refine wpAnyH_take (i := 0) (v := .agg #[.int .i64 T.b, .string T.p, .int .i64 T.x, .int .i64 T.r]) rfl (by kernel_rfl) (by kernel_rfl) (by kernel_rfl) (fun _ _ _ h => h) (Or.inl ⟨by rfl, fun w hw => by obtain ⟨l0, l1, l2, l3, l4, l5, l6, l7⟩ := hw; first | (go_simp; done) | rfl⟩) hq ?_
      go_simp
      refine wpAnyH_take (i := 2) (v := .pointer (some ⟨W.heap.size, 0, none⟩)) rfl (by kernel_rfl) (by kernel_rfl) (by kernel_rfl) (fun _ _ _ h => h) (Or.inl ⟨by rfl, fun w hw => by go_simp⟩) hq ?_
      go_simp
      refine wpAnyH_take (i := 3) (v := .pointer (some ⟨W.heap.size, 0, none⟩)) rfl (by kernel_rfl) (by kernel_rfl) (by kernel_rfl) (fun _ _ _ h => h) (Or.inl ⟨by rfl, fun w hw => by go_simp⟩) hq ?_
      go_simp
      refine wpAnyH_take (i := 4) (v := .agg #[.int .i64 b, .string p, .int .i64 x, .int .i64 r]) rfl (by kernel_rfl) (by kernel_rfl) (by kernel_rfl) (fun _ _ _ h => h) (Or.inl ⟨by rfl, fun w hw => by obtain ⟨l0, l1, l2, l3, l4, l5, l6, l7⟩ := hw; first | (go_simp; done) | rfl⟩) hq ?_
      go_simp
      refine wpAnyH_ready (rs := [1]) (by kernel_rfl) (by simp) ?_
      refine AllReadyH.cons rfl (fun K hK => ?_) AllReadyH.nil
      go_simp
      go_wp2_with (go_at_call 130; refine (HB _ _ _ _ _).mono ?_; rintro e Wk1 ⟨rfl, bk1⟩)
      refine hK _ _ (Weaker.through bk1 hq rfl (Nat.le_refl _)) (fun hR1 => ?_)
      clear hK K
      go_simp
      refine wpAnyH_ready (rs := [5]) (by kernel_rfl) (by simp) ?_
      refine AllReadyH.cons rfl (fun K hK => ?_) AllReadyH.nil
      go_simp
      go_wp2_with (go_at_call 130; refine (HB _ _ _ _ _).mono ?_; rintro e Wk2 ⟨rfl, bk2⟩)
      refine hK _ _ (Weaker.through bk2 hR1 rfl (Nat.le_refl _)) (fun hR2 => ?_)
      clear hK K
      go_simp
      refine wpAnyH_take (i := 6) (v := .bool true) rfl (by kernel_rfl) (by kernel_rfl) (by kernel_rfl) (fun _ _ _ h => h) (Or.inl ⟨by rfl, fun w hw => by go_simp⟩) hR2 ?_
      go_simp
      refine wpAnyH_take (i := 7) (v := .bool true) rfl (by kernel_rfl) (by kernel_rfl) (by kernel_rfl) (fun _ _ _ h => h) (Or.inl ⟨by rfl, fun w hw => by go_simp⟩) hR2 ?_
      go_simp
      refine wpAnyH_take (i := 8) (v := .pointer (some ⟨W.heap.size + 1, 0, none⟩)) rfl (by kernel_rfl) (by kernel_rfl) (by kernel_rfl) (fun _ _ _ h => h) (Or.inl ⟨by rfl, fun w hw => by go_simp⟩) hR2 ?_
      go_simp
      refine wpAnyH_take (i := 9) (v := .int .i64 T.b) rfl (by kernel_rfl) (by kernel_rfl) (by kernel_rfl) (fun _ _ _ h => h) (Or.inl ⟨by rfl, fun w hw => by obtain ⟨l0, l1, l2, l3, l4, l5, l6, l7⟩ := hw; first | (go_simp; done) | rfl⟩) hR2 ?_
      go_simp
      refine wpAnyH_take (i := 10) (v := .pointer (some ⟨W.heap.size, 0, none⟩)) rfl (by kernel_rfl) (by kernel_rfl) (by kernel_rfl) (fun _ _ _ h => h) (Or.inl ⟨by rfl, fun w hw => by go_simp⟩) hR2 ?_
      go_simp
      refine wpAnyH_take (i := 11) (v := .pointer (some ⟨W.heap.size, 0, none⟩)) rfl (by kernel_rfl) (by kernel_rfl) (by kernel_rfl) (fun _ _ _ h => h) (Or.inl ⟨by rfl, fun w hw => by go_simp⟩) hR2 ?_
      go_simp
      refine wpAnyH_take (i := 12) (v := .pointer (some ⟨W.heap.size, 0, none⟩)) rfl (by kernel_rfl) (by kernel_rfl) (by kernel_rfl) (fun _ _ _ h => h) (Or.inl ⟨by rfl, fun w hw => by go_simp⟩) hR2 ?_
      go_simp
      refine wpAnyH_take (i := 13) (v := .int .i64 b) rfl (by kernel_rfl) (by kernel_rfl) (by kernel_rfl) (fun _ _ _ h => h) (Or.inl ⟨by rfl, fun w hw => by obtain ⟨l0, l1, l2, l3, l4, l5, l6, l7⟩ := hw; first | (go_simp; done) | rfl⟩) hR2 ?_
      go_simp
      refine wpAnyH_ready (rs := [14]) (by kernel_rfl) (by simp) ?_
      refine AllReadyH.cons rfl (fun K hK => ?_) AllReadyH.nil
      go_simp
      go_wp2_with (go_at_call 131; refine (hw1 _).mono ?_; rintro e Wk ⟨rfl, hWk⟩; subst hWk)
      refine hK _ _ (hR2) (fun hR3 => ?_)
      clear hK K
      go_simp
      refine wpAnyH_take (i := 15) (v := .bool false) rfl (by kernel_rfl) (by kernel_rfl) (by kernel_rfl) (fun _ _ _ h => h) (Or.inl ⟨by rfl, fun w hw => by go_simp⟩) hR3 ?_
      go_simp
      refine wpAnyH_take (i := 16) (v := .bool false) rfl (by kernel_rfl) (by kernel_rfl) (by kernel_rfl) (fun _ _ _ h => h) (Or.inl ⟨by rfl, fun w hw => by go_simp⟩) hR3 ?_
      go_simp
      refine wpAnyH_take (i := 17) (v := undef) rfl (by kernel_rfl) (by kernel_rfl) (by kernel_rfl) (fun _ _ _ h => h) (Or.inr ⟨by rfl, rfl⟩) hR3 ?_
      go_simp
      refine wpAnyH_take (i := 18) (v := undef) rfl (by kernel_rfl) (by kernel_rfl) (by kernel_rfl) (fun _ _ _ h => h) (Or.inr ⟨by rfl, rfl⟩) hR3 ?_
      go_simp
      refine wpAnyH_take (i := 19) (v := undef) rfl (by kernel_rfl) (by kernel_rfl) (by kernel_rfl) (fun _ _ _ h => h) (Or.inr ⟨by rfl, rfl⟩) hR3 ?_
      go_simp
      refine wpAnyH_take (i := 20) (v := undef) rfl (by kernel_rfl) (by kernel_rfl) (by kernel_rfl) (fun _ _ _ h => h) (Or.inr ⟨by rfl, rfl⟩) hR3 ?_
      go_simp
      refine wpAnyH_take (i := 21) (v := undef) rfl (by kernel_rfl) (by kernel_rfl) (by kernel_rfl) (fun _ _ _ h => h) (Or.inr ⟨by rfl, rfl⟩) hR3 ?_
      go_simp
      refine wpAnyH_take (i := 22) (v := undef) rfl (by kernel_rfl) (by kernel_rfl) (by kernel_rfl) (fun _ _ _ h => h) (Or.inr ⟨by rfl, rfl⟩) hR3 ?_
      go_simp
      refine wpAnyH_take (i := 23) (v := undef) rfl (by kernel_rfl) (by kernel_rfl) (by kernel_rfl) (fun _ _ _ h => h) (Or.inr ⟨by rfl, rfl⟩) hR3 ?_
      go_simp
      refine wpAnyH_take (i := 24) (v := .bool false) rfl (by kernel_rfl) (by kernel_rfl) (by kernel_rfl) (fun _ _ _ h => h) (Or.inl ⟨by rfl, fun w hw => by go_simp⟩) hR3 ?_
      go_simp
      refine wpAnyH_take (i := 25) (v := .bool false) rfl (by kernel_rfl) (by kernel_rfl) (by kernel_rfl) (fun _ _ _ h => h) (Or.inl ⟨by rfl, fun w hw => by go_simp⟩) hR3 ?_
      go_simp
      refine wpAnyH_done (by kernel_rfl) ?_ _
      go_wp2_with fail
      go_ret
      exact ⟨rfl, ((hcur.drew).trans (bk1.mono (hcur.drew).size)).trans (bk2.mono ((hcur.drew).trans (bk1.mono (hcur.drew).size)).size)⟩
    | true =>
      go_enter Tryz.func106, Tryz.ntmps106
      go_wp2_with fail
      refine wp_region_held (S := fun w' => Weaker w' W.heap.size (W.heap.size + 1) b p x r T) (by kernel_rfl) ?_
      refine wpAnyH_take (i := 0) (v := .agg #[.int .i64 T.b, .string T.p, .int .i64 T.x, .int .i64 T.r]) rfl (by kernel_rfl) (by kernel_rfl) (by kernel_rfl) (fun _ _ _ h => h) (Or.inl ⟨by rfl, fun w hw => by obtain ⟨l0, l1, l2, l3, l4, l5, l6, l7⟩ := hw; first | (go_simp; done) | rfl⟩) hq ?_
      go_simp
      refine wpAnyH_take (i := 2) (v := .pointer (some ⟨W.heap.size, 0, none⟩)) rfl (by kernel_rfl) (by kernel_rfl) (by kernel_rfl) (fun _ _ _ h => h) (Or.inl ⟨by rfl, fun w hw => by go_simp⟩) hq ?_
      go_simp
      refine wpAnyH_take (i := 3) (v := .pointer (some ⟨W.heap.size, 0, none⟩)) rfl (by kernel_rfl) (by kernel_rfl) (by kernel_rfl) (fun _ _ _ h => h) (Or.inl ⟨by rfl, fun w hw => by go_simp⟩) hq ?_
      go_simp
      refine wpAnyH_take (i := 4) (v := .agg #[.int .i64 b, .string p, .int .i64 x, .int .i64 r]) rfl (by kernel_rfl) (by kernel_rfl) (by kernel_rfl) (fun _ _ _ h => h) (Or.inl ⟨by rfl, fun w hw => by obtain ⟨l0, l1, l2, l3, l4, l5, l6, l7⟩ := hw; first | (go_simp; done) | rfl⟩) hq ?_
      go_simp
      refine wpAnyH_ready (rs := [1]) (by kernel_rfl) (by simp) ?_
      refine AllReadyH.cons rfl (fun K hK => ?_) AllReadyH.nil
      go_simp
      go_wp2_with (go_at_call 130; refine (HB _ _ _ _ _).mono ?_; rintro e Wk1 ⟨rfl, bk1⟩)
      refine hK _ _ (Weaker.through bk1 hq rfl (Nat.le_refl _)) (fun hR1 => ?_)
      clear hK K
      go_simp
      refine wpAnyH_ready (rs := [5]) (by kernel_rfl) (by simp) ?_
      refine AllReadyH.cons rfl (fun K hK => ?_) AllReadyH.nil
      go_simp
      go_wp2_with (go_at_call 130; refine (HB _ _ _ _ _).mono ?_; rintro e Wk2 ⟨rfl, bk2⟩)
      refine hK _ _ (Weaker.through bk2 hR1 rfl (Nat.le_refl _)) (fun hR2 => ?_)
      clear hK K
      go_simp
      refine wpAnyH_take (i := 6) (v := .bool true) rfl (by kernel_rfl) (by kernel_rfl) (by kernel_rfl) (fun _ _ _ h => h) (Or.inl ⟨by rfl, fun w hw => by go_simp⟩) hR2 ?_
      go_simp
      refine wpAnyH_take (i := 7) (v := .bool true) rfl (by kernel_rfl) (by kernel_rfl) (by kernel_rfl) (fun _ _ _ h => h) (Or.inl ⟨by rfl, fun w hw => by go_simp⟩) hR2 ?_
      go_simp
      refine wpAnyH_take (i := 8) (v := .pointer (some ⟨W.heap.size + 1, 0, none⟩)) rfl (by kernel_rfl) (by kernel_rfl) (by kernel_rfl) (fun _ _ _ h => h) (Or.inl ⟨by rfl, fun w hw => by go_simp⟩) hR2 ?_
      go_simp
      refine wpAnyH_take (i := 9) (v := .int .i64 T.b) rfl (by kernel_rfl) (by kernel_rfl) (by kernel_rfl) (fun _ _ _ h => h) (Or.inl ⟨by rfl, fun w hw => by obtain ⟨l0, l1, l2, l3, l4, l5, l6, l7⟩ := hw; first | (go_simp; done) | rfl⟩) hR2 ?_
      go_simp
      refine wpAnyH_take (i := 10) (v := .pointer (some ⟨W.heap.size, 0, none⟩)) rfl (by kernel_rfl) (by kernel_rfl) (by kernel_rfl) (fun _ _ _ h => h) (Or.inl ⟨by rfl, fun w hw => by go_simp⟩) hR2 ?_
      go_simp
      refine wpAnyH_take (i := 11) (v := .pointer (some ⟨W.heap.size, 0, none⟩)) rfl (by kernel_rfl) (by kernel_rfl) (by kernel_rfl) (fun _ _ _ h => h) (Or.inl ⟨by rfl, fun w hw => by go_simp⟩) hR2 ?_
      go_simp
      refine wpAnyH_take (i := 12) (v := .pointer (some ⟨W.heap.size, 0, none⟩)) rfl (by kernel_rfl) (by kernel_rfl) (by kernel_rfl) (fun _ _ _ h => h) (Or.inl ⟨by rfl, fun w hw => by go_simp⟩) hR2 ?_
      go_simp
      refine wpAnyH_take (i := 13) (v := .int .i64 b) rfl (by kernel_rfl) (by kernel_rfl) (by kernel_rfl) (fun _ _ _ h => h) (Or.inl ⟨by rfl, fun w hw => by obtain ⟨l0, l1, l2, l3, l4, l5, l6, l7⟩ := hw; first | (go_simp; done) | rfl⟩) hR2 ?_
      go_simp
      refine wpAnyH_ready (rs := [14]) (by kernel_rfl) (by simp) ?_
      refine AllReadyH.cons rfl (fun K hK => ?_) AllReadyH.nil
      go_simp
      go_wp2_with (go_at_call 131; refine (hw1 _).mono ?_; rintro e Wk ⟨rfl, hWk⟩; subst hWk)
      refine hK _ _ (hR2) (fun hR3 => ?_)
      clear hK K
      go_simp
      refine wpAnyH_take (i := 15) (v := .bool true) rfl (by kernel_rfl) (by kernel_rfl) (by kernel_rfl) (fun _ _ _ h => h) (Or.inl ⟨by rfl, fun w hw => by go_simp⟩) hR3 ?_
      go_simp
      refine wpAnyH_take (i := 16) (v := .bool true) rfl (by kernel_rfl) (by kernel_rfl) (by kernel_rfl) (fun _ _ _ h => h) (Or.inl ⟨by rfl, fun w hw => by go_simp⟩) hR3 ?_
      go_simp
      refine wpAnyH_take (i := 17) (v := .pointer (some ⟨W.heap.size, 0, none⟩)) rfl (by kernel_rfl) (by kernel_rfl) (by kernel_rfl) (fun _ _ _ h => h) (Or.inl ⟨by rfl, fun w hw => by go_simp⟩) hR3 ?_
      go_simp
      refine wpAnyH_take (i := 18) (v := .pointer (some ⟨W.heap.size, 0, none⟩)) rfl (by kernel_rfl) (by kernel_rfl) (by kernel_rfl) (fun _ _ _ h => h) (Or.inl ⟨by rfl, fun w hw => by go_simp⟩) hR3 ?_
      go_simp
      refine wpAnyH_take (i := 19) (v := .pointer (some ⟨W.heap.size, 3, none⟩)) rfl (by kernel_rfl) (by kernel_rfl) (by kernel_rfl) (fun _ _ _ h => h) (Or.inl ⟨by rfl, fun w hw => by go_simp⟩) hR3 ?_
      go_simp
      refine wpAnyH_take (i := 20) (v := .int .i64 r) rfl (by kernel_rfl) (by kernel_rfl) (by kernel_rfl) (fun _ _ _ h => h) (Or.inl ⟨by rfl, fun w hw => by obtain ⟨l0, l1, l2, l3, l4, l5, l6, l7⟩ := hw; first | (go_simp; done) | rfl⟩) hR3 ?_
      go_simp
      refine wpAnyH_take (i := 21) (v := .pointer (some ⟨W.heap.size + 1, 3, none⟩)) rfl (by kernel_rfl) (by kernel_rfl) (by kernel_rfl) (fun _ _ _ h => h) (Or.inl ⟨by rfl, fun w hw => by go_simp⟩) hR3 ?_
      go_simp
      refine wpAnyH_take (i := 22) (v := .int .i64 T.r) rfl (by kernel_rfl) (by kernel_rfl) (by kernel_rfl) (fun _ _ _ h => h) (Or.inl ⟨by rfl, fun w hw => by obtain ⟨l0, l1, l2, l3, l4, l5, l6, l7⟩ := hw; first | (go_simp; done) | rfl⟩) hR3 ?_
      go_simp
      refine wpAnyH_ready (rs := [23]) (by kernel_rfl) (by simp) ?_
      refine AllReadyH.cons rfl (fun K hK => ?_) AllReadyH.nil
      go_simp
      go_wp2_with (go_at_call 131; refine (hw2 _).mono ?_; rintro e Wk ⟨rfl, hWk⟩; subst hWk)
      refine hK _ _ (hR3) (fun hR4 => ?_)
      clear hK K
      go_simp
      refine wpAnyH_take (i := 24) (v := .bool w2) rfl (by kernel_rfl) (by kernel_rfl) (by kernel_rfl) (fun _ _ _ h => h) (Or.inl ⟨by rfl, fun w hw => by go_simp⟩) hR4 ?_
      go_simp
      refine wpAnyH_take (i := 25) (v := .bool w2) rfl (by kernel_rfl) (by kernel_rfl) (by kernel_rfl) (fun _ _ _ h => h) (Or.inl ⟨by rfl, fun w hw => by go_simp⟩) hR4 ?_
      go_simp
      refine wpAnyH_done (by kernel_rfl) ?_ _
      go_wp2_with fail
      go_ret
      exact ⟨rfl, ((hcur.drew).trans (bk1.mono (hcur.drew).size)).trans (bk2.mono ((hcur.drew).trans (bk1.mono (hcur.drew).size)).size)⟩
end Go.Proofs.YtgdgbjnmibkmhaaGreatDoor
