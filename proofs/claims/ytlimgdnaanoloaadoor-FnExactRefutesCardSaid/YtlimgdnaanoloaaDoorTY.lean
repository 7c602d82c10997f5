/- Chapter 5: the walk of the exact law on what refutes. -/
import Derived.Test.YtlimgdnaanoloaaDoorTW
import Derived.Test.YtlimgdnaanoloaaDoorTS
namespace Go.Proofs.YtlimgdnaanoloaaDoor
open Go.ChangeShapes Go.WideShapes Go.ChangeAt Go.RowKit Go.Shelf Go.Maps
attribute [local go_sem] Oper.semAt_some
set_option maxRecDepth 100000

theorem OwnT.drew {W : World} {g : Nat} {b : Int} {p : ByteArray} {x r : Int} (h : OwnT W g b p x r) : OwnT W.drew g b p x r := h
set_option maxHeartbeats 2000000 in
theorem walkRefutes (b : Int) (p : ByteArray) (x r b' : Int) (p' : ByteArray) (x' r' : Int) (hm : p.size ≤ maxLen) (hm' : p'.size ≤ maxLen) (w : World) {N : Nat} (hL : Laid3 N w) (hE : NoTrip N w) :
    Calls Tryd.prog 9 #[.agg #[.int .i64 b, .string p, .int .i64 x, .int .i64 r], .agg #[.int .i64 b', .string p', .int .i64 x', .int .i64 r']] w fun e w' => e = .returned (.bool true) ∧ Below w.heap.size w w' := by
  unfold maxLen at hm hm'
  have hsz := fun X => sz12 b p x r 1048576 X (by omega) (by omega) hm
  have hto := fun X => to14 b p x r X
  have hto' := fun X => to14 b' p' x' r' X
  have hcur : Below w.heap.size w ((w.alloc (.cells #[.int .i64 b, .string p, .int .i64 x, .int .i64 r] 23)).alloc (.cells #[.int .i64 b', .string p', .int .i64 x', .int .i64 r'] 23)) := ((Below.refl _ w).alloc (Nat.le_refl _) _).alloc (by simp) _
  have hT := (OwnT.new w b p x r).below ((Below.refl _ _).alloc (Nat.le_refl _) (.cells #[.int .i64 b', .string p', .int .i64 x', .int .i64 r'] 23))
  have hU := OwnT.new (w.alloc (.cells #[.int .i64 b, .string p, .int .i64 x, .int .i64 r] 23)) b' p' x' r'
  rw [World.size_alloc] at hU
  obtain ⟨c0, c1, c2, c3⟩ := hT.cells
  obtain ⟨d0, d1, d2, d3⟩ := hU.cells
  by_cases hlt : (p.size : Int) ≤ 1048576
  · rw [if_pos hlt] at hsz
    have hn : ¬ (1048576 - (p.size : Int) < 0) := by omega
    have hsz' := fun X => sz12 b' p' x' r' (1048576 - (p.size : Int)) X (by omega) (by omega) hm'
    by_cases hlt' : (p'.size : Int) ≤ 1048576 - (p.size : Int)
    · rw [if_pos hlt'] at hsz'
      have hn' : ¬ (1048576 - (p.size : Int) - (p'.size : Int) < 0) := by omega
      have hmod := fun X => mref27 b p x r b' p' x' r' (by omega) (by omega) X
      have hprog := fun (X : World) (hX : Laid3 N X) (hY : NoTrip N X) => pref28 b p x r b' p' x' r' X hX hY
      generalize refT b p x r b' p' x' r' = s at hmod hprog
      clear hlt hlt'
      go_enter Tryd.func9, Tryd.ntmps9
      go_wp2_with (first
        | (go_at_call_of 12 (Value.agg #[Value.int IntKind.i64 b, Value.string p, Value.int IntKind.i64 x, Value.int IntKind.i64 r]); refine (hsz _).mono ?_; rintro e Wk ⟨rfl, hb⟩; replace hcur := hcur.trans (hb.mono hcur.size); replace hT := hT.below hb; replace hU := hU.below hb; obtain ⟨c0, c1, c2, c3⟩ := hT.cells; obtain ⟨d0, d1, d2, d3⟩ := hU.cells; clear hb)
        | (go_at_call_of 12 (Value.agg #[Value.int IntKind.i64 b', Value.string p', Value.int IntKind.i64 x', Value.int IntKind.i64 r']); refine (hsz' _).mono ?_; rintro e Wk ⟨rfl, hb⟩; replace hcur := hcur.trans (hb.mono hcur.size); replace hT := hT.below hb; replace hU := hU.below hb; obtain ⟨c0, c1, c2, c3⟩ := hT.cells; obtain ⟨d0, d1, d2, d3⟩ := hU.cells; clear hb))
      replace hcur := hcur.drew
      replace hT := hT.drew
      replace hU := hU.drew
      refine wp_region_held (S := fun w' => OwnT w' w.heap.size b p x r ∧ OwnT w' (w.heap.size + 1) b' p' x' r') (by kernel_rfl) ?_
      refine wpAnyH_take (i := 0) (v := .agg #[.int .i64 b, .string p, .int .i64 x, .int .i64 r]) rfl (by kernel_rfl) (by kernel_rfl) (by kernel_rfl) (fun _ _ _ h => h) (Or.inl ⟨by rfl, fun w hw => by obtain ⟨c0, c1, c2, c3⟩ := hw.1.cells; first | (go_simp; done) | rfl⟩) ⟨hT, hU⟩ ?_
      go_simp
      refine wpAnyH_take (i := 2) (v := .agg #[.int .i64 b', .string p', .int .i64 x', .int .i64 r']) rfl (by kernel_rfl) (by kernel_rfl) (by kernel_rfl) (fun _ _ _ h => h) (Or.inl ⟨by rfl, fun w hw => by obtain ⟨c0, c1, c2, c3⟩ := hw.2.cells; first | (go_simp; done) | rfl⟩) ⟨hT, hU⟩ ?_
      go_simp
      refine wpAnyH_ready (rs := [1]) (by kernel_rfl) (by simp) ?_
      refine AllReadyH.cons rfl (fun K hK => ?_) AllReadyH.nil
      go_simp
      go_wp2_with (go_at_call 14; refine (hto _).mono ?_; rintro e Wk ⟨rfl, hb⟩; replace hcur := hcur.trans (hb.mono hcur.size); replace hT := hT.below hb; replace hU := hU.below hb; clear hb)
      refine hK _ _ (⟨hT, hU⟩) (fun _ => ?_)
      clear hK K
      go_simp
      refine wpAnyH_ready (rs := [3]) (by kernel_rfl) (by simp) ?_
      refine AllReadyH.cons rfl (fun K hK => ?_) AllReadyH.nil
      go_simp
      go_wp2_with (go_at_call 14; refine (hto' _).mono ?_; rintro e Wk ⟨rfl, hb⟩; replace hcur := hcur.trans (hb.mono hcur.size); replace hT := hT.below hb; replace hU := hU.below hb; clear hb)
      refine hK _ _ (⟨hT, hU⟩) (fun _ => ?_)
      clear hK K
      go_simp
      refine wpAnyH_ready (rs := [4]) (by kernel_rfl) (by simp) ?_
      refine AllReadyH.cons rfl (fun K hK => ?_) AllReadyH.nil
      go_simp
      go_wp2_with (go_at_call 27; refine (hmod _).mono ?_; rintro e Wk ⟨rfl, hb⟩; replace hcur := hcur.trans (hb.mono hcur.size); replace hT := hT.below hb; replace hU := hU.below hb; clear hb)
      refine hK _ _ (⟨hT, hU⟩) (fun _ => ?_)
      clear hK K
      go_simp
      refine wpAnyH_take (i := 5) (v := .bool s) rfl (by kernel_rfl) (by kernel_rfl) (by kernel_rfl) (fun _ _ _ h => h) (Or.inl ⟨by rfl, fun w hw => by go_simp⟩) ⟨hT, hU⟩ ?_
      go_simp
      refine wpAnyH_done (by kernel_rfl) ?_ _
      obtain ⟨c0, c1, c2, c3⟩ := hT.cells
      obtain ⟨d0, d1, d2, d3⟩ := hU.cells
      go_wp2_with fail
      replace hcur := hcur.drew
      replace hT := hT.drew
      replace hU := hU.drew
      refine wp_region_held (S := fun w' => OwnT w' w.heap.size b p x r ∧ OwnT w' (w.heap.size + 1) b' p' x' r') (by kernel_rfl) ?_
      refine wpAnyH_take (i := 0) (v := .agg #[.int .i64 b, .string p, .int .i64 x, .int .i64 r]) rfl (by kernel_rfl) (by kernel_rfl) (by kernel_rfl) (fun _ _ _ h => h) (Or.inl ⟨by rfl, fun w hw => by obtain ⟨c0, c1, c2, c3⟩ := hw.1.cells; first | (go_simp; done) | rfl⟩) ⟨hT, hU⟩ ?_
      go_simp
      refine wpAnyH_take (i := 2) (v := .agg #[.int .i64 b', .string p', .int .i64 x', .int .i64 r']) rfl (by kernel_rfl) (by kernel_rfl) (by kernel_rfl) (fun _ _ _ h => h) (Or.inl ⟨by rfl, fun w hw => by obtain ⟨c0, c1, c2, c3⟩ := hw.2.cells; first | (go_simp; done) | rfl⟩) ⟨hT, hU⟩ ?_
      go_simp
      refine wpAnyH_ready (rs := [1]) (by kernel_rfl) (by simp) ?_
      refine AllReadyH.cons rfl (fun K hK => ?_) AllReadyH.nil
      go_simp
      go_wp2_with (go_at_call 14; refine (hto _).mono ?_; rintro e Wk ⟨rfl, hb⟩; replace hcur := hcur.trans (hb.mono hcur.size); replace hT := hT.below hb; replace hU := hU.below hb; clear hb)
      refine hK _ _ (⟨hT, hU⟩) (fun _ => ?_)
      clear hK K
      go_simp
      refine wpAnyH_ready (rs := [3]) (by kernel_rfl) (by simp) ?_
      refine AllReadyH.cons rfl (fun K hK => ?_) AllReadyH.nil
      go_simp
      go_wp2_with (go_at_call 14; refine (hto' _).mono ?_; rintro e Wk ⟨rfl, hb⟩; replace hcur := hcur.trans (hb.mono hcur.size); replace hT := hT.below hb; replace hU := hU.below hb; clear hb)
      refine hK _ _ (⟨hT, hU⟩) (fun _ => ?_)
      clear hK K
      go_simp
      refine wpAnyH_ready (rs := [4]) (by kernel_rfl) (by simp) ?_
      refine AllReadyH.cons rfl (fun K hK => ?_) AllReadyH.nil
      go_simp
      go_wp2_with (go_at_call 28; refine (hprog _ (hL.below hcur hL.lt) (hE.below hcur hL.lt)).mono ?_; rintro e Wk ⟨rfl, hb⟩; replace hcur := hcur.trans (hb.mono hcur.size); replace hT := hT.below hb; replace hU := hU.below hb; clear hb)
      refine hK _ _ (⟨hT, hU⟩) (fun _ => ?_)
      clear hK K
      go_simp
      refine wpAnyH_take (i := 5) (v := .bool s) rfl (by kernel_rfl) (by kernel_rfl) (by kernel_rfl) (fun _ _ _ h => h) (Or.inl ⟨by rfl, fun w hw => by go_simp⟩) ⟨hT, hU⟩ ?_
      go_simp
      refine wpAnyH_done (by kernel_rfl) ?_ _
      obtain ⟨c0, c1, c2, c3⟩ := hT.cells
      obtain ⟨d0, d1, d2, d3⟩ := hU.cells
      go_wp2_with fail
      go_ret
      exact ⟨rfl, hcur⟩
    · rw [if_neg hlt'] at hsz'
      clear hlt hlt'
      go_enter Tryd.func9, Tryd.ntmps9
      go_wp2_with (first
        | (go_at_call_of 12 (Value.agg #[Value.int IntKind.i64 b, Value.string p, Value.int IntKind.i64 x, Value.int IntKind.i64 r]); refine (hsz _).mono ?_; rintro e Wk ⟨rfl, hb⟩; replace hcur := hcur.trans (hb.mono hcur.size); replace hT := hT.below hb; replace hU := hU.below hb; obtain ⟨c0, c1, c2, c3⟩ := hT.cells; obtain ⟨d0, d1, d2, d3⟩ := hU.cells; clear hb)
        | (go_at_call_of 12 (Value.agg #[Value.int IntKind.i64 b', Value.string p', Value.int IntKind.i64 x', Value.int IntKind.i64 r']); refine (hsz' _).mono ?_; rintro e Wk ⟨rfl, hb⟩; replace hcur := hcur.trans (hb.mono hcur.size); replace hT := hT.below hb; replace hU := hU.below hb; obtain ⟨c0, c1, c2, c3⟩ := hT.cells; obtain ⟨d0, d1, d2, d3⟩ := hU.cells; clear hb))
      go_ret
      exact ⟨rfl, hcur⟩
  · rw [if_neg hlt] at hsz
    clear hlt
    go_enter Tryd.func9, Tryd.ntmps9
    go_wp2_with (go_at_call_of 12 (Value.agg #[Value.int IntKind.i64 b, Value.string p, Value.int IntKind.i64 x, Value.int IntKind.i64 r]); refine (hsz _).mono ?_; rintro e Wk ⟨rfl, hb⟩; replace hcur := hcur.trans (hb.mono hcur.size); replace hT := hT.below hb; replace hU := hU.below hb; obtain ⟨c0, c1, c2, c3⟩ := hT.cells; obtain ⟨d0, d1, d2, d3⟩ := hU.cells; clear hb)
    go_ret
    exact ⟨rfl, hcur⟩
end Go.Proofs.YtlimgdnaanoloaaDoor

