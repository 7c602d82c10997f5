/- Chapter 8: the least set before a sure triple; the program, and the walk. -/
import Derived.Test.YtpepaobgngighabGreatDoorBL
namespace Go.Proofs.YtpepaobgngighabGreatDoor
open Go.ChangeShapes Go.WideShapes Go.ChangeAt Go.RowKit Go.Shelf Go.Maps
attribute [local go_sem] Oper.semAt_some
set_option maxRecDepth 100000

/-! ### A region that draws its order, within a round of a loop over a function -/
theorem upon_round {F : Fence} {n : Nat} {P : Program} {o : Oper} {a : Act} {next : Act → World → Prop} {Q : Exit → Act → World → Prop} {r : Result Next} (l : Nat) (h : Oper.uponIn F n P o a next Q r) : Oper.uponIn (F.inRound l) n P o a next Q r := h
theorem oper_round {F : Fence} {n : Nat} {P : Program} {o : Oper} {a : Act} {w : World} {K K' : Act → World → Prop} {Q : Exit → Act → World → Prop} (l : Nat) (hro : F.round = none) (hnd : ∀ c, o.op ≠ .defer c) (hK : ∀ a w, K a w → K' a w) (h : o.wpIn F n P a w K Q) : o.wpIn (F.inRound l) n P a w K' Q := by
  obtain ⟨h1, h2⟩ := Oper.wpIn_mono hK h
  refine ⟨h1, ?_⟩
  rw [hro, Oper.semAt_none] at h2
  show Oper.uponIn (F.inRound l) n P o a K' Q ((Oper.semAt (some l) a.eval o).run P w)
  rw [Oper.semAt_some l _ _ hnd]
  exact upon_round l h2
def noDefer (o : Oper) : Bool := match o.op with
  | .defer _ => false
  | _ => true
theorem noDefer_spec {o : Oper} (h : noDefer o = true) : ∀ c, o.op ≠ .defer c := by
  intro c e
  unfold noDefer at h
  rw [e] at h
  cases h
theorem any_round {F : Fence} {n : Nat} {P : Program} {md : Region.Mode} {ops : Array Oper} {Q : Exit → Act → World → Prop} (l : Nat) (hro : F.round = none) (hnd : ops.all noDefer = true) : ∀ (fuel : Nat) (listed : Array Bool) (a : Act) (w : World), wpAnyIn F n P md ops Q fuel listed a w → wpAnyIn (F.inRound l) n P md ops Q fuel listed a w
  | 0, _, _, _, h => h
  | fuel + 1, listed, a, w, h => by
    refine ⟨h.1, fun i hi => ?_⟩
    have h2 := h.2 i hi
    unfold wpOpIn at h2 ⊢
    cases ho : ops[i]? with
    | none => rw [ho] at h2; exact any_round l hro hnd fuel _ a w h2
    | some o =>
      rw [ho] at h2
      have hno : ∀ c, o.op ≠ .defer c := noDefer_spec (by
        rw [Array.all_eq_true] at hnd
        obtain ⟨hl, e⟩ := Array.getElem?_eq_some_iff.1 ho
        rw [← e]
        exact hnd i hl)
      dsimp only at h2 ⊢
      split
      · rename_i hw
        rw [if_pos hw] at h2
        exact oper_round l hro hno (any_round l hro hnd fuel _) h2
      · rename_i hw
        rw [if_neg hw] at h2
        exact ⟨h2.1, any_round l hro hnd fuel _ _ _ h2.2⟩
theorem region_round {F : Fence} {n : Nat} {P : Program} {ops : Array Oper} {Q : Exit → Act → World → Prop} {id : Nat} {a : Act} {w : World} (l : Nat) (hm : P.follows .mixedOrders = true) (hro : F.round = none) (hnd : ops.all noDefer = true) (h : wpAnyIn F n P .any ops Q ops.size (Array.replicate ops.size false) a { w with drawn := w.drawn + 1 }) : (Code.region id ops true).wpIn (F.inRound l) n P Q a w :=
  wpIn_region_any hm (any_round l hro hnd _ _ _ _ h)

theorem boxed_bel {W W' : World} {b : Nat} {t : TypeId} {v : Value} (h : Boxed W b t v) (hb : Below W.heap.size W W') : Boxed W' b t v := h.kept (grown_trans_b (below_self_grown W none) hb) (by simp)
set_option maxHeartbeats 2000000 in
theorem pleast_no (b : Int) (p : ByteArray) (x r : Int) (w : World) {N : Nat} (hL : Laid3 N w) (hE : NoTrip N w) (h : sureT b p x r = false) :
    Calls Tryz.prog 8 #[.agg #[.int .i64 b, .string p, .int .i64 x, .int .i64 r]] w fun e w' => e = .returned (.tuple #[.agg #[.int .i64 0, .string ⟨#[]⟩, .int .i64 0, .int .i64 0], .bool false]) ∧ Below w.heap.size w w' := by
  obtain ⟨hT, hR, hA⟩ := two_trips w b p x r
  have hs := psure22 b p x r _ (hL.below hA hL.lt) (hE.below hA hL.lt)
  rw [h] at hs
  clear h
  go_enter Tryz.func8, Tryz.ntmps8
  go_wp2_with (go_at_call 20; refine hs.mono ?_; rintro e W1 ⟨rfl, hb⟩; have hR1 := hR.below hb hR.lt; obtain ⟨c0, c1, c2, c3⟩ := hR1.cells; obtain ⟨f0, f1, f2, f3⟩ := hR1.frozen)
  obtain ⟨d0, d1, d2, d3⟩ := (set4_trip hR1 0 ⟨#[]⟩ 0 0).cells
  have hB := set4_below (hA.trans (hb.mono hA.size)) (Nat.le_succ _) 0 ⟨#[]⟩ 0 0
  unfold set4 at d0 d1 d2 d3 hB
  exact bodyPost_ret (v := .tuple #[.agg #[.int .i64 0, .string ⟨#[]⟩, .int .i64 0, .int .i64 0], .bool false]) (by simp [results, Tryz.results8, go_sem, d0, d1, d2, d3]) rfl ⟨rfl, hB⟩
set_option maxHeartbeats 20000000 in
theorem pleast_yes_in (b : Nat) (p : ByteArray) (x r : Int) (w : World) {N : Nat} (hL : Laid3 N w) (hE : NoTrip N w) (hb9 : b < 512) (h : sureT (b : Int) p x r = true) :
    CallsIn Fence.wide 3 Tryz.prog 8 #[.agg #[.int .i64 (b : Int), .string p, .int .i64 x, .int .i64 r]] w fun e w' => e = .returned (.tuple #[.agg #[.int .i64 ((leastT (fun n => sureT (n : Int) p x r) b 0 : Nat) : Int), .string p, .int .i64 x, .int .i64 r], .bool true]) ∧ Below w.heap.size w w' := by
  have hs := fun (n : Nat) (X : World) (hX : Below w.heap.size w X) => psure22 (n : Int) p x r X (hL.below hX hL.lt) (hE.below hX hL.lt)
  obtain ⟨hT, hR, hA⟩ := two_trips w (b : Int) p x r
  have hs0 := hs b _ hA
  rw [h] at hs0
  clear h
  rw [← least_top _ hb9]
  generalize hS : (fun n : Nat => sureT (n : Int) p x r) = S
  have hs1 : ∀ (n : Nat) X, Below w.heap.size w X → Calls Tryz.prog 20 #[.agg #[.int .i64 (n : Int), .string p, .int .i64 x, .int .i64 r]] X fun e w' => e = .returned (.bool (S n)) ∧ Below X.heap.size X w' := by rw [← hS]; exact hs
  clear hs hS
  refine callsIn_of_wp_marks Tryz.func8 rfl trivial ?_ rfl
  simp only [Tryz.ntmps8, List.size_toArray, List.length_cons, List.length_nil, Nat.reduceAdd, Nat.reduceSub, Array.replicate_succ, Array.replicate_zero, List.push_toArray, List.append_toArray, List.nil_append, List.cons_append]
  gi_wp2_with (refine ⟨trivial, ?_⟩; first
    | (gi_at_call 20; refine (callsIn_wide.2 hs0).mono ?_; rintro e W1 ⟨rfl, hb⟩; obtain ⟨c0, c1, c2, c3⟩ := (hT.below hb hT.lt).cells)
    | (gi_at_call 21; refine (bmaker_in 2 (b : Int) _).mono ?_; rintro e w' ⟨rfl, rfl⟩))
  have hT1 := hT.below hb hT.lt
  have hR1 := hR.below hb hR.lt
  have hA1 := hA.trans (hb.mono hA.size)
  have hsz := hb.size
  have hlt1 := hR1.lt
  clear hT hR hA hb hs0 c0 c1 c2 c3
  have bN := Boxed.new W1 45 (.int .i64 (b : Int))
  have hAE := hA1.alloc hA1.size (.cells #[.int .i64 (b : Int)] 45)
  have hal : Below W1.heap.size W1 (W1.alloc (.cells #[.int .i64 (b : Int)] 45)) := (Below.refl _ _).alloc (Nat.le_refl _) _
  refine wpIn_rangeFunc_ownF rfl (by omega) (gf := 32) (lb := #[.pointer (some ⟨W1.heap.size, 0, none⟩)]) rfl trivial (enters_of Tryz.func32 (by kernel_rfl) rfl)
    (backward_stops 2 (by omega) W1.heap.size (b : Int) _ (by simp) bN.cell) kpB_t (kpB_b (by simp)) (Below.refl _ _) (fun _ => rfl)
    (fun pre W => Lies W w.heap.size #[.int .i64 ((leastL S b pre : Nat) : Int), .string p, .int .i64 x, .int .i64 r] 25 ∧ Lies W (w.heap.size + 1) #[.int .i64 0, .string ⟨#[]⟩, .int .i64 0, .int .i64 0] 25 ∧ Boxed W W1.heap.size 45 (.int .i64 (b : Int)) ∧ Below w.heap.size w W)
    (fun _ _ _ => False)
    (OwnFrom.and (Own.from (lies_own w.heap.size 25 (fun pre => #[.int .i64 ((leastL S b pre : Nat) : Int), .string p, .int .i64 x, .int .i64 r])) _) (OwnFrom.and (Own.from (lies_own (w.heap.size + 1) 25 (fun _ => #[.int .i64 0, .string ⟨#[]⟩, .int .i64 0, .int .i64 0])) _) (OwnFrom.and (Own.from (boxed_own W1.heap.size 45 (fun _ => .int .i64 (b : Int))) _) (ownFrom_below (Nat.le_refl _) (by simp; omega)))))
    (fun _ _ _ _ _ hs _ _ => hs)
    ⟨hT1.below hal hT1.lt, hR1.below hal hR1.lt, bN, hAE⟩
    (fun z => { tmps := #[.agg #[.int .i64 (b : Int), .string p, .int .i64 x, .int .i64 r], .pointer (some ⟨w.heap.size, 0, none⟩), .pointer (some ⟨w.heap.size + 1, 0, none⟩), .bool false, .int .i64 (z.val : Int), undef, .agg #[.int .i64 (b : Int), .string p, .int .i64 x, .int .i64 r], .bool true, .bool false, undef, .pointer (some ⟨w.heap.size, 0, none⟩), .int .i64 (b : Int), .func (.func 32) #[] #[.pointer (some ⟨W1.heap.size, 0, none⟩)], .int .i64 (z.val : Int), undef, undef, undef, undef, undef, undef, undef, undef, undef, undef, undef], defers := [] }) ?assign ?body ?done ?stop
  case assign =>
    intro l z W K hK
    simp only [encs]
    gi_wp2
    exact hK
  case body =>
    rintro l pre z W ⟨hT, hR, hN, hB⟩ hpl
    have hT : TripAt W w.heap.size ((leastL S b pre : Nat) : Int) p x r := hT
    have hlt := z.isLt
    have z8 : (z.val : Int) ≤ 8 := by omega
    have hl := leastL_lt S hb9 pre
    have hdr := drop_nat hl hlt
    have hon := fun X => only49 z.val (by omega) X
    have hst := fun s X => pstart ((leastL S b pre : Nat) : Int) p x r s X
    obtain ⟨c0, c1, c2, c3⟩ := hT.cells
    have hmix : Tryz.prog.follows .mixedOrders = true := by kernel_rfl
    have h1n : 1 ≤ 3 - 1 - 1 := by omega
    generalize hc : leastL S b pre = c at hT hl hdr hst c0
    generalize hd : dropN c z.val = d at hdr
    have k0 := cellAlloc (.cells #[.int .i64 0, .string ⟨#[]⟩, .int .i64 0, .int .i64 0] 25) c0
    have k1 := cellAlloc (.cells #[.int .i64 0, .string ⟨#[]⟩, .int .i64 0, .int .i64 0] 25) c1
    have k2 := cellAlloc (.cells #[.int .i64 0, .string ⟨#[]⟩, .int .i64 0, .int .i64 0] 25) c2
    have k3 := cellAlloc (.cells #[.int .i64 0, .string ⟨#[]⟩, .int .i64 0, .int .i64 0] 25) c3
    generalize (2 : Nat) ^ z.val = q at hdr hon
    gi_wp2_with fail
    refine wpIn_mono (Q := fun e a' w' => e = .normal ∧ ∃ g5, a' = { tmps := #[.agg #[.int .i64 (b : Int), .string p, .int .i64 x, .int .i64 r], .pointer (some ⟨w.heap.size, 0, none⟩), .pointer (some ⟨w.heap.size + 1, 0, none⟩), .bool false, .int .i64 (z.val : Int), .pointer (some ⟨g5, 0, none⟩), .agg #[.int .i64 (b : Int), .string p, .int .i64 x, .int .i64 r], .bool true, .bool false, undef, .pointer (some ⟨w.heap.size, 0, none⟩), .int .i64 (b : Int), .func (.func 32) #[] #[.pointer (some ⟨W1.heap.size, 0, none⟩)], .int .i64 (z.val : Int), .agg #[.int .i64 (c : Int), .string p, .int .i64 x, .int .i64 r], .pointer (some ⟨w.heap.size, 0, none⟩), .int .i64 (c : Int), .int .i64 (z.val : Int), .int .i64 (q : Int), .int .i64 (d : Int), .agg #[.int .i64 (d : Int), .string p, .int .i64 x, .int .i64 r], undef, undef, undef, undef], defers := [] } ∧ TripAt w' g5 (d : Int) p x r ∧ W.heap.size ≤ g5 ∧ Below W.heap.size W w') ?_ ?_
    · clear hs1 hL hE hR hN hB hpl hl hc hd hT bN hAE hal hT1 hR1 hA1 hsz hlt1 hb9 hlt
      refine region_round l hmix rfl (by first | kernel_rfl | simp [noDefer]) ?_
      change wpAnyIn _ _ _ _ _ _ _ _ _ (World.drew _)
      have hz0 : TripAt (World.drew (World.alloc W (.cells #[.int .i64 0, .string ⟨#[]⟩, .int .i64 0, .int .i64 0] 25))) W.heap.size 0 ⟨#[]⟩ 0 0 := TripAt.new W 0 ⟨#[]⟩ 0 0
      have hW0 : Below W.heap.size W (World.drew (World.alloc W (.cells #[.int .i64 0, .string ⟨#[]⟩, .int .i64 0, .int .i64 0] 25))) := ((Below.refl _ W).alloc (Nat.le_refl _) _).drew
      have hW1 : Below W.heap.size W W.drew := (Below.refl _ W).drew
      refine wpAnyIn_take (i := 1) (v := .pointer (some ⟨w.heap.size, 0, none⟩)) rfl rfl (by kernel_rfl) (by kernel_rfl) (by kernel_rfl) (fun _ _ _ h => by cases h.1) ⟨Or.inl ⟨by rfl, fun w => by first | rfl | go_simp⟩, fun _ => rfl⟩ ?_
      refine wpAnyIn_take (i := 3) (v := .int .i64 (z.val : Int)) rfl rfl (by kernel_rfl) (by kernel_rfl) (by kernel_rfl) (fun _ _ _ h => by cases h.1) ⟨Or.inl ⟨by rfl, fun w => by first | rfl | go_simp⟩, fun _ => rfl⟩ ?_
      refine wpAnyIn_ready (rs := [0, 2, 4, 7]) (by kernel_rfl) (by simp) ?_
      refine AllReadyIn.cons rfl (fun K hK => ?_) (AllReadyIn.cons rfl (fun K hK => ?_) (AllReadyIn.cons rfl (fun K hK => ?_) (AllReadyIn.cons rfl (fun K hK => ?_) AllReadyIn.nil)))
      · go_simp
        refine hK _ _ ?_
        clear hK K
        refine wpAnyIn_ready (rs := [2, 4, 7]) (by kernel_rfl) (by simp) ?_
        refine AllReadyIn.cons rfl (fun K hK => ?_) (AllReadyIn.cons rfl (fun K hK => ?_) (AllReadyIn.cons rfl (fun K hK => ?_) AllReadyIn.nil))
        · go_simp
          refine hK _ _ ?_
          clear hK K
          refine wpAnyIn_ready (rs := [4, 7]) (by kernel_rfl) (by simp) ?_
          refine AllReadyIn.cons rfl (fun K hK => ?_) (AllReadyIn.cons rfl (fun K hK => ?_) AllReadyIn.nil)
          · go_simp
            gi_wp2_with (refine ⟨trivial, ?_⟩; gi_at_call 23; refine (callsIn_wide.2 (hon _)).mono ?_; rintro e w1 ⟨rfl, rfl⟩)
            refine wpAnyIn_take (i := 5) (v := .int .i64 (d : Int)) rfl rfl (by kernel_rfl) (by kernel_rfl) (by kernel_rfl) (fun _ _ _ h => by cases h.1) ⟨Or.inl ⟨by rfl, fun w => by first | rfl | go_simp⟩, fun _ => rfl⟩ ?_
            refine wpAnyIn_ready (rs := [6, 7]) (by kernel_rfl) (by simp) ?_
            refine AllReadyIn.cons rfl (fun K hK => ?_) (AllReadyIn.cons rfl (fun K hK => ?_) AllReadyIn.nil)
            · go_simp
              gi_wp2_with (refine ⟨trivial, ?_⟩; gi_at_call 22; refine (callsIn_wide.2 (hst _ _)).mono ?_; rintro e w2 ⟨rfl, hb2⟩)
              refine wpAnyIn_ready (rs := [7]) (by kernel_rfl) (by simp) ?_
              refine AllReadyIn.cons rfl (fun K hK => ?_) AllReadyIn.nil
              go_simp
              refine hK _ _ ?_
              clear hK K
              refine wpAnyIn_ready (rs := [8]) (by kernel_rfl) (by simp) ?_
              refine AllReadyIn.cons rfl (fun K hK => ?_) AllReadyIn.nil
              go_simp
              refine hK _ _ ?_
              clear hK K
              refine wpAnyIn_done (by kernel_rfl) ?_ _
              exact ⟨rfl, _, rfl, TripAt.new _ (d : Int) p x r, hb2.size, hW1.trans (hb2.alloc hb2.size _)⟩
            · go_simp
              refine hK _ _ ?_
              clear hK K
              refine wpAnyIn_ready (rs := [6]) (by kernel_rfl) (by simp) ?_
              refine AllReadyIn.cons rfl (fun K hK => ?_) AllReadyIn.nil
              go_simp
              gi_wp2_with (refine ⟨trivial, ?_⟩; gi_at_call 22; refine (callsIn_wide.2 (hst _ _)).mono ?_; rintro e w2 ⟨rfl, hb2⟩)
              have hz : TripAt w2 W.heap.size 0 ⟨#[]⟩ 0 0 := TripAt.below hz0 hb2 (by simp)
              obtain ⟨y0, y1, y2, y3⟩ := hz.frozen
              obtain ⟨x0, x1, x2, x3⟩ := hz.cells
              refine wpAnyIn_ready (rs := [8]) (by kernel_rfl) (by simp) ?_
              refine AllReadyIn.cons rfl (fun K hK => ?_) AllReadyIn.nil
              go_simp
              refine hK _ _ ?_
              clear hK K
              refine wpAnyIn_done (by kernel_rfl) ?_ _
              exact ⟨rfl, _, rfl, set4_trip hz (d : Int) p x r, Nat.le_refl _, set4_below (hW0.trans (hb2.mono (by simp))) (Nat.le_refl _) (d : Int) p x r⟩
          · go_simp
            refine hK _ _ ?_
            clear hK K
            refine wpAnyIn_ready (rs := [4]) (by kernel_rfl) (by simp) ?_
            refine AllReadyIn.cons rfl (fun K hK => ?_) AllReadyIn.nil
            go_simp
            gi_wp2_with (refine ⟨trivial, ?_⟩; gi_at_call 23; refine (callsIn_wide.2 (hon _)).mono ?_; rintro e w1 ⟨rfl, rfl⟩)
            refine wpAnyIn_take (i := 5) (v := .int .i64 (d : Int)) rfl rfl (by kernel_rfl) (by kernel_rfl) (by kernel_rfl) (fun _ _ _ h => by cases h.1) ⟨Or.inl ⟨by rfl, fun w => by first | rfl | go_simp⟩, fun _ => rfl⟩ ?_
            refine wpAnyIn_ready (rs := [6]) (by kernel_rfl) (by simp) ?_
            refine AllReadyIn.cons rfl (fun K hK => ?_) AllReadyIn.nil
            go_simp
            gi_wp2_with (refine ⟨trivial, ?_⟩; gi_at_call 22; refine (callsIn_wide.2 (hst _ _)).mono ?_; rintro e w2 ⟨rfl, hb2⟩)
            have hz : TripAt w2 W.heap.size 0 ⟨#[]⟩ 0 0 := TripAt.below hz0 hb2 (by simp)
            obtain ⟨y0, y1, y2, y3⟩ := hz.frozen
            obtain ⟨x0, x1, x2, x3⟩ := hz.cells
            refine wpAnyIn_ready (rs := [8]) (by kernel_rfl) (by simp) ?_
            refine AllReadyIn.cons rfl (fun K hK => ?_) AllReadyIn.nil
            go_simp
            refine hK _ _ ?_
            clear hK K
            refine wpAnyIn_done (by kernel_rfl) ?_ _
            exact ⟨rfl, _, rfl, set4_trip hz (d : Int) p x r, Nat.le_refl _, set4_below (hW0.trans (hb2.mono (by simp))) (Nat.le_refl _) (d : Int) p x r⟩
        · go_simp
          gi_wp2_with (refine ⟨trivial, ?_⟩; gi_at_call 23; refine (callsIn_wide.2 (hon _)).mono ?_; rintro e w1 ⟨rfl, rfl⟩)
          refine wpAnyIn_ready (rs := [2, 7]) (by kernel_rfl) (by simp) ?_
          refine AllReadyIn.cons rfl (fun K hK => ?_) (AllReadyIn.cons rfl (fun K hK => ?_) AllReadyIn.nil)
          · go_simp
            refine hK _ _ ?_
            clear hK K
            refine wpAnyIn_take (i := 5) (v := .int .i64 (d : Int)) rfl rfl (by kernel_rfl) (by kernel_rfl) (by kernel_rfl) (fun _ _ _ h => by cases h.1) ⟨Or.inl ⟨by rfl, fun w => by first | rfl | go_simp⟩, fun _ => rfl⟩ ?_
            refine wpAnyIn_ready (rs := [6, 7]) (by kernel_rfl) (by simp) ?_
            refine AllReadyIn.cons rfl (fun K hK => ?_) (AllReadyIn.cons rfl (fun K hK => ?_) AllReadyIn.nil)
            · go_simp
              gi_wp2_with (refine ⟨trivial, ?_⟩; gi_at_call 22; refine (callsIn_wide.2 (hst _ _)).mono ?_; rintro e w2 ⟨rfl, hb2⟩)
              refine wpAnyIn_ready (rs := [7]) (by kernel_rfl) (by simp) ?_
              refine AllReadyIn.cons rfl (fun K hK => ?_) AllReadyIn.nil
              go_simp
              refine hK _ _ ?_
              clear hK K
              refine wpAnyIn_ready (rs := [8]) (by kernel_rfl) (by simp) ?_
              refine AllReadyIn.cons rfl (fun K hK => ?_) AllReadyIn.nil
              go_simp
              refine hK _ _ ?_
              clear hK K
              refine wpAnyIn_done (by kernel_rfl) ?_ _
              exact ⟨rfl, _, rfl, TripAt.new _ (d : Int) p x r, hb2.size, hW1.trans (hb2.alloc hb2.size _)⟩
            · go_simp
              refine hK _ _ ?_
              clear hK K
              refine wpAnyIn_ready (rs := [6]) (by kernel_rfl) (by simp) ?_
              refine AllReadyIn.cons rfl (fun K hK => ?_) AllReadyIn.nil
              go_simp
              gi_wp2_with (refine ⟨trivial, ?_⟩; gi_at_call 22; refine (callsIn_wide.2 (hst _ _)).mono ?_; rintro e w2 ⟨rfl, hb2⟩)
              have hz : TripAt w2 W.heap.size 0 ⟨#[]⟩ 0 0 := TripAt.below hz0 hb2 (by simp)
              obtain ⟨y0, y1, y2, y3⟩ := hz.frozen
              obtain ⟨x0, x1, x2, x3⟩ := hz.cells
              refine wpAnyIn_ready (rs := [8]) (by kernel_rfl) (by simp) ?_
              refine AllReadyIn.cons rfl (fun K hK => ?_) AllReadyIn.nil
              go_simp
              refine hK _ _ ?_
              clear hK K
              refine wpAnyIn_done (by kernel_rfl) ?_ _
              exact ⟨rfl, _, rfl, set4_trip hz (d : Int) p x r, Nat.le_refl _, set4_below (hW0.trans (hb2.mono (by simp))) (Nat.le_refl _) (d : Int) p x r⟩
          · go_simp
            refine hK _ _ ?_
            clear hK K
            refine wpAnyIn_ready (rs := [2]) (by kernel_rfl) (by simp) ?_
            refine AllReadyIn.cons rfl (fun K hK => ?_) AllReadyIn.nil
            go_simp
            refine hK _ _ ?_
            clear hK K
            refine wpAnyIn_take (i := 5) (v := .int .i64 (d : Int)) rfl rfl (by kernel_rfl) (by kernel_rfl) (by kernel_rfl) (fun _ _ _ h => by cases h.1) ⟨Or.inl ⟨by rfl, fun w => by first | rfl | go_simp⟩, fun _ => rfl⟩ ?_
            refine wpAnyIn_ready (rs := [6]) (by kernel_rfl) (by simp) ?_
            refine AllReadyIn.cons rfl (fun K hK => ?_) AllReadyIn.nil
            go_simp
            gi_wp2_with (refine ⟨trivial, ?_⟩; gi_at_call 22; refine (callsIn_wide.2 (hst _ _)).mono ?_; rintro e w2 ⟨rfl, hb2⟩)
            have hz : TripAt w2 W.heap.size 0 ⟨#[]⟩ 0 0 := TripAt.below hz0 hb2 (by simp)
            obtain ⟨y0, y1, y2, y3⟩ := hz.frozen
            obtain ⟨x0, x1, x2, x3⟩ := hz.cells
            refine wpAnyIn_ready (rs := [8]) (by kernel_rfl) (by simp) ?_
            refine AllReadyIn.cons rfl (fun K hK => ?_) AllReadyIn.nil
            go_simp
            refine hK _ _ ?_
            clear hK K
            refine wpAnyIn_done (by kernel_rfl) ?_ _
            exact ⟨rfl, _, rfl, set4_trip hz (d : Int) p x r, Nat.le_refl _, set4_below (hW0.trans (hb2.mono (by simp))) (Nat.le_refl _) (d : Int) p x r⟩
        · go_simp
          refine hK _ _ ?_
          clear hK K
          refine wpAnyIn_ready (rs := [2, 4]) (by kernel_rfl) (by simp) ?_
          refine AllReadyIn.cons rfl (fun K hK => ?_) (AllReadyIn.cons rfl (fun K hK => ?_) AllReadyIn.nil)
          · go_simp
            refine hK _ _ ?_
            clear hK K
            refine wpAnyIn_ready (rs := [4]) (by kernel_rfl) (by simp) ?_
            refine AllReadyIn.cons rfl (fun K hK => ?_) AllReadyIn.nil
            go_simp
            gi_wp2_with (refine ⟨trivial, ?_⟩; gi_at_call 23; refine (callsIn_wide.2 (hon _)).mono ?_; rintro e w1 ⟨rfl, rfl⟩)
            refine wpAnyIn_take (i := 5) (v := .int .i64 (d : Int)) rfl rfl (by kernel_rfl) (by kernel_rfl) (by kernel_rfl) (fun _ _ _ h => by cases h.1) ⟨Or.inl ⟨by rfl, fun w => by first | rfl | go_simp⟩, fun _ => rfl⟩ ?_
            refine wpAnyIn_ready (rs := [6]) (by kernel_rfl) (by simp) ?_
            refine AllReadyIn.cons rfl (fun K hK => ?_) AllReadyIn.nil
            go_simp
            gi_wp2_with (refine ⟨trivial, ?_⟩; gi_at_call 22; refine (callsIn_wide.2 (hst _ _)).mono ?_; rintro e w2 ⟨rfl, hb2⟩)
            have hz : TripAt w2 W.heap.size 0 ⟨#[]⟩ 0 0 := TripAt.below hz0 hb2 (by simp)
            obtain ⟨y0, y1, y2, y3⟩ := hz.frozen
            obtain ⟨x0, x1, x2, x3⟩ := hz.cells
            refine wpAnyIn_ready (rs := [8]) (by kernel_rfl) (by simp) ?_
            refine AllReadyIn.cons rfl (fun K hK => ?_) AllReadyIn.nil
            go_simp
            refine hK _ _ ?_
            clear hK K
            refine wpAnyIn_done (by kernel_rfl) ?_ _
            exact ⟨rfl, _, rfl, set4_trip hz (d : Int) p x r, Nat.le_refl _, set4_below (hW0.trans (hb2.mono (by simp))) (Nat.le_refl _) (d : Int) p x r⟩
          · go_simp
            gi_wp2_with (refine ⟨trivial, ?_⟩; gi_at_call 23; refine (callsIn_wide.2 (hon _)).mono ?_; rintro e w1 ⟨rfl, rfl⟩)
            refine wpAnyIn_ready (rs := [2]) (by kernel_rfl) (by simp) ?_
            refine AllReadyIn.cons rfl (fun K hK => ?_) AllReadyIn.nil
            go_simp
            refine hK _ _ ?_
            clear hK K
            refine wpAnyIn_take (i := 5) (v := .int .i64 (d : Int)) rfl rfl (by kernel_rfl) (by kernel_rfl) (by kernel_rfl) (fun _ _ _ h => by cases h.1) ⟨Or.inl ⟨by rfl, fun w => by first | rfl | go_simp⟩, fun _ => rfl⟩ ?_
            refine wpAnyIn_ready (rs := [6]) (by kernel_rfl) (by simp) ?_
            refine AllReadyIn.cons rfl (fun K hK => ?_) AllReadyIn.nil
            go_simp
            gi_wp2_with (refine ⟨trivial, ?_⟩; gi_at_call 22; refine (callsIn_wide.2 (hst _ _)).mono ?_; rintro e w2 ⟨rfl, hb2⟩)
            have hz : TripAt w2 W.heap.size 0 ⟨#[]⟩ 0 0 := TripAt.below hz0 hb2 (by simp)
            obtain ⟨y0, y1, y2, y3⟩ := hz.frozen
            obtain ⟨x0, x1, x2, x3⟩ := hz.cells
            refine wpAnyIn_ready (rs := [8]) (by kernel_rfl) (by simp) ?_
            refine AllReadyIn.cons rfl (fun K hK => ?_) AllReadyIn.nil
            go_simp
            refine hK _ _ ?_
            clear hK K
            refine wpAnyIn_done (by kernel_rfl) ?_ _
            exact ⟨rfl, _, rfl, set4_trip hz (d : Int) p x r, Nat.le_refl _, set4_below (hW0.trans (hb2.mono (by simp))) (Nat.le_refl _) (d : Int) p x r⟩
      · go_simp
        refine hK _ _ ?_
        clear hK K
        refine wpAnyIn_ready (rs := [0, 4, 7]) (by kernel_rfl) (by simp) ?_
        refine AllReadyIn.cons rfl (fun K hK => ?_) (AllReadyIn.cons rfl (fun K hK => ?_) (AllReadyIn.cons rfl (fun K hK => ?_) AllReadyIn.nil))
        · go_simp
          refine hK _ _ ?_
          clear hK K
          refine wpAnyIn_ready (rs := [4, 7]) (by kernel_rfl) (by simp) ?_
          refine AllReadyIn.cons rfl (fun K hK => ?_) (AllReadyIn.cons rfl (fun K hK => ?_) AllReadyIn.nil)
          · go_simp
            gi_wp2_with (refine ⟨trivial, ?_⟩; gi_at_call 23; refine (callsIn_wide.2 (hon _)).mono ?_; rintro e w1 ⟨rfl, rfl⟩)
            refine wpAnyIn_take (i := 5) (v := .int .i64 (d : Int)) rfl rfl (by kernel_rfl) (by kernel_rfl) (by kernel_rfl) (fun _ _ _ h => by cases h.1) ⟨Or.inl ⟨by rfl, fun w => by first | rfl | go_simp⟩, fun _ => rfl⟩ ?_
            refine wpAnyIn_ready (rs := [6, 7]) (by kernel_rfl) (by simp) ?_
            refine AllReadyIn.cons rfl (fun K hK => ?_) (AllReadyIn.cons rfl (fun K hK => ?_) AllReadyIn.nil)
            · go_simp
              gi_wp2_with (refine ⟨trivial, ?_⟩; gi_at_call 22; refine (callsIn_wide.2 (hst _ _)).mono ?_; rintro e w2 ⟨rfl, hb2⟩)
              refine wpAnyIn_ready (rs := [7]) (by kernel_rfl) (by simp) ?_
              refine AllReadyIn.cons rfl (fun K hK => ?_) AllReadyIn.nil
              go_simp
              refine hK _ _ ?_
              clear hK K
              refine wpAnyIn_ready (rs := [8]) (by kernel_rfl) (by simp) ?_
              refine AllReadyIn.cons rfl (fun K hK => ?_) AllReadyIn.nil
              go_simp
              refine hK _ _ ?_
              clear hK K
              refine wpAnyIn_done (by kernel_rfl) ?_ _
              exact ⟨rfl, _, rfl, TripAt.new _ (d : Int) p x r, hb2.size, hW1.trans (hb2.alloc hb2.size _)⟩
            · go_simp
              refine hK _ _ ?_
              clear hK K
              refine wpAnyIn_ready (rs := [6]) (by kernel_rfl) (by simp) ?_
              refine AllReadyIn.cons rfl (fun K hK => ?_) AllReadyIn.nil
              go_simp
              gi_wp2_with (refine ⟨trivial, ?_⟩; gi_at_call 22; refine (callsIn_wide.2 (hst _ _)).mono ?_; rintro e w2 ⟨rfl, hb2⟩)
              have hz : TripAt w2 W.heap.size 0 ⟨#[]⟩ 0 0 := TripAt.below hz0 hb2 (by simp)
              obtain ⟨y0, y1, y2, y3⟩ := hz.frozen
              obtain ⟨x0, x1, x2, x3⟩ := hz.cells
              refine wpAnyIn_ready (rs := [8]) (by kernel_rfl) (by simp) ?_
              refine AllReadyIn.cons rfl (fun K hK => ?_) AllReadyIn.nil
              go_simp
              refine hK _ _ ?_
              clear hK K
              refine wpAnyIn_done (by kernel_rfl) ?_ _
              exact ⟨rfl, _, rfl, set4_trip hz (d : Int) p x r, Nat.le_refl _, set4_below (hW0.trans (hb2.mono (by simp))) (Nat.le_refl _) (d : Int) p x r⟩
          · go_simp
            refine hK _ _ ?_
            clear hK K
            refine wpAnyIn_ready (rs := [4]) (by kernel_rfl) (by simp) ?_
            refine AllReadyIn.cons rfl (fun K hK => ?_) AllReadyIn.nil
            go_simp
            gi_wp2_with (refine ⟨trivial, ?_⟩; gi_at_call 23; refine (callsIn_wide.2 (hon _)).mono ?_; rintro e w1 ⟨rfl, rfl⟩)
            refine wpAnyIn_take (i := 5) (v := .int .i64 (d : Int)) rfl rfl (by kernel_rfl) (by kernel_rfl) (by kernel_rfl) (fun _ _ _ h => by cases h.1) ⟨Or.inl ⟨by rfl, fun w => by first | rfl | go_simp⟩, fun _ => rfl⟩ ?_
            refine wpAnyIn_ready (rs := [6]) (by kernel_rfl) (by simp) ?_
            refine AllReadyIn.cons rfl (fun K hK => ?_) AllReadyIn.nil
            go_simp
            gi_wp2_with (refine ⟨trivial, ?_⟩; gi_at_call 22; refine (callsIn_wide.2 (hst _ _)).mono ?_; rintro e w2 ⟨rfl, hb2⟩)
            have hz : TripAt w2 W.heap.size 0 ⟨#[]⟩ 0 0 := TripAt.below hz0 hb2 (by simp)
            obtain ⟨y0, y1, y2, y3⟩ := hz.frozen
            obtain ⟨x0, x1, x2, x3⟩ := hz.cells
            refine wpAnyIn_ready (rs := [8]) (by kernel_rfl) (by simp) ?_
            refine AllReadyIn.cons rfl (fun K hK => ?_) AllReadyIn.nil
            go_simp
            refine hK _ _ ?_
            clear hK K
            refine wpAnyIn_done (by kernel_rfl) ?_ _
            exact ⟨rfl, _, rfl, set4_trip hz (d : Int) p x r, Nat.le_refl _, set4_below (hW0.trans (hb2.mono (by simp))) (Nat.le_refl _) (d : Int) p x r⟩
        · go_simp
          gi_wp2_with (refine ⟨trivial, ?_⟩; gi_at_call 23; refine (callsIn_wide.2 (hon _)).mono ?_; rintro e w1 ⟨rfl, rfl⟩)
          refine wpAnyIn_take (i := 5) (v := .int .i64 (d : Int)) rfl rfl (by kernel_rfl) (by kernel_rfl) (by kernel_rfl) (fun _ _ _ h => by cases h.1) ⟨Or.inl ⟨by rfl, fun w => by first | rfl | go_simp⟩, fun _ => rfl⟩ ?_
          refine wpAnyIn_ready (rs := [0, 7]) (by kernel_rfl) (by simp) ?_
          refine AllReadyIn.cons rfl (fun K hK => ?_) (AllReadyIn.cons rfl (fun K hK => ?_) AllReadyIn.nil)
          · go_simp
            refine hK _ _ ?_
            clear hK K
            refine wpAnyIn_ready (rs := [6, 7]) (by kernel_rfl) (by simp) ?_
            refine AllReadyIn.cons rfl (fun K hK => ?_) (AllReadyIn.cons rfl (fun K hK => ?_) AllReadyIn.nil)
            · go_simp
              gi_wp2_with (refine ⟨trivial, ?_⟩; gi_at_call 22; refine (callsIn_wide.2 (hst _ _)).mono ?_; rintro e w2 ⟨rfl, hb2⟩)
              refine wpAnyIn_ready (rs := [7]) (by kernel_rfl) (by simp) ?_
              refine AllReadyIn.cons rfl (fun K hK => ?_) AllReadyIn.nil
              go_simp
              refine hK _ _ ?_
              clear hK K
              refine wpAnyIn_ready (rs := [8]) (by kernel_rfl) (by simp) ?_
              refine AllReadyIn.cons rfl (fun K hK => ?_) AllReadyIn.nil
              go_simp
              refine hK _ _ ?_
              clear hK K
              refine wpAnyIn_done (by kernel_rfl) ?_ _
              exact ⟨rfl, _, rfl, TripAt.new _ (d : Int) p x r, hb2.size, hW1.trans (hb2.alloc hb2.size _)⟩
            · go_simp
              refine hK _ _ ?_
              clear hK K
              refine wpAnyIn_ready (rs := [6]) (by kernel_rfl) (by simp) ?_
              refine AllReadyIn.cons rfl (fun K hK => ?_) AllReadyIn.nil
              go_simp
              gi_wp2_with (refine ⟨trivial, ?_⟩; gi_at_call 22; refine (callsIn_wide.2 (hst _ _)).mono ?_; rintro e w2 ⟨rfl, hb2⟩)
              have hz : TripAt w2 W.heap.size 0 ⟨#[]⟩ 0 0 := TripAt.below hz0 hb2 (by simp)
              obtain ⟨y0, y1, y2, y3⟩ := hz.frozen
              obtain ⟨x0, x1, x2, x3⟩ := hz.cells
              refine wpAnyIn_ready (rs := [8]) (by kernel_rfl) (by simp) ?_
              refine AllReadyIn.cons rfl (fun K hK => ?_) AllReadyIn.nil
              go_simp
              refine hK _ _ ?_
              clear hK K
              refine wpAnyIn_done (by kernel_rfl) ?_ _
              exact ⟨rfl, _, rfl, set4_trip hz (d : Int) p x r, Nat.le_refl _, set4_below (hW0.trans (hb2.mono (by simp))) (Nat.le_refl _) (d : Int) p x r⟩
          · go_simp
            refine hK _ _ ?_
            clear hK K
            refine wpAnyIn_ready (rs := [0]) (by kernel_rfl) (by simp) ?_
            refine AllReadyIn.cons rfl (fun K hK => ?_) AllReadyIn.nil
            go_simp
            refine hK _ _ ?_
            clear hK K
            refine wpAnyIn_ready (rs := [6]) (by kernel_rfl) (by simp) ?_
            refine AllReadyIn.cons rfl (fun K hK => ?_) AllReadyIn.nil
            go_simp
            gi_wp2_with (refine ⟨trivial, ?_⟩; gi_at_call 22; refine (callsIn_wide.2 (hst _ _)).mono ?_; rintro e w2 ⟨rfl, hb2⟩)
            have hz : TripAt w2 W.heap.size 0 ⟨#[]⟩ 0 0 := TripAt.below hz0 hb2 (by simp)
            obtain ⟨y0, y1, y2, y3⟩ := hz.frozen
            obtain ⟨x0, x1, x2, x3⟩ := hz.cells
            refine wpAnyIn_ready (rs := [8]) (by kernel_rfl) (by simp) ?_
            refine AllReadyIn.cons rfl (fun K hK => ?_) AllReadyIn.nil
            go_simp
            refine hK _ _ ?_
            clear hK K
            refine wpAnyIn_done (by kernel_rfl) ?_ _
            exact ⟨rfl, _, rfl, set4_trip hz (d : Int) p x r, Nat.le_refl _, set4_below (hW0.trans (hb2.mono (by simp))) (Nat.le_refl _) (d : Int) p x r⟩
        · go_simp
          refine hK _ _ ?_
          clear hK K
          refine wpAnyIn_ready (rs := [0, 4]) (by kernel_rfl) (by simp) ?_
          refine AllReadyIn.cons rfl (fun K hK => ?_) (AllReadyIn.cons rfl (fun K hK => ?_) AllReadyIn.nil)
          · go_simp
            refine hK _ _ ?_
            clear hK K
            refine wpAnyIn_ready (rs := [4]) (by kernel_rfl) (by simp) ?_
            refine AllReadyIn.cons rfl (fun K hK => ?_) AllReadyIn.nil
            go_simp
            gi_wp2_with (refine ⟨trivial, ?_⟩; gi_at_call 23; refine (callsIn_wide.2 (hon _)).mono ?_; rintro e w1 ⟨rfl, rfl⟩)
            refine wpAnyIn_take (i := 5) (v := .int .i64 (d : Int)) rfl rfl (by kernel_rfl) (by kernel_rfl) (by kernel_rfl) (fun _ _ _ h => by cases h.1) ⟨Or.inl ⟨by rfl, fun w => by first | rfl | go_simp⟩, fun _ => rfl⟩ ?_
            refine wpAnyIn_ready (rs := [6]) (by kernel_rfl) (by simp) ?_
            refine AllReadyIn.cons rfl (fun K hK => ?_) AllReadyIn.nil
            go_simp
            gi_wp2_with (refine ⟨trivial, ?_⟩; gi_at_call 22; refine (callsIn_wide.2 (hst _ _)).mono ?_; rintro e w2 ⟨rfl, hb2⟩)
            have hz : TripAt w2 W.heap.size 0 ⟨#[]⟩ 0 0 := TripAt.below hz0 hb2 (by simp)
            obtain ⟨y0, y1, y2, y3⟩ := hz.frozen
            obtain ⟨x0, x1, x2, x3⟩ := hz.cells
            refine wpAnyIn_ready (rs := [8]) (by kernel_rfl) (by simp) ?_
            refine AllReadyIn.cons rfl (fun K hK => ?_) AllReadyIn.nil
            go_simp
            refine hK _ _ ?_
            clear hK K
            refine wpAnyIn_done (by kernel_rfl) ?_ _
            exact ⟨rfl, _, rfl, set4_trip hz (d : Int) p x r, Nat.le_refl _, set4_below (hW0.trans (hb2.mono (by simp))) (Nat.le_refl _) (d : Int) p x r⟩
          · go_simp
            gi_wp2_with (refine ⟨trivial, ?_⟩; gi_at_call 23; refine (callsIn_wide.2 (hon _)).mono ?_; rintro e w1 ⟨rfl, rfl⟩)
            refine wpAnyIn_take (i := 5) (v := .int .i64 (d : Int)) rfl rfl (by kernel_rfl) (by kernel_rfl) (by kernel_rfl) (fun _ _ _ h => by cases h.1) ⟨Or.inl ⟨by rfl, fun w => by first | rfl | go_simp⟩, fun _ => rfl⟩ ?_
            refine wpAnyIn_ready (rs := [0]) (by kernel_rfl) (by simp) ?_
            refine AllReadyIn.cons rfl (fun K hK => ?_) AllReadyIn.nil
            go_simp
            refine hK _ _ ?_
            clear hK K
            refine wpAnyIn_ready (rs := [6]) (by kernel_rfl) (by simp) ?_
            refine AllReadyIn.cons rfl (fun K hK => ?_) AllReadyIn.nil
            go_simp
            gi_wp2_with (refine ⟨trivial, ?_⟩; gi_at_call 22; refine (callsIn_wide.2 (hst _ _)).mono ?_; rintro e w2 ⟨rfl, hb2⟩)
            have hz : TripAt w2 W.heap.size 0 ⟨#[]⟩ 0 0 := TripAt.below hz0 hb2 (by simp)
            obtain ⟨y0, y1, y2, y3⟩ := hz.frozen
            obtain ⟨x0, x1, x2, x3⟩ := hz.cells
            refine wpAnyIn_ready (rs := [8]) (by kernel_rfl) (by simp) ?_
            refine AllReadyIn.cons rfl (fun K hK => ?_) AllReadyIn.nil
            go_simp
            refine hK _ _ ?_
            clear hK K
            refine wpAnyIn_done (by kernel_rfl) ?_ _
            exact ⟨rfl, _, rfl, set4_trip hz (d : Int) p x r, Nat.le_refl _, set4_below (hW0.trans (hb2.mono (by simp))) (Nat.le_refl _) (d : Int) p x r⟩
      · go_simp
        gi_wp2_with (refine ⟨trivial, ?_⟩; gi_at_call 23; refine (callsIn_wide.2 (hon _)).mono ?_; rintro e w1 ⟨rfl, rfl⟩)
        refine wpAnyIn_ready (rs := [0, 2, 7]) (by kernel_rfl) (by simp) ?_
        refine AllReadyIn.cons rfl (fun K hK => ?_) (AllReadyIn.cons rfl (fun K hK => ?_) (AllReadyIn.cons rfl (fun K hK => ?_) AllReadyIn.nil))
        · go_simp
          refine hK _ _ ?_
          clear hK K
          refine wpAnyIn_ready (rs := [2, 7]) (by kernel_rfl) (by simp) ?_
          refine AllReadyIn.cons rfl (fun K hK => ?_) (AllReadyIn.cons rfl (fun K hK => ?_) AllReadyIn.nil)
          · go_simp
            refine hK _ _ ?_
            clear hK K
            refine wpAnyIn_take (i := 5) (v := .int .i64 (d : Int)) rfl rfl (by kernel_rfl) (by kernel_rfl) (by kernel_rfl) (fun _ _ _ h => by cases h.1) ⟨Or.inl ⟨by rfl, fun w => by first | rfl | go_simp⟩, fun _ => rfl⟩ ?_
            refine wpAnyIn_ready (rs := [6, 7]) (by kernel_rfl) (by simp) ?_
            refine AllReadyIn.cons rfl (fun K hK => ?_) (AllReadyIn.cons rfl (fun K hK => ?_) AllReadyIn.nil)
            · go_simp
              gi_wp2_with (refine ⟨trivial, ?_⟩; gi_at_call 22; refine (callsIn_wide.2 (hst _ _)).mono ?_; rintro e w2 ⟨rfl, hb2⟩)
              refine wpAnyIn_ready (rs := [7]) (by kernel_rfl) (by simp) ?_
              refine AllReadyIn.cons rfl (fun K hK => ?_) AllReadyIn.nil
              go_simp
              refine hK _ _ ?_
              clear hK K
              refine wpAnyIn_ready (rs := [8]) (by kernel_rfl) (by simp) ?_
              refine AllReadyIn.cons rfl (fun K hK => ?_) AllReadyIn.nil
              go_simp
              refine hK _ _ ?_
              clear hK K
              refine wpAnyIn_done (by kernel_rfl) ?_ _
              exact ⟨rfl, _, rfl, TripAt.new _ (d : Int) p x r, hb2.size, hW1.trans (hb2.alloc hb2.size _)⟩
            · go_simp
              refine hK _ _ ?_
              clear hK K
              refine wpAnyIn_ready (rs := [6]) (by kernel_rfl) (by simp) ?_
              refine AllReadyIn.cons rfl (fun K hK => ?_) AllReadyIn.nil
              go_simp
              gi_wp2_with (refine ⟨trivial, ?_⟩; gi_at_call 22; refine (callsIn_wide.2 (hst _ _)).mono ?_; rintro e w2 ⟨rfl, hb2⟩)
              have hz : TripAt w2 W.heap.size 0 ⟨#[]⟩ 0 0 := TripAt.below hz0 hb2 (by simp)
              obtain ⟨y0, y1, y2, y3⟩ := hz.frozen
              obtain ⟨x0, x1, x2, x3⟩ := hz.cells
              refine wpAnyIn_ready (rs := [8]) (by kernel_rfl) (by simp) ?_
              refine AllReadyIn.cons rfl (fun K hK => ?_) AllReadyIn.nil
              go_simp
              refine hK _ _ ?_
              clear hK K
              refine wpAnyIn_done (by kernel_rfl) ?_ _
              exact ⟨rfl, _, rfl, set4_trip hz (d : Int) p x r, Nat.le_refl _, set4_below (hW0.trans (hb2.mono (by simp))) (Nat.le_refl _) (d : Int) p x r⟩
          · go_simp
            refine hK _ _ ?_
            clear hK K
            refine wpAnyIn_ready (rs := [2]) (by kernel_rfl) (by simp) ?_
            refine AllReadyIn.cons rfl (fun K hK => ?_) AllReadyIn.nil
            go_simp
            refine hK _ _ ?_
            clear hK K
            refine wpAnyIn_take (i := 5) (v := .int .i64 (d : Int)) rfl rfl (by kernel_rfl) (by kernel_rfl) (by kernel_rfl) (fun _ _ _ h => by cases h.1) ⟨Or.inl ⟨by rfl, fun w => by first | rfl | go_simp⟩, fun _ => rfl⟩ ?_
            refine wpAnyIn_ready (rs := [6]) (by kernel_rfl) (by simp) ?_
            refine AllReadyIn.cons rfl (fun K hK => ?_) AllReadyIn.nil
            go_simp
            gi_wp2_with (refine ⟨trivial, ?_⟩; gi_at_call 22; refine (callsIn_wide.2 (hst _ _)).mono ?_; rintro e w2 ⟨rfl, hb2⟩)
            have hz : TripAt w2 W.heap.size 0 ⟨#[]⟩ 0 0 := TripAt.below hz0 hb2 (by simp)
            obtain ⟨y0, y1, y2, y3⟩ := hz.frozen
            obtain ⟨x0, x1, x2, x3⟩ := hz.cells
            refine wpAnyIn_ready (rs := [8]) (by kernel_rfl) (by simp) ?_
            refine AllReadyIn.cons rfl (fun K hK => ?_) AllReadyIn.nil
            go_simp
            refine hK _ _ ?_
            clear hK K
            refine wpAnyIn_done (by kernel_rfl) ?_ _
            exact ⟨rfl, _, rfl, set4_trip hz (d : Int) p x r, Nat.le_refl _, set4_below (hW0.trans (hb2.mono (by simp))) (Nat.le_refl _) (d : Int) p x r⟩
        · go_simp
          refine hK _ _ ?_
          clear hK K
          refine wpAnyIn_take (i := 5) (v := .int .i64 (d : Int)) rfl rfl (by kernel_rfl) (by kernel_rfl) (by kernel_rfl) (fun _ _ _ h => by cases h.1) ⟨Or.inl ⟨by rfl, fun w => by first | rfl | go_simp⟩, fun _ => rfl⟩ ?_
          refine wpAnyIn_ready (rs := [0, 7]) (by kernel_rfl) (by simp) ?_
          refine AllReadyIn.cons rfl (fun K hK => ?_) (AllReadyIn.cons rfl (fun K hK => ?_) AllReadyIn.nil)
          · go_simp
            refine hK _ _ ?_
            clear hK K
            refine wpAnyIn_ready (rs := [6, 7]) (by kernel_rfl) (by simp) ?_
            refine AllReadyIn.cons rfl (fun K hK => ?_) (AllReadyIn.cons rfl (fun K hK => ?_) AllReadyIn.nil)
            · go_simp
              gi_wp2_with (refine ⟨trivial, ?_⟩; gi_at_call 22; refine (callsIn_wide.2 (hst _ _)).mono ?_; rintro e w2 ⟨rfl, hb2⟩)
              refine wpAnyIn_ready (rs := [7]) (by kernel_rfl) (by simp) ?_
              refine AllReadyIn.cons rfl (fun K hK => ?_) AllReadyIn.nil
              go_simp
              refine hK _ _ ?_
              clear hK K
              refine wpAnyIn_ready (rs := [8]) (by kernel_rfl) (by simp) ?_
              refine AllReadyIn.cons rfl (fun K hK => ?_) AllReadyIn.nil
              go_simp
              refine hK _ _ ?_
              clear hK K
              refine wpAnyIn_done (by kernel_rfl) ?_ _
              exact ⟨rfl, _, rfl, TripAt.new _ (d : Int) p x r, hb2.size, hW1.trans (hb2.alloc hb2.size _)⟩
            · go_simp
              refine hK _ _ ?_
              clear hK K
              refine wpAnyIn_ready (rs := [6]) (by kernel_rfl) (by simp) ?_
              refine AllReadyIn.cons rfl (fun K hK => ?_) AllReadyIn.nil
              go_simp
              gi_wp2_with (refine ⟨trivial, ?_⟩; gi_at_call 22; refine (callsIn_wide.2 (hst _ _)).mono ?_; rintro e w2 ⟨rfl, hb2⟩)
              have hz : TripAt w2 W.heap.size 0 ⟨#[]⟩ 0 0 := TripAt.below hz0 hb2 (by simp)
              obtain ⟨y0, y1, y2, y3⟩ := hz.frozen
              obtain ⟨x0, x1, x2, x3⟩ := hz.cells
              refine wpAnyIn_ready (rs := [8]) (by kernel_rfl) (by simp) ?_
              refine AllReadyIn.cons rfl (fun K hK => ?_) AllReadyIn.nil
              go_simp
              refine hK _ _ ?_
              clear hK K
              refine wpAnyIn_done (by kernel_rfl) ?_ _
              exact ⟨rfl, _, rfl, set4_trip hz (d : Int) p x r, Nat.le_refl _, set4_below (hW0.trans (hb2.mono (by simp))) (Nat.le_refl _) (d : Int) p x r⟩
          · go_simp
            refine hK _ _ ?_
            clear hK K
            refine wpAnyIn_ready (rs := [0]) (by kernel_rfl) (by simp) ?_
            refine AllReadyIn.cons rfl (fun K hK => ?_) AllReadyIn.nil
            go_simp
            refine hK _ _ ?_
            clear hK K
            refine wpAnyIn_ready (rs := [6]) (by kernel_rfl) (by simp) ?_
            refine AllReadyIn.cons rfl (fun K hK => ?_) AllReadyIn.nil
            go_simp
            gi_wp2_with (refine ⟨trivial, ?_⟩; gi_at_call 22; refine (callsIn_wide.2 (hst _ _)).mono ?_; rintro e w2 ⟨rfl, hb2⟩)
            have hz : TripAt w2 W.heap.size 0 ⟨#[]⟩ 0 0 := TripAt.below hz0 hb2 (by simp)
            obtain ⟨y0, y1, y2, y3⟩ := hz.frozen
            obtain ⟨x0, x1, x2, x3⟩ := hz.cells
            refine wpAnyIn_ready (rs := [8]) (by kernel_rfl) (by simp) ?_
            refine AllReadyIn.cons rfl (fun K hK => ?_) AllReadyIn.nil
            go_simp
            refine hK _ _ ?_
            clear hK K
            refine wpAnyIn_done (by kernel_rfl) ?_ _
            exact ⟨rfl, _, rfl, set4_trip hz (d : Int) p x r, Nat.le_refl _, set4_below (hW0.trans (hb2.mono (by simp))) (Nat.le_refl _) (d : Int) p x r⟩
        · go_simp
          refine hK _ _ ?_
          clear hK K
          refine wpAnyIn_ready (rs := [0, 2]) (by kernel_rfl) (by simp) ?_
          refine AllReadyIn.cons rfl (fun K hK => ?_) (AllReadyIn.cons rfl (fun K hK => ?_) AllReadyIn.nil)
          · go_simp
            refine hK _ _ ?_
            clear hK K
            refine wpAnyIn_ready (rs := [2]) (by kernel_rfl) (by simp) ?_
            refine AllReadyIn.cons rfl (fun K hK => ?_) AllReadyIn.nil
            go_simp
            refine hK _ _ ?_
            clear hK K
            refine wpAnyIn_take (i := 5) (v := .int .i64 (d : Int)) rfl rfl (by kernel_rfl) (by kernel_rfl) (by kernel_rfl) (fun _ _ _ h => by cases h.1) ⟨Or.inl ⟨by rfl, fun w => by first | rfl | go_simp⟩, fun _ => rfl⟩ ?_
            refine wpAnyIn_ready (rs := [6]) (by kernel_rfl) (by simp) ?_
            refine AllReadyIn.cons rfl (fun K hK => ?_) AllReadyIn.nil
            go_simp
            gi_wp2_with (refine ⟨trivial, ?_⟩; gi_at_call 22; refine (callsIn_wide.2 (hst _ _)).mono ?_; rintro e w2 ⟨rfl, hb2⟩)
            have hz : TripAt w2 W.heap.size 0 ⟨#[]⟩ 0 0 := TripAt.below hz0 hb2 (by simp)
            obtain ⟨y0, y1, y2, y3⟩ := hz.frozen
            obtain ⟨x0, x1, x2, x3⟩ := hz.cells
            refine wpAnyIn_ready (rs := [8]) (by kernel_rfl) (by simp) ?_
            refine AllReadyIn.cons rfl (fun K hK => ?_) AllReadyIn.nil
            go_simp
            refine hK _ _ ?_
            clear hK K
            refine wpAnyIn_done (by kernel_rfl) ?_ _
            exact ⟨rfl, _, rfl, set4_trip hz (d : Int) p x r, Nat.le_refl _, set4_below (hW0.trans (hb2.mono (by simp))) (Nat.le_refl _) (d : Int) p x r⟩
          · go_simp
            refine hK _ _ ?_
            clear hK K
            refine wpAnyIn_take (i := 5) (v := .int .i64 (d : Int)) rfl rfl (by kernel_rfl) (by kernel_rfl) (by kernel_rfl) (fun _ _ _ h => by cases h.1) ⟨Or.inl ⟨by rfl, fun w => by first | rfl | go_simp⟩, fun _ => rfl⟩ ?_
            refine wpAnyIn_ready (rs := [0]) (by kernel_rfl) (by simp) ?_
            refine AllReadyIn.cons rfl (fun K hK => ?_) AllReadyIn.nil
            go_simp
            refine hK _ _ ?_
            clear hK K
            refine wpAnyIn_ready (rs := [6]) (by kernel_rfl) (by simp) ?_
            refine AllReadyIn.cons rfl (fun K hK => ?_) AllReadyIn.nil
            go_simp
            gi_wp2_with (refine ⟨trivial, ?_⟩; gi_at_call 22; refine (callsIn_wide.2 (hst _ _)).mono ?_; rintro e w2 ⟨rfl, hb2⟩)
            have hz : TripAt w2 W.heap.size 0 ⟨#[]⟩ 0 0 := TripAt.below hz0 hb2 (by simp)
            obtain ⟨y0, y1, y2, y3⟩ := hz.frozen
            obtain ⟨x0, x1, x2, x3⟩ := hz.cells
            refine wpAnyIn_ready (rs := [8]) (by kernel_rfl) (by simp) ?_
            refine AllReadyIn.cons rfl (fun K hK => ?_) AllReadyIn.nil
            go_simp
            refine hK _ _ ?_
            clear hK K
            refine wpAnyIn_done (by kernel_rfl) ?_ _
            exact ⟨rfl, _, rfl, set4_trip hz (d : Int) p x r, Nat.le_refl _, set4_below (hW0.trans (hb2.mono (by simp))) (Nat.le_refl _) (d : Int) p x r⟩
      · go_simp
        refine hK _ _ ?_
        clear hK K
        refine wpAnyIn_ready (rs := [0, 2, 4]) (by kernel_rfl) (by simp) ?_
        refine AllReadyIn.cons rfl (fun K hK => ?_) (AllReadyIn.cons rfl (fun K hK => ?_) (AllReadyIn.cons rfl (fun K hK => ?_) AllReadyIn.nil))
        · go_simp
          refine hK _ _ ?_
          clear hK K
          refine wpAnyIn_ready (rs := [2, 4]) (by kernel_rfl) (by simp) ?_
          refine AllReadyIn.cons rfl (fun K hK => ?_) (AllReadyIn.cons rfl (fun K hK => ?_) AllReadyIn.nil)
          · go_simp
            refine hK _ _ ?_
            clear hK K
            refine wpAnyIn_ready (rs := [4]) (by kernel_rfl) (by simp) ?_
            refine AllReadyIn.cons rfl (fun K hK => ?_) AllReadyIn.nil
            go_simp
            gi_wp2_with (refine ⟨trivial, ?_⟩; gi_at_call 23; refine (callsIn_wide.2 (hon _)).mono ?_; rintro e w1 ⟨rfl, rfl⟩)
            refine wpAnyIn_take (i := 5) (v := .int .i64 (d : Int)) rfl rfl (by kernel_rfl) (by kernel_rfl) (by kernel_rfl) (fun _ _ _ h => by cases h.1) ⟨Or.inl ⟨by rfl, fun w => by first | rfl | go_simp⟩, fun _ => rfl⟩ ?_
            refine wpAnyIn_ready (rs := [6]) (by kernel_rfl) (by simp) ?_
            refine AllReadyIn.cons rfl (fun K hK => ?_) AllReadyIn.nil
            go_simp
            gi_wp2_with (refine ⟨trivial, ?_⟩; gi_at_call 22; refine (callsIn_wide.2 (hst _ _)).mono ?_; rintro e w2 ⟨rfl, hb2⟩)
            have hz : TripAt w2 W.heap.size 0 ⟨#[]⟩ 0 0 := TripAt.below hz0 hb2 (by simp)
            obtain ⟨y0, y1, y2, y3⟩ := hz.frozen
            obtain ⟨x0, x1, x2, x3⟩ := hz.cells
            refine wpAnyIn_ready (rs := [8]) (by kernel_rfl) (by simp) ?_
            refine AllReadyIn.cons rfl (fun K hK => ?_) AllReadyIn.nil
            go_simp
            refine hK _ _ ?_
            clear hK K
            refine wpAnyIn_done (by kernel_rfl) ?_ _
            exact ⟨rfl, _, rfl, set4_trip hz (d : Int) p x r, Nat.le_refl _, set4_below (hW0.trans (hb2.mono (by simp))) (Nat.le_refl _) (d : Int) p x r⟩
          · go_simp
            gi_wp2_with (refine ⟨trivial, ?_⟩; gi_at_call 23; refine (callsIn_wide.2 (hon _)).mono ?_; rintro e w1 ⟨rfl, rfl⟩)
            refine wpAnyIn_ready (rs := [2]) (by kernel_rfl) (by simp) ?_
            refine AllReadyIn.cons rfl (fun K hK => ?_) AllReadyIn.nil
            go_simp
            refine hK _ _ ?_
            clear hK K
            refine wpAnyIn_take (i := 5) (v := .int .i64 (d : Int)) rfl rfl (by kernel_rfl) (by kernel_rfl) (by kernel_rfl) (fun _ _ _ h => by cases h.1) ⟨Or.inl ⟨by rfl, fun w => by first | rfl | go_simp⟩, fun _ => rfl⟩ ?_
            refine wpAnyIn_ready (rs := [6]) (by kernel_rfl) (by simp) ?_
            refine AllReadyIn.cons rfl (fun K hK => ?_) AllReadyIn.nil
            go_simp
            gi_wp2_with (refine ⟨trivial, ?_⟩; gi_at_call 22; refine (callsIn_wide.2 (hst _ _)).mono ?_; rintro e w2 ⟨rfl, hb2⟩)
            have hz : TripAt w2 W.heap.size 0 ⟨#[]⟩ 0 0 := TripAt.below hz0 hb2 (by simp)
            obtain ⟨y0, y1, y2, y3⟩ := hz.frozen
            obtain ⟨x0, x1, x2, x3⟩ := hz.cells
            refine wpAnyIn_ready (rs := [8]) (by kernel_rfl) (by simp) ?_
            refine AllReadyIn.cons rfl (fun K hK => ?_) AllReadyIn.nil
            go_simp
            refine hK _ _ ?_
            clear hK K
            refine wpAnyIn_done (by kernel_rfl) ?_ _
            exact ⟨rfl, _, rfl, set4_trip hz (d : Int) p x r, Nat.le_refl _, set4_below (hW0.trans (hb2.mono (by simp))) (Nat.le_refl _) (d : Int) p x r⟩
        · go_simp
          refine hK _ _ ?_
          clear hK K
          refine wpAnyIn_ready (rs := [0, 4]) (by kernel_rfl) (by simp) ?_
          refine AllReadyIn.cons rfl (fun K hK => ?_) (AllReadyIn.cons rfl (fun K hK => ?_) AllReadyIn.nil)
          · go_simp
            refine hK _ _ ?_
            clear hK K
            refine wpAnyIn_ready (rs := [4]) (by kernel_rfl) (by simp) ?_
            refine AllReadyIn.cons rfl (fun K hK => ?_) AllReadyIn.nil
            go_simp
            gi_wp2_with (refine ⟨trivial, ?_⟩; gi_at_call 23; refine (callsIn_wide.2 (hon _)).mono ?_; rintro e w1 ⟨rfl, rfl⟩)
            refine wpAnyIn_take (i := 5) (v := .int .i64 (d : Int)) rfl rfl (by kernel_rfl) (by kernel_rfl) (by kernel_rfl) (fun _ _ _ h => by cases h.1) ⟨Or.inl ⟨by rfl, fun w => by first | rfl | go_simp⟩, fun _ => rfl⟩ ?_
            refine wpAnyIn_ready (rs := [6]) (by kernel_rfl) (by simp) ?_
            refine AllReadyIn.cons rfl (fun K hK => ?_) AllReadyIn.nil
            go_simp
            gi_wp2_with (refine ⟨trivial, ?_⟩; gi_at_call 22; refine (callsIn_wide.2 (hst _ _)).mono ?_; rintro e w2 ⟨rfl, hb2⟩)
            have hz : TripAt w2 W.heap.size 0 ⟨#[]⟩ 0 0 := TripAt.below hz0 hb2 (by simp)
            obtain ⟨y0, y1, y2, y3⟩ := hz.frozen
            obtain ⟨x0, x1, x2, x3⟩ := hz.cells
            refine wpAnyIn_ready (rs := [8]) (by kernel_rfl) (by simp) ?_
            refine AllReadyIn.cons rfl (fun K hK => ?_) AllReadyIn.nil
            go_simp
            refine hK _ _ ?_
            clear hK K
            refine wpAnyIn_done (by kernel_rfl) ?_ _
            exact ⟨rfl, _, rfl, set4_trip hz (d : Int) p x r, Nat.le_refl _, set4_below (hW0.trans (hb2.mono (by simp))) (Nat.le_refl _) (d : Int) p x r⟩
          · go_simp
            gi_wp2_with (refine ⟨trivial, ?_⟩; gi_at_call 23; refine (callsIn_wide.2 (hon _)).mono ?_; rintro e w1 ⟨rfl, rfl⟩)
            refine wpAnyIn_take (i := 5) (v := .int .i64 (d : Int)) rfl rfl (by kernel_rfl) (by kernel_rfl) (by kernel_rfl) (fun _ _ _ h => by cases h.1) ⟨Or.inl ⟨by rfl, fun w => by first | rfl | go_simp⟩, fun _ => rfl⟩ ?_
            refine wpAnyIn_ready (rs := [0]) (by kernel_rfl) (by simp) ?_
            refine AllReadyIn.cons rfl (fun K hK => ?_) AllReadyIn.nil
            go_simp
            refine hK _ _ ?_
            clear hK K
            refine wpAnyIn_ready (rs := [6]) (by kernel_rfl) (by simp) ?_
            refine AllReadyIn.cons rfl (fun K hK => ?_) AllReadyIn.nil
            go_simp
            gi_wp2_with (refine ⟨trivial, ?_⟩; gi_at_call 22; refine (callsIn_wide.2 (hst _ _)).mono ?_; rintro e w2 ⟨rfl, hb2⟩)
            have hz : TripAt w2 W.heap.size 0 ⟨#[]⟩ 0 0 := TripAt.below hz0 hb2 (by simp)
            obtain ⟨y0, y1, y2, y3⟩ := hz.frozen
            obtain ⟨x0, x1, x2, x3⟩ := hz.cells
            refine wpAnyIn_ready (rs := [8]) (by kernel_rfl) (by simp) ?_
            refine AllReadyIn.cons rfl (fun K hK => ?_) AllReadyIn.nil
            go_simp
            refine hK _ _ ?_
            clear hK K
            refine wpAnyIn_done (by kernel_rfl) ?_ _
            exact ⟨rfl, _, rfl, set4_trip hz (d : Int) p x r, Nat.le_refl _, set4_below (hW0.trans (hb2.mono (by simp))) (Nat.le_refl _) (d : Int) p x r⟩
        · go_simp
          gi_wp2_with (refine ⟨trivial, ?_⟩; gi_at_call 23; refine (callsIn_wide.2 (hon _)).mono ?_; rintro e w1 ⟨rfl, rfl⟩)
          refine wpAnyIn_ready (rs := [0, 2]) (by kernel_rfl) (by simp) ?_
          refine AllReadyIn.cons rfl (fun K hK => ?_) (AllReadyIn.cons rfl (fun K hK => ?_) AllReadyIn.nil)
          · go_simp
            refine hK _ _ ?_
            clear hK K
            refine wpAnyIn_ready (rs := [2]) (by kernel_rfl) (by simp) ?_
            refine AllReadyIn.cons rfl (fun K hK => ?_) AllReadyIn.nil
            go_simp
            refine hK _ _ ?_
            clear hK K
            refine wpAnyIn_take (i := 5) (v := .int .i64 (d : Int)) rfl rfl (by kernel_rfl) (by kernel_rfl) (by kernel_rfl) (fun _ _ _ h => by cases h.1) ⟨Or.inl ⟨by rfl, fun w => by first | rfl | go_simp⟩, fun _ => rfl⟩ ?_
            refine wpAnyIn_ready (rs := [6]) (by kernel_rfl) (by simp) ?_
            refine AllReadyIn.cons rfl (fun K hK => ?_) AllReadyIn.nil
            go_simp
            gi_wp2_with (refine ⟨trivial, ?_⟩; gi_at_call 22; refine (callsIn_wide.2 (hst _ _)).mono ?_; rintro e w2 ⟨rfl, hb2⟩)
            have hz : TripAt w2 W.heap.size 0 ⟨#[]⟩ 0 0 := TripAt.below hz0 hb2 (by simp)
            obtain ⟨y0, y1, y2, y3⟩ := hz.frozen
            obtain ⟨x0, x1, x2, x3⟩ := hz.cells
            refine wpAnyIn_ready (rs := [8]) (by kernel_rfl) (by simp) ?_
            refine AllReadyIn.cons rfl (fun K hK => ?_) AllReadyIn.nil
            go_simp
            refine hK _ _ ?_
            clear hK K
            refine wpAnyIn_done (by kernel_rfl) ?_ _
            exact ⟨rfl, _, rfl, set4_trip hz (d : Int) p x r, Nat.le_refl _, set4_below (hW0.trans (hb2.mono (by simp))) (Nat.le_refl _) (d : Int) p x r⟩
          · go_simp
            refine hK _ _ ?_
            clear hK K
            refine wpAnyIn_take (i := 5) (v := .int .i64 (d : Int)) rfl rfl (by kernel_rfl) (by kernel_rfl) (by kernel_rfl) (fun _ _ _ h => by cases h.1) ⟨Or.inl ⟨by rfl, fun w => by first | rfl | go_simp⟩, fun _ => rfl⟩ ?_
            refine wpAnyIn_ready (rs := [0]) (by kernel_rfl) (by simp) ?_
            refine AllReadyIn.cons rfl (fun K hK => ?_) AllReadyIn.nil
            go_simp
            refine hK _ _ ?_
            clear hK K
            refine wpAnyIn_ready (rs := [6]) (by kernel_rfl) (by simp) ?_
            refine AllReadyIn.cons rfl (fun K hK => ?_) AllReadyIn.nil
            go_simp
            gi_wp2_with (refine ⟨trivial, ?_⟩; gi_at_call 22; refine (callsIn_wide.2 (hst _ _)).mono ?_; rintro e w2 ⟨rfl, hb2⟩)
            have hz : TripAt w2 W.heap.size 0 ⟨#[]⟩ 0 0 := TripAt.below hz0 hb2 (by simp)
            obtain ⟨y0, y1, y2, y3⟩ := hz.frozen
            obtain ⟨x0, x1, x2, x3⟩ := hz.cells
            refine wpAnyIn_ready (rs := [8]) (by kernel_rfl) (by simp) ?_
            refine AllReadyIn.cons rfl (fun K hK => ?_) AllReadyIn.nil
            go_simp
            refine hK _ _ ?_
            clear hK K
            refine wpAnyIn_done (by kernel_rfl) ?_ _
            exact ⟨rfl, _, rfl, set4_trip hz (d : Int) p x r, Nat.le_refl _, set4_below (hW0.trans (hb2.mono (by simp))) (Nat.le_refl _) (d : Int) p x r⟩
    · rintro e a' w' ⟨rfl, g5, rfl, h5, hg5, hb5⟩
      have hbz := hb5.size
      have hTW := hT.below hb5 hT.lt
      have hRW : TripAt w' (w.heap.size + 1) 0 ⟨#[]⟩ 0 0 := TripAt.below (show TripAt W (w.heap.size + 1) 0 ⟨#[]⟩ 0 0 from hR) hb5 (show TripAt W (w.heap.size + 1) 0 ⟨#[]⟩ 0 0 from hR).lt
      have hNW := boxed_bel hN hb5
      have hB5 := hB.trans (hb5.mono hB.size)
      have hI := hs1 d w' hB5
      have hTl := hT.lt
      have hRl := (show TripAt W (w.heap.size + 1) 0 ⟨#[]⟩ 0 0 from hR).lt
      have hNl := Boxed.lt hN
      obtain ⟨m0, m1, m2, m3⟩ := h5.cells
      have hsn := leastL_snoc S b pre z
      rw [hc] at hsn
      unfold leastS at hsn
      rw [hd] at hsn
      have HSN := Lib.hid hsn
      clear hsn hc hd hs1 hon hst c0 c1 c2 c3 k0 k1 k2 k3 hdr
      cases hS : S d with
      | false =>
        have HS := Lib.hid hS
        rw [hS] at hI
        clear hS
        gi_wp2_with (refine ⟨trivial, ?_⟩; gi_at_call 20; refine (CallsIn.inRound l (callsIn_wide.2 hI)).mono ?_; rintro e w2 ⟨rfl, hb2⟩)
        have e2 := HSN.out
        rw [HS.out, if_neg (by simp)] at e2
        refine ⟨(keeps_below hb5).trans (keeps_below hb2), ((hb2.block _ (by omega)).trans (hb5.block _ hNl)), ?_⟩
        dsimp only
        rw [e2]
        exact ⟨hTW.below hb2 hTW.lt, hRW.below hb2 hRW.lt, boxed_bel hNW hb2, hB5.trans (hb2.mono hB5.size)⟩
      | true =>
        have HS := Lib.hid hS
        rw [hS] at hI
        clear hS
        gi_wp2_with (refine ⟨trivial, ?_⟩; gi_at_call 20; refine (CallsIn.inRound l (callsIn_wide.2 hI)).mono ?_; rintro e w2 ⟨rfl, hb2⟩; obtain ⟨q0, q1, q2, q3⟩ := (h5.below hb2 h5.lt).cells; obtain ⟨p0, p1, p2, p3⟩ := (hTW.below hb2 hTW.lt).cells; obtain ⟨f0, f1, f2, f3⟩ := (hTW.below hb2 hTW.lt).frozen)
        have e2 := HSN.out
        rw [HS.out, if_pos rfl] at e2
        have hT2 := hTW.below hb2 hTW.lt
        have hne : ∀ b', b' < W.heap.size → b' ≠ w.heap.size → (set4 w2 w.heap.size (d : Int) p x r).heap[b']? = W.heap[b']? := fun b' hb' h => by
          have H : ∀ (Z : World) (o : Nat) (u : Value), (Z.setCell ⟨w.heap.size, o, none⟩ u).heap[b']? = Z.heap[b']? := fun Z o u => heap_setCell_other Z _ b' u (by simpa using h)
          unfold set4
          rw [H, H, H, H]
          exact (hb2.block _ (by omega)).trans (hb5.block _ hb')
        have hkeep : KeepsOthers W (set4 w2 w.heap.size (d : Int) p x r) := by
          unfold set4
          exact ((((((keeps_below hb5).trans (keeps_below hb2)).trans (KeepsOthers.setCell _ _ _)).trans (KeepsOthers.setCell _ _ _)).trans (KeepsOthers.setCell _ _ _)).trans (KeepsOthers.setCell _ _ _))
        refine ⟨hkeep, hne _ hNl (by omega), ?_⟩
        dsimp only
        rw [e2]
        exact ⟨set4_trip hT2 (d : Int) p x r, (hne _ hRl (by omega)).trans (show _ = _ from hR), (hne _ hNl (by omega)).trans (show _ = _ from hN), set4_below (hB5.trans (hb2.mono hB5.size)) (Nat.le_refl _) (d : Int) p x r⟩
  case done =>
    rintro D ys W hD rfl ⟨hT, hR, hN, hB⟩ hK
    have hT : TripAt W w.heap.size ((leastL S b (topL (b : Int) 0) : Nat) : Int) p x r := hT
    have hR : TripAt W (w.heap.size + 1) 0 ⟨#[]⟩ 0 0 := hR
    obtain ⟨c0, c1, c2, c3⟩ := hT.cells
    obtain ⟨q0, q1, q2, q3⟩ := hR.cells
    obtain ⟨f0, f1, f2, f3⟩ := hR.frozen
    gi_wp2
    have hX := set4_trip hR ((leastL S b (topL (b : Int) 0) : Nat) : Int) p x r
    have bX := set4_below hB (Nat.le_succ _) ((leastL S b (topL (b : Int) 0) : Nat) : Int) p x r
    unfold set4 at hX bX
    have hK' := ((((KeepsOthers.setCell W ⟨w.heap.size + 1, 0, none⟩ (.int .i64 ((leastL S b (topL (b : Int) 0) : Nat) : Int))).trans (KeepsOthers.setCell _ ⟨w.heap.size + 1, 1, none⟩ (.string p))).trans (KeepsOthers.setCell _ ⟨w.heap.size + 1, 2, none⟩ (.int .i64 x))).trans (KeepsOthers.setCell _ ⟨w.heap.size + 1, 3, none⟩ (.int .i64 r))).same D _ hK rfl
    generalize ((((W.setCell ⟨w.heap.size + 1, 0, none⟩ (.int .i64 ((leastL S b (topL (b : Int) 0) : Nat) : Int))).setCell ⟨w.heap.size + 1, 1, none⟩ (.string p)).setCell ⟨w.heap.size + 1, 2, none⟩ (.int .i64 x)).setCell ⟨w.heap.size + 1, 3, none⟩ (.int .i64 r)) = X at hX bX hK' ⊢
    refine ⟨by simp, .inl ⟨_, _, rfl, run_takeDeferred hK', ?_⟩⟩
    have hgD := grownBy_putObj' X D (.deferred none)
    have hD2 : w.heap.size + 1 < D := by simp at hD; omega
    have hY : TripAt (X.putObj D (.deferred none)) (w.heap.size + 1) ((leastL S b (topL (b : Int) 0) : Nat) : Int) p x r := (World.putObj_heap_other (by omega)).trans hX
    obtain ⟨e0, e1, e2, e3⟩ := hY.cells
    refine ⟨.tuple #[.agg #[.int .i64 ((leastL S b (topL (b : Int) 0) : Nat) : Int), .string p, .int .i64 x, .int .i64 r], .bool true], ?_, rfl, bX.grown hgD bX.size (fun i e => by have := Option.some.inj e; omega)⟩
    simp [results, Tryz.results8, go_sem, e0, e1, e2, e3]
  case stop =>
    rintro D c pre W _ _ h _
    exact h.elim
end Go.Proofs.YtpepaobgngighabGreatDoor

