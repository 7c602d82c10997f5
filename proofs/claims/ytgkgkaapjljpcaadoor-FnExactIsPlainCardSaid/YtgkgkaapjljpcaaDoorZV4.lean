/- Chapter 11, the model: programs made simpler: pairs that a rule fits (wip/tools/mkZV.py). -/
import Derived.Test.YtgkgkaapjljpcaaDoorZV2
namespace Go.Proofs.YtgkgkaapjljpcaaDoor
open Go.ChangeShapes Go.WideShapes Go.ChangeAt Go.RowKit Go.Shelf
attribute [local go_sem] Oper.semAt_some
set_option maxRecDepth 100000

set_option maxHeartbeats 4000000 in
theorem msim_pair_go (k0 : UInt8) (p p' q q' : Node) (k l : Nat) (hmok : (Node.pair k0 p' q').ok) (hml : (Node.pair k0 p' q').text.length ≤ 1048576) (nn o : Node) (kn : Nat) (htop : topN (.pair k0 p' q') = some nn) (hk3 : kn ≤ 8000000) (hoo : o.ok) (IH3 : MSim nn o kn) (hk1 : k + l ≤ 8000000) (IH : MSim p p' k) (IH2 : MSim q q' l) : MSim (.pair k0 p q) o (k + l + 1 + kn) := by
  intro w k1 s1 ad1 n1 cap hN
  obtain ⟨rfl, rfl, rfl, g, rfl, _, hg, kp, sp, adp, np, capp, kq, sq, adq, nq, capq, ⟨c0, c1, c2⟩, ⟨c3, c4, c5⟩, hp, hq⟩ := hN
  obtain ⟨i0, hi, hz0, hz1, hz2⟩ := info_parts infoNode
  obtain ⟨W4, hW4⟩ : ∃ V, V = (((w.alloc (.cells #[.int .u8 (k0.toNat : Int), .string ⟨#[]⟩, .slice (some ⟨g, 0, none⟩) 2 cap] 52)).alloc (.cells #[.int .u8 0, .string ⟨#[]⟩, .slice none 0 0] 52)).alloc (.cells #[] 52)).alloc (.cells #[.int .u8 (k0.toNat : Int), .string ⟨#[]⟩, .slice (some ⟨w.heap.size + 1 + 1, 0, none⟩) 0 0] 52) := ⟨_, rfl⟩
  have hB4 : Below w.heap.size w W4 := by rw [hW4]; exact ((((Below.refl _ w).alloc (Nat.le_refl _) _).alloc (by simp) _).alloc (by simp; omega) _).alloc (by simp; omega) _
  have x4 : Var W4 w.heap.size (k0.toNat : Int) ⟨#[]⟩ (some ⟨g, 0, none⟩) 2 cap := by
    rw [hW4]; exact (((Var.new w _ _ _ _ _).grown (World.grownBy_alloc _ _ none) (by simp)).grown (World.grownBy_alloc _ _ none) (by simp)).grown (World.grownBy_alloc _ _ none) (by simp)
  have r4 : Var W4 (w.heap.size + 1) 0 ⟨#[]⟩ none 0 0 := by
    rw [hW4]; exact ((var_zero w _).grown (World.grownBy_alloc _ _ none) (by simp)).grown (World.grownBy_alloc _ _ none) (by simp)
  have o4 : Var W4 (w.heap.size + 1 + 1 + 1) (k0.toNat : Int) ⟨#[]⟩ (some ⟨w.heap.size + 1 + 1, 0, none⟩) 0 0 := by
    rw [hW4]
    have := Var.new (((w.alloc (.cells #[.int .u8 (k0.toNat : Int), .string ⟨#[]⟩, .slice (some ⟨g, 0, none⟩) 2 cap] 52)).alloc (.cells #[.int .u8 0, .string ⟨#[]⟩, .slice none 0 0] 52)).alloc (.cells #[] 52)) (k0.toNat : Int) ⟨#[]⟩ (some ⟨w.heap.size + 1 + 1, 0, none⟩) 0 0
    rw [World.size_alloc, World.size_alloc, World.size_alloc] at this
    exact this
  have w4 : W4.ownsRow w.heap.size 52 3 (.slice (some ⟨w.heap.size + 1 + 1, 0, none⟩) 0 0) 0 [] := by
    rw [hW4]
    have := own_emptyV ((w.alloc (.cells #[.int .u8 (k0.toNat : Int), .string ⟨#[]⟩, .slice (some ⟨g, 0, none⟩) 2 cap] 52)).alloc (.cells #[.int .u8 0, .string ⟨#[]⟩, .slice none 0 0] 52))
    rw [World.size_alloc, World.size_alloc] at this
    obtain ⟨a1, a2⟩ := ownsBelowV this ((Below.refl _ _).alloc (Nat.le_refl _) (.cells #[.int .u8 (k0.toNat : Int), .string ⟨#[]⟩, .slice (some ⟨w.heap.size + 1 + 1, 0, none⟩) 0 0] 52))
    refine ⟨a1, ?_⟩
    rcases a2 with a2 | ⟨g, cap, cur, b1, b2, b3⟩
    · exact .inl a2
    · exact .inr ⟨g, cap, cur, b1, by omega, b3⟩
  have d0 := (hB4.cell (p := ⟨g, 0, none⟩) hg).trans c0
  have d1 := (hB4.cell (p := ⟨g, 1, none⟩) hg).trans c1
  have d2 := (hB4.cell (p := ⟨g, 2, none⟩) hg).trans c2
  have hgW : g < W4.heap.size := Nat.lt_of_lt_of_le hg hB4.size
  obtain ⟨x0, x1, x2, xf⟩ := x4.cells
  have b7 : Below W4.heap.size W4 (W4.alloc (.cells #[.int .u8 kp, .string sp, .slice adp np capp] 52)) := (Below.refl _ W4).alloc (Nat.le_refl _) _
  have IH7 := IH (W4.alloc (.cells #[.int .u8 kp, .string sp, .slice adp np capp] 52)) _ _ _ _ _ ((Nd.below hp hB4).below b7)
  have hs4 : W4.heap.size = w.heap.size + 4 := by rw [hW4]; simp
  have HQ := Lib.hid (And.intro hq (And.intro c3 (And.intro c4 c5)))
  have lwk : w.heap.size ≤ W4.heap.size := hB4.size
  go_enter Tryd.func46, Tryd.ntmps46
  go_wp2_with fail
  rw [show ((((w.alloc (.cells #[.int .u8 (k0.toNat : Int), .string ⟨#[]⟩, .slice (some ⟨g, 0, none⟩) 2 cap] 52)).alloc (.cells #[.int .u8 0, .string ⟨#[]⟩, .slice none 0 0] 52)).alloc (.cells #[] 52)).alloc (.cells #[.int .u8 (k0.toNat : Int), .string ⟨#[]⟩, .slice (some ⟨w.heap.size + 1 + 1, 0, none⟩) 0 0] 52)) = W4 from hW4.symm]
  have HW := Lib.hid hW4
  have HS4 := Lib.hid hs4
  clear hW4 x4 c0 c1 c2 c3 c4 c5 hp hq IH xf x0 x1 hs4
  go_loopw [4, 23] (fun c i wr => (c = .int .i64 0 ∧ i = .int .i64 0 ∧ wr = W4) ∨
    (c = .int .i64 (k : Int) ∧ i = .int .i64 1 ∧ Below w.heap.size w wr ∧ Var wr (w.heap.size + 1) 0 ⟨#[]⟩ none 0 0 ∧ ∃ gv cv ka sa ada na capa la ha, Var wr (w.heap.size + 1 + 1 + 1) (k0.toNat : Int) ⟨#[]⟩ (some ⟨gv, 0, none⟩) 1 cv ∧ wr.ownsRow w.heap.size 52 3 (.slice (some ⟨gv, 0, none⟩) 1 cv) 1 [.int .u8 ka, .string sa, .slice ada na capa] ∧ NodeIs wr la ha p' ka sa ada na capa ∧ w.heap.size + 5 ≤ la ∧ ha ≤ wr.heap.size ∧ (gv < la ∨ ha ≤ gv) ∧ gv ≠ w.heap.size + 1 + 1 + 1 ∧ gv ≠ w.heap.size + 1 ∧ gv < wr.heap.size) ∨
    (c = .int .i64 ((k : Int) + (l : Int)) ∧ i = .int .i64 2 ∧ Below w.heap.size w wr ∧ Var wr (w.heap.size + 1) 0 ⟨#[]⟩ none 0 0 ∧ ∃ gv cv, Var wr (w.heap.size + 1 + 1 + 1) (k0.toNat : Int) ⟨#[]⟩ (some ⟨gv, 0, none⟩) 2 cv ∧ NodeIs wr w.heap.size wr.heap.size (.pair k0 p' q') (k0.toNat : Int) ⟨#[]⟩ (some ⟨gv, 0, none⟩) 2 cv)) (fun _ i _ => 2 - (intOf i).toNat)
  case atStart => exact .inl ⟨rfl, rfl, rfl⟩
  case round =>
  rcases hrel with ⟨rfl, rfl, hX⟩ | ⟨rfl, rfl, BR, rR, gw, cw, ka, sa, ada, na, capa, la, ha, oR, wR, NR, hla, hha, hgl0, hg5, hg6, hgs⟩ | ⟨rfl, rfl, BX, rX, gv, cv, oX, NX⟩
  · rw [hX]
    go_wp2_with fail
    go_at_call 46
    refine IH7.mono ?_
    rintro e W8 ⟨hb8, k3, s3, ad3, n3, cap3, rfl, N8⟩
    have b48 : Below W4.heap.size W4 W8 := b7.trans (hb8.mono b7.size)
    have r8 := r4.grown (below_grown b48 none) (by simp)
    have o8 := o4.grown (below_grown b48 none) (by simp)
    have w8 := ownsBelowV w4 b48
    have B8 := hB4.trans (b48.mono hB4.size)
    have z8 := hb8.size
    rw [World.size_alloc] at z8 N8
    have hs5 : w.heap.size + 5 ≤ W8.heap.size := by have := HS4.out; omega
    obtain ⟨p0, p1, p2, pf⟩ := o8.cells
    have l5 := o8.lt'
    have HN := Lib.hid (And.intro N8 (And.intro r8 (And.intro o8 B8)))
    have zb := B8.size
    have ka' : (0 : Int) ≤ (k : Int) := by omega
    have kb' : (k : Int) ≤ 8000000 := by omega
    clear z8 hb8 b48 r8 o8 N8 B8 IH7 b7 d0 d1 d2 hgW r4 o4 w4 hB4 hX
    go_wp2_with (at_builtin; (refine wpList_append_own_at _ rfl _ _ 50 rfl w.heap.size 52 i0 (.agg #[.int .u8 0, .string ⟨#[]⟩, .slice none 0 0]) 3 48 Tryd.underlying50 hi hz0 hz1 hz2 rfl (by decide) _ _ _ rfl ((w8.alloc _).alloc _) ⟨W8.heap.size + 1, 0, none⟩ 1 1 [.int .u8 k3, .string s3, .slice ad3 n3 cap3] rfl (by rfl) (news3 _ _ (by simp) _ _ _) (by simp [Value.oneCell']) (by unfold maxLen; omega) (by omega) (by simp; omega) ?_; intro v' w1 hown' hgrow _ hat; obtain ⟨gv, cv, rfl, hgv, hgl, hcv⟩ := rowV hown' (by omega); have o9 := (((HN.out.2.2.1.grown (World.grownBy_alloc _ (.cells #[.int .u8 k3, .string s3, .slice ad3 n3 cap3] 52) none) (by simp)).grown (World.grownBy_alloc _ (.cells #[.int .u8 k3, .string s3, .slice ad3 n3 cap3] 52) none) (by simp)).grown hgrow (by show some (w.heap.size + 1 + 1 + 1) ≠ some (w.heap.size + 1 + 1); intro e; have := Option.some.inj e; omega)); obtain ⟨p0, p1, p2, pf⟩ := o9.cells))
    obtain ⟨N8, r8, o8, B8⟩ := HN.out
    have bU : Below W8.heap.size W8 ((W8.alloc (.cells #[.int .u8 k3, .string s3, .slice ad3 n3 cap3] 52)).alloc (.cells #[.int .u8 k3, .string s3, .slice ad3 n3 cap3] 52)) := two_allocs W8 _ _
    have gr1 : ∀ i, i ≠ w.heap.size + 1 + 1 → i < W8.heap.size → w1.heap[i]? = W8.heap[i]? := fun i hi hl => (hgrow.block i (Nat.lt_of_lt_of_le hl bU.size) (by show some i ≠ some (w.heap.size + 1 + 1); intro e; exact hi (Option.some.inj e))).trans (bU.block i hl)
    have hgv1 : gv = w.heap.size + 1 + 1 ∨ gv = W8.heap.size + 2 := by
      rcases hat with h | h
      · exact .inl (Option.some.inj (show some gv = some (w.heap.size + 1 + 1) from h))
      · have := Option.some.inj (show some gv = some _ from h); simp at this; exact .inr (by omega)
    have s1 : W8.heap.size ≤ w1.heap.size := Nat.le_trans bU.size hgrow.size
    have s3' : W8.heap.size + 2 ≤ w1.heap.size := by have := hgrow.size; simp at this; omega
    have gr2 : ∀ i, i ≠ w.heap.size + 1 + 1 → i ≠ w.heap.size + 1 + 1 + 1 → i < W8.heap.size → (w1.setCell ⟨w.heap.size + 1 + 1 + 1, 2, none⟩ (.slice (some ⟨gv, 0, none⟩) 1 cv)).heap[i]? = W8.heap[i]? := fun i h1 h2 h3 => (heap_setCell_other _ _ i _ (by simpa using h2)).trans (gr1 i h1 h3)
    have B9 : Below w.heap.size w w1 := by
      refine (B8.trans (bU.mono B8.size)).grown hgrow (by have := bU.size; omega) (fun i e => ?_)
      have := Option.some.inj (show some (w.heap.size + 1 + 1) = some i from e); omega
    have N9 : NodeIs (w1.setCell ⟨w.heap.size + 1 + 1 + 1, 2, none⟩ (.slice (some ⟨gv, 0, none⟩) 1 cv)) (W4.heap.size + 1) W8.heap.size p' k3 s3 ad3 n3 cap3 := NodeIs.same (fun i h1 h2 => gr2 i (by have := HS4.out; omega) (by have := HS4.out; omega) h2) N8
    refine ⟨.inr (.inl ⟨rfl, rfl, B9.setCell (by simp; omega) _, (gr2 (w.heap.size + 1) (by omega) (by omega) (by omega)).trans r8, gv, cv, k3, s3, ad3, n3, cap3, W4.heap.size + 1, W8.heap.size, ?_, ?_, N9, by have := HS4.out; omega, by simp; omega, by have := HS4.out; omega, by rcases hgv1 with h | h <;> omega, by rcases hgv1 with h | h <;> omega, by simp; exact hgl⟩), by simp [intOf]⟩
    · unfold Var at o9 ⊢
      rw [heap_setCell_same _ _ 2 _ 52 _ o9]
      rfl
    · obtain ⟨a1, a2⟩ := hown'
      refine ⟨a1, ?_⟩
      rcases a2 with a2 | ⟨gg, cc, cur, b1, b2, b3, b4⟩
      · exact .inl a2
      · have e1 : gg = gv := (Option.some.inj (show some gv = some gg from congrArg Value.ownBlock b1)).symm
        exact .inr ⟨gg, cc, cur, b1, b2, (heap_setCell_other _ _ gg _ (by rw [e1]; rcases hgv1 with h | h <;> simp <;> omega)).trans b3, b4⟩
  · obtain ⟨Y, hY⟩ : ∃ Y, Y = wr := ⟨_, rfl⟩
    rw [← hY] at BR rR oR wR NR hha hgs ⊢
    clear hY
    obtain ⟨hq, c3, c4, c5⟩ := HQ.out
    have d3 := (BR.cell (p := ⟨g, 3, none⟩) hg).trans c3
    have d4 := (BR.cell (p := ⟨g, 4, none⟩) hg).trans c4
    have d5 := (BR.cell (p := ⟨g, 5, none⟩) hg).trans c5
    have hgY : g < Y.heap.size := Nat.lt_of_lt_of_le hg BR.size
    have y7 : Below Y.heap.size Y (Y.alloc (.cells #[.int .u8 kq, .string sq, .slice adq nq capq] 52)) := (Below.refl _ Y).alloc (Nat.le_refl _) _
    have IHq := IH2 (Y.alloc (.cells #[.int .u8 kq, .string sq, .slice adq nq capq] 52)) _ _ _ _ _ ((Nd.below hq BR).below y7)
    clear c3 c4 c5 hq IH7 b7 d0 d1 d2 hgW r4 o4 w4 hB4
    go_wp2_with fail
    go_at_call 46
    refine IHq.mono ?_
    rintro e W8 ⟨hb8, k3, s3, ad3, n3, cap3, rfl, N8⟩
    have b48 : Below Y.heap.size Y W8 := y7.trans (hb8.mono y7.size)
    have r8 := rR.grown (below_grown b48 none) (by simp)
    have o8 := oR.grown (below_grown b48 none) (by simp)
    have w8 := ownsBelowV wR b48
    have M8 := NodeIs.below NR b48 hha
    have B8 := BR.trans (b48.mono BR.size)
    have z8 := hb8.size
    rw [World.size_alloc] at z8 N8
    have zy := BR.size
    have hY5 := oR.lt'
    have hs5 : w.heap.size + 5 ≤ W8.heap.size := by
      have h5 := oR.lt'
      omega
    obtain ⟨p0, p1, p2, pf⟩ := o8.cells
    have l5 := o8.lt'
    have HN := Lib.hid (And.intro N8 (And.intro r8 (And.intro o8 (And.intro B8 M8))))
    have zb := B8.size
    have ka' : (0 : Int) ≤ (k : Int) := by omega
    have kb' : (k : Int) ≤ 8000000 := by omega
    have la' : (0 : Int) ≤ (l : Int) := by omega
    have lb' : (l : Int) ≤ 8000000 := by omega
    clear hb8 b48 r8 o8 N8 B8 M8 IHq y7 d3 d4 d5 hgY rR oR wR BR NR
    go_wp2_with (at_builtin; (refine wpList_append_own_at _ rfl _ _ 50 rfl w.heap.size 52 i0 (.agg #[.int .u8 0, .string ⟨#[]⟩, .slice none 0 0]) 3 48 Tryd.underlying50 hi hz0 hz1 hz2 rfl (by decide) _ _ _ rfl ((w8.alloc _).alloc _) ⟨W8.heap.size + 1, 0, none⟩ 1 1 [.int .u8 k3, .string s3, .slice ad3 n3 cap3] rfl (by rfl) (news3 _ _ (by simp) _ _ _) (by simp [Value.oneCell']) (by unfold maxLen; omega) (by omega) (by simp; omega) ?_; intro v' w1 hown' hgrow _ hat; obtain ⟨gv, cv, rfl, hgv, hgl, hcv⟩ := rowV hown' (by omega); have o9 := (((HN.out.2.2.1.grown (World.grownBy_alloc _ (.cells #[.int .u8 k3, .string s3, .slice ad3 n3 cap3] 52) none) (by simp)).grown (World.grownBy_alloc _ (.cells #[.int .u8 k3, .string s3, .slice ad3 n3 cap3] 52) none) (by simp)).grown hgrow (by show some (w.heap.size + 1 + 1 + 1) ≠ some gw; intro e; exact hg5 (Option.some.inj e).symm)); obtain ⟨p0, p1, p2, pf⟩ := o9.cells))
    obtain ⟨N8, r8, o8, B8, M8⟩ := HN.out
    have bU : Below W8.heap.size W8 ((W8.alloc (.cells #[.int .u8 k3, .string s3, .slice ad3 n3 cap3] 52)).alloc (.cells #[.int .u8 k3, .string s3, .slice ad3 n3 cap3] 52)) := two_allocs W8 _ _
    have gr1 : ∀ i, i ≠ gw → i < W8.heap.size → w1.heap[i]? = W8.heap[i]? := fun i hi hl => (hgrow.block i (Nat.lt_of_lt_of_le hl bU.size) (by show some i ≠ some gw; intro e; exact hi (Option.some.inj e))).trans (bU.block i hl)
    have hgv1 : gv = gw ∨ gv = W8.heap.size + 2 := by
      rcases hat with h | h
      · exact .inl (Option.some.inj (show some gv = some gw from h))
      · have := Option.some.inj (show some gv = some _ from h); simp at this; exact .inr (by omega)
    have s1 : W8.heap.size ≤ w1.heap.size := Nat.le_trans bU.size hgrow.size
    have gr2 : ∀ i, i ≠ gw → i ≠ w.heap.size + 1 + 1 + 1 → i < W8.heap.size → (w1.setCell ⟨w.heap.size + 1 + 1 + 1, 2, none⟩ (.slice (some ⟨gv, 0, none⟩) 2 cv)).heap[i]? = W8.heap[i]? := fun i h1 h2 h3 => (heap_setCell_other _ _ i _ (by simpa using h2)).trans (gr1 i h1 h3)
    have B9 : Below w.heap.size w w1 := by
      refine (B8.trans (bU.mono B8.size)).grown hgrow (by have := bU.size; omega) (fun i e => ?_)
      have := Option.some.inj (show some gw = some i from e)
      have := (w8.lt gw rfl).1
      omega
    have hgv' : gv ≠ w.heap.size + 1 + 1 + 1 := by rcases hgv1 with h | h <;> omega
    have cG := fun o => World.cell?_of_block (w := w1) (w' := w1.setCell ⟨w.heap.size + 1 + 1 + 1, 2, none⟩ (.slice (some ⟨gv, 0, none⟩) 2 cv)) (a := ⟨gv, o, none⟩) (heap_setCell_other _ _ gv _ (by simpa using hgv'))
    have N9 : NodeIs (w1.setCell ⟨w.heap.size + 1 + 1 + 1, 2, none⟩ (.slice (some ⟨gv, 0, none⟩) 2 cv)) (Y.heap.size + 1) W8.heap.size q' k3 s3 ad3 n3 cap3 := NodeIs.same (fun i h1 h2 => gr2 i (by omega) (by omega) h2) N8
    have M9 : NodeIs (w1.setCell ⟨w.heap.size + 1 + 1 + 1, 2, none⟩ (.slice (some ⟨gv, 0, none⟩) 2 cv)) la ha p' ka sa ada na capa := NodeIs.same (fun i h1 h2 => gr2 i (by rcases hgl0 with h | h <;> omega) (by omega) (by omega)) M8
    refine ⟨.inr (.inr ⟨rfl, rfl, B9.setCell (by simp; omega) _, (gr2 (w.heap.size + 1) (by omega) (by omega) (by omega)).trans r8, gv, cv, ?_, ?_⟩), by simp [intOf]⟩
    · unfold Var at o9 ⊢
      rw [heap_setCell_same _ _ 2 _ 52 _ o9]
      rfl
    · refine ⟨rfl, rfl, rfl, gv, rfl, hgv, by simp; exact hgl, ka, sa, ada, na, capa, k3, s3, ad3, n3, cap3, ⟨(cG 0).trans (hcv 0 _ rfl), (cG 1).trans (hcv 1 _ rfl), (cG 2).trans (hcv 2 _ rfl)⟩, ⟨(cG 3).trans (hcv 3 _ rfl), (cG 4).trans (hcv 4 _ rfl), (cG 5).trans (hcv 5 _ rfl)⟩, NodeIs.wide (by omega) (by simp; omega) M9, NodeIs.wide (by omega) (by simp; omega) N9⟩
  · obtain ⟨X, hXX⟩ : ∃ X, X = wr := ⟨_, rfl⟩
    rw [← hXX] at BX rX oX NX ⊢
    clear hXX
    obtain ⟨p0, p1, p2, pf⟩ := oX.cells
    go_wp2_with fail
    go_at_call 49
    refine (mtop (.pair k0 p' q') hmok hml X _ _ _ _ _ (NodeIs.wide (Nat.zero_le _) (Nat.le_refl _) NX)).mono ?_
    rintro e X1 ⟨hb1, k3, s3, ad3, n3, cap3, rfl, hn3⟩
    rw [htop] at hn3 ⊢
    have r1 := rX.grown (below_grown hb1 none) (by simp)
    have o1 := oX.grown (below_grown hb1 none) (by simp)
    have N1 := NodeIs.below NX hb1 (Nat.le_refl _)
    have B1 := BX.trans (hb1.mono BX.size)
    have l1 := r1.lt'
    have l1o := o1.lt'
    have n1n := hn3 nn rfl
    have b2 : Below X1.heap.size X1 (X1.alloc (.cells #[.int .u8 k3, .string s3, .slice ad3 n3 cap3] 52)) := (Below.refl _ X1).alloc (Nat.le_refl _) _
    have IHn := IH3 _ _ _ _ _ _ (n1n.below b2)
    have B2 := B1.trans (b2.mono B1.size)
    have r2 := r1.grown (below_grown b2 none) (by simp)
    clear rX oX NX N1 BX hb1 hn3 o1 n1n b2 r1
    go_wp2_with fail
    go_at_call 46
    refine IHn.mono ?_
    rintro e X3 ⟨hb3, k4, s4, ad4, n4, cap4, rfl, hn4⟩
    have r3 := r2.grown (below_grown hb3 none) (by simp)
    have B3 := B2.trans (hb3.mono B2.size)
    have l3 := r3.lt'
    have l2 := r2.lt'
    obtain ⟨r0, q1, q2, rf⟩ := r3.cells
    have kb1 : (0 : Int) ≤ ((k + l) : Int) := by omega
    have kb2 : ((k + l) : Int) ≤ 8000000 := by omega
    have kb3 : (0 : Int) ≤ (kn : Int) := by omega
    have kb4 : (kn : Int) ≤ 8000000 := by omega
    have HF := Lib.hid (And.intro r3 (And.intro hn4 (And.intro B3 B2.size)))
    clear IHn r2 r3 hn4 hb3 B3 B2 B1
    go_wp2_with fail
    obtain ⟨r3, hn4, B3, sz⟩ := HF.out
    have le1 : w.heap.size ≤ w.heap.size + 1 := Nat.le_succ _
    have Bf : Below w.heap.size w (set3 X3 (w.heap.size + 1) k4 s4 ad4 n4 cap4) := below_of (set3_grown (below_grown B3 (some (w.heap.size + 1))) le1 _ _ _ _ _) le1
    have hr := fun aa => ret_simM (a := aa) (k := k4) (s := s4) (ad := ad4) (m := n4) (cap := cap4) (g := w.heap.size + 1) (c := (((k + l) : Nat) : Int) + 1 + (kn : Int)) (R := MRes o ((k + l) + 1 + kn) w) (Z := (set3 X3 (w.heap.size + 1) k4 s4 ad4 n4 cap4).alloc (.cells #[.int .u8 k4, .string s4, .slice ad4 n4 cap4] 52))
    refine hr _ ((set3_var r3 _ _ _ _ _).grown (World.grownBy_alloc _ _ none) (by simp)) rfl rfl rfl ⟨Bf.alloc Bf.size _, k4, s4, ad4, n4, cap4, by rw [show (((k + l) + 1 + kn : Nat) : Int) = (((k + l) : Nat) : Int) + 1 + (kn : Int) by omega], ?_⟩
    refine NodeIs.wide sz (Nat.le_refl _) (NodeIs.butL (z := w.heap.size + 1) r0 (fun i hi hl => ?_) (by rw [World.size_alloc, set3_size]; omega) hoo hn4)
    exact ((World.grownBy_alloc _ _ none).block i (by rw [set3_size]; exact hl) (by simp)).trans (set3_block hi _ _ _ _ _)

end Go.Proofs.YtgkgkaapjljpcaaDoor

