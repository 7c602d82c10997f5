/- Chapter 11, the program: programs made simpler, and remembered: sequences (wip/tools/mkZC.py). -/
import Derived.Test.YtgkgkaapjljpcaaDoorZC
namespace Go.Proofs.YtgkgkaapjljpcaaDoor
open Go.ChangeShapes Go.WideShapes Go.ChangeAt Go.RowKit Go.Shelf
attribute [local go_sem] Oper.semAt_some
set_option maxRecDepth 100000

set_option maxHeartbeats 20000000 in
theorem parts_seq (p p' q q' : Node) (k1 c1 k2 c2 : Nat) (hk : k1 + k2 ≤ 9000000) (IH1 : PSim p p' k1 c1) (IH2 : PSim q q' k2 c2) : PParts (.pair 59 p q) (.pair 59 p' q') (k1 + k2) (c1 + c2) := by
  intro W B n N hL hN hM hn
  obtain ⟨T, x, hv⟩ := nodeV_iface p
  obtain ⟨U, y, hv2⟩ := nodeV_iface q
  obtain ⟨T1, x1, hp⟩ := nodeV_iface p'
  obtain ⟨U1, y1, hq⟩ := nodeV_iface q'
  have hB := hM.lt
  obtain ⟨V, hV⟩ : ∃ V, V = (W.alloc (.cells #[.nilIface, .int .i64 0] 73)).alloc (.cells #[.iface T x, .iface U y] 107) := ⟨_, rfl⟩
  have gV : W.grownBy V (some B) := by rw [hV]; exact grown_trans2 (World.grownBy_alloc _ _ _) (World.grownBy_alloc _ _ _)
  have r0 : Lies V W.heap.size #[.nilIface, .int .i64 0] 73 := by rw [hV]; exact (Lies.new W _ _).alloc _
  have p0 : Lies V (W.heap.size + 1) #[.iface T x, .iface U y] 107 := by
    rw [hV]
    have := Lies.new (W.alloc (.cells #[.nilIface, .int .i64 0] 73)) #[.iface T x, .iface U y] 107
    rw [World.size_alloc] at this
    exact this
  have hMV : Memo V B n := by rw [hV]; exact (hM.kept (World.grownBy_alloc W _ none) (by simp)).kept (World.grownBy_alloc _ _ none) (by simp)
  have hM0 : Memo V.drew B n := hMV.kept (row := none) ⟨rfl, rfl, rfl, Nat.le_refl _, fun _ _ _ => rfl⟩ (by simp)
  have hLV := hL.grown gV hN
  have IA := fun X m (g : V.grownBy X (some B)) (h : Memo X B m) (hl : m + c1 ≤ 8000000) => IH1 X B m N (hLV.grown g hN) hN h hl
  have IB := fun X m (g : V.grownBy X (some B)) (h : Memo X B m) (hl : m + c2 ≤ 8000000) => IH2 X B m N (hLV.grown g hN) hN h hl
  have hVs : V.heap.size = W.heap.size + 2 := by rw [hV]; simp
  have HVs := Lib.hid hVs
  have HS := Lib.hid (show ∀ z : Int, z = (k1 : Int) + (k2 : Int) → simV (.pair 59 p' q') (k1 + k2) = .agg #[.iface 107 (.agg #[.iface T1 x1, .iface U1 y1]), .int .i64 z] from fun z hz => by
    unfold simV
    rw [nodeV_seq, hp, hq, hz, show ((k1 + k2 : Nat) : Int) = (k1 : Int) + (k2 : Int) by omega])
  have b1 : (0 : Int) ≤ (k1 : Int) := by omega
  have b2 : (0 : Int) ≤ (k2 : Int) := by omega
  have b3 : (k1 : Int) ≤ 9000000 := by omega
  have b4 : (k2 : Int) ≤ 9000000 := by omega
  have hn0 : n ≤ n := Nat.le_refl _
  have hBV : B < V.heap.size := by omega
  rw [nodeV_seq]
  rw [hv] at IA ⊢
  rw [hv2] at IB ⊢
  have t1 := as77_77 (.iface T x) (.iface U y)
  clear hL hM IH1 IH2 hv hv2 hVs hLV
  go_enter Tryd.func95, Tryd.ntmps95
  go_wp2_with fail
  rw [← hV]
  have HV := Lib.hid hV
  clear hV
  refine wp_region_held (S := fun w' => V.grownBy w' (some B)) (by kernel_rfl) ?_
  have hS : V.grownBy V.drew (some B) := ⟨rfl, rfl, rfl, Nat.le_refl _, fun _ _ _ => rfl⟩
  refine wpAnyH_take (i := 0) (v := .map (some B)) rfl (by kernel_rfl) (by kernel_rfl) (by kernel_rfl) (fun _ _ _ h => h) (Or.inl ⟨by rfl, fun w hw => by go_simp⟩) hS ?_
  go_simp
  refine wpAnyH_take (i := 1) (v := .pointer (some ⟨W.heap.size + 1, 0, none⟩)) rfl (by kernel_rfl) (by kernel_rfl) (by kernel_rfl) (fun _ _ _ h => h) (Or.inl ⟨by rfl, fun w hw => by go_simp⟩) hS ?_
  go_simp
  refine wpAnyH_take (i := 2) (v := .iface T x) rfl (by kernel_rfl) (by kernel_rfl) (by kernel_rfl) (fun _ _ _ h => h) (Or.inl ⟨by rfl, fun w hw => by obtain ⟨l0, l1, _, _⟩ := (p0.kept hw (by intro e; have := Option.some.inj e; omega)).cells; first | (go_simp; done) | rfl⟩) hS ?_
  go_simp
  refine wpAnyH_take (i := 4) (v := .map (some B)) rfl (by kernel_rfl) (by kernel_rfl) (by kernel_rfl) (fun _ _ _ h => h) (Or.inl ⟨by rfl, fun w hw => by go_simp⟩) hS ?_
  go_simp
  refine wpAnyH_take (i := 5) (v := .pointer (some ⟨W.heap.size + 1, 1, none⟩)) rfl (by kernel_rfl) (by kernel_rfl) (by kernel_rfl) (fun _ _ _ h => h) (Or.inl ⟨by rfl, fun w hw => by go_simp⟩) hS ?_
  go_simp
  refine wpAnyH_take (i := 6) (v := .iface U y) rfl (by kernel_rfl) (by kernel_rfl) (by kernel_rfl) (fun _ _ _ h => h) (Or.inl ⟨by rfl, fun w hw => by obtain ⟨l0, l1, _, _⟩ := (p0.kept hw (by intro e; have := Option.some.inj e; omega)).cells; first | (go_simp; done) | rfl⟩) hS ?_
  go_simp
  refine wpAnyH_ready (rs := [3, 8, 9]) (by kernel_rfl) (by simp) ?_
  refine AllReadyH.cons rfl (fun K hK => ?_) (AllReadyH.cons rfl (fun K hK => ?_) (AllReadyH.cons rfl (fun K hK => ?_) AllReadyH.nil))
  · go_simp
    go_wp2_with (go_at_call 64; refine (IA _ n hS hM0 (by omega)).mono ?_; rintro e W1 ⟨rfl, h1, m1, hm1, M1⟩; unfold simV; rw [hp])
    have g1 := grown_trans2 (hS) h1
    have z1 := Lib.hid (show V.heap.size ≤ W1.heap.size from h1.size)
    refine hK _ _ g1 (fun _ => ?_)
    clear hK K h1
    go_simp
    have n1 : m1 ≤ n + c1 := by omega
    refine wpAnyH_ready (rs := [7, 8, 9]) (by kernel_rfl) (by simp) ?_
    refine AllReadyH.cons rfl (fun K hK => ?_) (AllReadyH.cons rfl (fun K hK => ?_) (AllReadyH.cons rfl (fun K hK => ?_) AllReadyH.nil))
    · go_simp
      go_wp2_with (go_at_call 64; refine (IB _ m1 g1 M1 (by omega)).mono ?_; rintro e W2 ⟨rfl, h2, m2, hm2, M2⟩; unfold simV; rw [hq])
      have g2 := grown_trans2 (g1) h2
      have z2 := Lib.hid (show W1.heap.size ≤ W2.heap.size from h2.size)
      refine hK _ _ g2 (fun _ => ?_)
      clear hK K h2
      go_simp
      have n2 : m2 ≤ n + c1 + c2 := by omega
      refine wpAnyH_ready (rs := [8, 9]) (by kernel_rfl) (by simp) ?_
      refine AllReadyH.cons rfl (fun K hK => ?_) (AllReadyH.cons rfl (fun K hK => ?_) AllReadyH.nil)
      · go_simp
        obtain ⟨W3, e3⟩ : ∃ W', W' = W2.alloc (.cells #[.nilIface, .int .i64 0] 73) := ⟨_, rfl⟩
        have g3 : V.grownBy W3 (some B) := by rw [e3]; exact grown_alloc (g2) _
        have M3 : Memo W3 B m2 := by rw [e3]; exact (M2).kept (World.grownBy_alloc _ _ none) (by simp)
        have f3_8 : Lies W3 W2.heap.size #[.nilIface, .int .i64 0] 73 := by rw [e3]; exact Lies.new W2 _ _
        have z3 := Lib.hid (show W3.heap.size = W2.heap.size + 1 by rw [e3]; simp)
        rw [← e3]
        clear e3
        refine hK _ _ g3 (fun _ => ?_)
        clear hK K
        go_simp
        refine wpAnyH_ready (rs := [9]) (by kernel_rfl) (by simp) ?_
        refine AllReadyH.cons rfl (fun K hK => ?_) AllReadyH.nil
        · go_simp
          obtain ⟨W4, e4⟩ : ∃ W', W' = W3.alloc (.cells #[.nilIface, .int .i64 0] 73) := ⟨_, rfl⟩
          have g4 : V.grownBy W4 (some B) := by rw [e4]; exact grown_alloc (g3) _
          have M4 : Memo W4 B m2 := by rw [e4]; exact (M3).kept (World.grownBy_alloc _ _ none) (by simp)
          have f4_9 : Lies W4 W3.heap.size #[.nilIface, .int .i64 0] 73 := by rw [e4]; exact Lies.new W3 _ _
          have f4_8 : Lies W4 W2.heap.size #[.nilIface, .int .i64 0] 73 := by rw [e4]; exact Lies.alloc f3_8 _
          have z4 := Lib.hid (show W4.heap.size = W3.heap.size + 1 by rw [e4]; simp)
          rw [← e4]
          clear e4
          refine hK _ _ g4 (fun _ => ?_)
          clear hK K
          go_simp
          refine wpAnyH_ready (rs := [10]) (by kernel_rfl) (by simp) ?_
          refine AllReadyH.cons rfl (fun K hK => ?_) AllReadyH.nil
          · go_simp
            obtain ⟨c0, c1', c2', c3⟩ := (f4_8).cells
            go_simp
            have vle5 : V.heap.size ≤ W2.heap.size := by have qz1 := z1.out; have qz2 := z2.out; have qz3 := z3.out; have qz4 := z4.out; omega
            have s5 := set_grownC W4 (W2.heap.size) 0 1 (.iface T1 x1) (.int .i64 (k1 : Int))
            have g5 : V.grownBy ((W4.setCell ⟨W2.heap.size, 0, none⟩ (.iface T1 x1)).setCell ⟨W2.heap.size, 1, none⟩ (.int .i64 (k1 : Int))) (some B) := setCell_grown (setCell_grown (g4) (.inr vle5) _) (.inr vle5) _
            have M5 : Memo ((W4.setCell ⟨W2.heap.size, 0, none⟩ (.iface T1 x1)).setCell ⟨W2.heap.size, 1, none⟩ (.int .i64 (k1 : Int))) B m2 := (M4).kept s5 (by intro e; have := Option.some.inj e; have qz1 := z1.out; have qz2 := z2.out; have qz3 := z3.out; have qz4 := z4.out; omega)
            have f5_8 := ((f4_8).set0 (.iface T1 x1)).set1 (.int .i64 (k1 : Int))
            have f5_9 := (f4_9).kept s5 (by intro e; have := Option.some.inj e; have qz1 := z1.out; have qz2 := z2.out; have qz3 := z3.out; have qz4 := z4.out; omega)
            refine hK _ _ g5 (fun _ => ?_)
            clear hK K
            go_simp
            refine wpAnyH_ready (rs := [11]) (by kernel_rfl) (by simp) ?_
            refine AllReadyH.cons rfl (fun K hK => ?_) AllReadyH.nil
            · go_simp
              obtain ⟨c0, c1', c2', c3⟩ := (f5_9).cells
              obtain ⟨b0, b1, b2, b3⟩ := (f4_9).cells
              have d1 : W2.heap.size ≠ W3.heap.size := by have qz1 := z1.out; have qz2 := z2.out; have qz3 := z3.out; have qz4 := z4.out; omega
              have d2 : W3.heap.size ≠ W2.heap.size := fun e => d1 e.symm
              go_simp
              have vle6 : V.heap.size ≤ W3.heap.size := by have qz1 := z1.out; have qz2 := z2.out; have qz3 := z3.out; have qz4 := z4.out; omega
              have s6 := set_grownC ((W4.setCell ⟨W2.heap.size, 0, none⟩ (.iface T1 x1)).setCell ⟨W2.heap.size, 1, none⟩ (.int .i64 (k1 : Int))) (W3.heap.size) 0 1 (.iface U1 y1) (.int .i64 (k2 : Int))
              have g6 : V.grownBy ((((W4.setCell ⟨W2.heap.size, 0, none⟩ (.iface T1 x1)).setCell ⟨W2.heap.size, 1, none⟩ (.int .i64 (k1 : Int))).setCell ⟨W3.heap.size, 0, none⟩ (.iface U1 y1)).setCell ⟨W3.heap.size, 1, none⟩ (.int .i64 (k2 : Int))) (some B) := setCell_grown (setCell_grown (g5) (.inr vle6) _) (.inr vle6) _
              have M6 : Memo ((((W4.setCell ⟨W2.heap.size, 0, none⟩ (.iface T1 x1)).setCell ⟨W2.heap.size, 1, none⟩ (.int .i64 (k1 : Int))).setCell ⟨W3.heap.size, 0, none⟩ (.iface U1 y1)).setCell ⟨W3.heap.size, 1, none⟩ (.int .i64 (k2 : Int))) B m2 := (M5).kept s6 (by intro e; have := Option.some.inj e; have qz1 := z1.out; have qz2 := z2.out; have qz3 := z3.out; have qz4 := z4.out; omega)
              have f6_9 := ((f5_9).set0 (.iface U1 y1)).set1 (.int .i64 (k2 : Int))
              have f6_8 := (f5_8).kept s6 (by intro e; have := Option.some.inj e; have qz1 := z1.out; have qz2 := z2.out; have qz3 := z3.out; have qz4 := z4.out; omega)
              refine hK _ _ g6 (fun _ => ?_)
              clear hK K
              go_simp
              refine wpAnyH_done (by kernel_rfl) ?_ _
              have fx := f6_8
              have fy := f6_9
              have gz := g6
              have Mz := M6
              have nz : m2 ≤ n + (c1 + c2) := by omega
              obtain ⟨Z, hZ⟩ : ∃ Z, Z = ((((W4.setCell ⟨W2.heap.size, 0, none⟩ (.iface T1 x1)).setCell ⟨W2.heap.size, 1, none⟩ (.int .i64 (k1 : Int))).setCell ⟨W3.heap.size, 0, none⟩ (.iface U1 y1)).setCell ⟨W3.heap.size, 1, none⟩ (.int .i64 (k2 : Int))) := ⟨_, rfl⟩
              rw [← hZ] at fx fy gz Mz ⊢
              have HZ := Lib.hid hZ
              clear hZ
              have rz := r0.kept gz (by intro e; have := Option.some.inj e; omega)
              obtain ⟨e0, e1, _, _⟩ := fx.cells
              obtain ⟨e2, e3, _, _⟩ := fy.cells
              obtain ⟨e4, e5, e6, e7⟩ := rz.cells
              go_wp2_with fail
              have sz := set_grownC Z W.heap.size 0 1 (.iface 107 (.agg #[.iface T1 x1, .iface U1 y1])) (.int .i64 ((k1 : Int) + (k2 : Int)))
              exact ret_simP ((rz.set0 _).set1 _) rfl rfl ⟨by rw [HS.out _ rfl], setCell_grown (setCell_grown (grown_trans2 gV gz) (.inr (Nat.le_refl _)) _) (.inr (Nat.le_refl _)) _, m2, nz, Mz.kept sz (by intro e; have := Option.some.inj e; omega)⟩
      · go_simp
        obtain ⟨W7, e7⟩ : ∃ W', W' = W2.alloc (.cells #[.nilIface, .int .i64 0] 73) := ⟨_, rfl⟩
        have g7 : V.grownBy W7 (some B) := by rw [e7]; exact grown_alloc (g2) _
        have M7 : Memo W7 B m2 := by rw [e7]; exact (M2).kept (World.grownBy_alloc _ _ none) (by simp)
        have f7_9 : Lies W7 W2.heap.size #[.nilIface, .int .i64 0] 73 := by rw [e7]; exact Lies.new W2 _ _
        have z7 := Lib.hid (show W7.heap.size = W2.heap.size + 1 by rw [e7]; simp)
        rw [← e7]
        clear e7
        refine hK _ _ g7 (fun _ => ?_)
        clear hK K
        go_simp
        refine wpAnyH_ready (rs := [8]) (by kernel_rfl) (by simp) ?_
        refine AllReadyH.cons rfl (fun K hK => ?_) AllReadyH.nil
        · go_simp
          obtain ⟨W8, e8⟩ : ∃ W', W' = W7.alloc (.cells #[.nilIface, .int .i64 0] 73) := ⟨_, rfl⟩
          have g8 : V.grownBy W8 (some B) := by rw [e8]; exact grown_alloc (g7) _
          have M8 : Memo W8 B m2 := by rw [e8]; exact (M7).kept (World.grownBy_alloc _ _ none) (by simp)
          have f8_8 : Lies W8 W7.heap.size #[.nilIface, .int .i64 0] 73 := by rw [e8]; exact Lies.new W7 _ _
          have f8_9 : Lies W8 W2.heap.size #[.nilIface, .int .i64 0] 73 := by rw [e8]; exact Lies.alloc f7_9 _
          have z8 := Lib.hid (show W8.heap.size = W7.heap.size + 1 by rw [e8]; simp)
          rw [← e8]
          clear e8
          refine hK _ _ g8 (fun _ => ?_)
          clear hK K
          go_simp
          refine wpAnyH_ready (rs := [10]) (by kernel_rfl) (by simp) ?_
          refine AllReadyH.cons rfl (fun K hK => ?_) AllReadyH.nil
          · go_simp
            obtain ⟨c0, c1', c2', c3⟩ := (f8_8).cells
            go_simp
            have vle9 : V.heap.size ≤ W7.heap.size := by have qz1 := z1.out; have qz2 := z2.out; have qz7 := z7.out; have qz8 := z8.out; omega
            have s9 := set_grownC W8 (W7.heap.size) 0 1 (.iface T1 x1) (.int .i64 (k1 : Int))
            have g9 : V.grownBy ((W8.setCell ⟨W7.heap.size, 0, none⟩ (.iface T1 x1)).setCell ⟨W7.heap.size, 1, none⟩ (.int .i64 (k1 : Int))) (some B) := setCell_grown (setCell_grown (g8) (.inr vle9) _) (.inr vle9) _
            have M9 : Memo ((W8.setCell ⟨W7.heap.size, 0, none⟩ (.iface T1 x1)).setCell ⟨W7.heap.size, 1, none⟩ (.int .i64 (k1 : Int))) B m2 := (M8).kept s9 (by intro e; have := Option.some.inj e; have qz1 := z1.out; have qz2 := z2.out; have qz7 := z7.out; have qz8 := z8.out; omega)
            have f9_8 := ((f8_8).set0 (.iface T1 x1)).set1 (.int .i64 (k1 : Int))
            have f9_9 := (f8_9).kept s9 (by intro e; have := Option.some.inj e; have qz1 := z1.out; have qz2 := z2.out; have qz7 := z7.out; have qz8 := z8.out; omega)
            refine hK _ _ g9 (fun _ => ?_)
            clear hK K
            go_simp
            refine wpAnyH_ready (rs := [11]) (by kernel_rfl) (by simp) ?_
            refine AllReadyH.cons rfl (fun K hK => ?_) AllReadyH.nil
            · go_simp
              obtain ⟨c0, c1', c2', c3⟩ := (f9_9).cells
              obtain ⟨b0, b1, b2, b3⟩ := (f8_9).cells
              have d1 : W7.heap.size ≠ W2.heap.size := by have qz1 := z1.out; have qz2 := z2.out; have qz7 := z7.out; have qz8 := z8.out; omega
              have d2 : W2.heap.size ≠ W7.heap.size := fun e => d1 e.symm
              go_simp
              have vle10 : V.heap.size ≤ W2.heap.size := by have qz1 := z1.out; have qz2 := z2.out; have qz7 := z7.out; have qz8 := z8.out; omega
              have s10 := set_grownC ((W8.setCell ⟨W7.heap.size, 0, none⟩ (.iface T1 x1)).setCell ⟨W7.heap.size, 1, none⟩ (.int .i64 (k1 : Int))) (W2.heap.size) 0 1 (.iface U1 y1) (.int .i64 (k2 : Int))
              have g10 : V.grownBy ((((W8.setCell ⟨W7.heap.size, 0, none⟩ (.iface T1 x1)).setCell ⟨W7.heap.size, 1, none⟩ (.int .i64 (k1 : Int))).setCell ⟨W2.heap.size, 0, none⟩ (.iface U1 y1)).setCell ⟨W2.heap.size, 1, none⟩ (.int .i64 (k2 : Int))) (some B) := setCell_grown (setCell_grown (g9) (.inr vle10) _) (.inr vle10) _
              have M10 : Memo ((((W8.setCell ⟨W7.heap.size, 0, none⟩ (.iface T1 x1)).setCell ⟨W7.heap.size, 1, none⟩ (.int .i64 (k1 : Int))).setCell ⟨W2.heap.size, 0, none⟩ (.iface U1 y1)).setCell ⟨W2.heap.size, 1, none⟩ (.int .i64 (k2 : Int))) B m2 := (M9).kept s10 (by intro e; have := Option.some.inj e; have qz1 := z1.out; have qz2 := z2.out; have qz7 := z7.out; have qz8 := z8.out; omega)
              have f10_9 := ((f9_9).set0 (.iface U1 y1)).set1 (.int .i64 (k2 : Int))
              have f10_8 := (f9_8).kept s10 (by intro e; have := Option.some.inj e; have qz1 := z1.out; have qz2 := z2.out; have qz7 := z7.out; have qz8 := z8.out; omega)
              refine hK _ _ g10 (fun _ => ?_)
              clear hK K
              go_simp
              refine wpAnyH_done (by kernel_rfl) ?_ _
              have fx := f10_8
              have fy := f10_9
              have gz := g10
              have Mz := M10
              have nz : m2 ≤ n + (c1 + c2) := by omega
              obtain ⟨Z, hZ⟩ : ∃ Z, Z = ((((W8.setCell ⟨W7.heap.size, 0, none⟩ (.iface T1 x1)).setCell ⟨W7.heap.size, 1, none⟩ (.int .i64 (k1 : Int))).setCell ⟨W2.heap.size, 0, none⟩ (.iface U1 y1)).setCell ⟨W2.heap.size, 1, none⟩ (.int .i64 (k2 : Int))) := ⟨_, rfl⟩
              rw [← hZ] at fx fy gz Mz ⊢
              have HZ := Lib.hid hZ
              clear hZ
              have rz := r0.kept gz (by intro e; have := Option.some.inj e; omega)
              obtain ⟨e0, e1, _, _⟩ := fx.cells
              obtain ⟨e2, e3, _, _⟩ := fy.cells
              obtain ⟨e4, e5, e6, e7⟩ := rz.cells
              go_wp2_with fail
              have sz := set_grownC Z W.heap.size 0 1 (.iface 107 (.agg #[.iface T1 x1, .iface U1 y1])) (.int .i64 ((k1 : Int) + (k2 : Int)))
              exact ret_simP ((rz.set0 _).set1 _) rfl rfl ⟨by rw [HS.out _ rfl], setCell_grown (setCell_grown (grown_trans2 gV gz) (.inr (Nat.le_refl _)) _) (.inr (Nat.le_refl _)) _, m2, nz, Mz.kept sz (by intro e; have := Option.some.inj e; omega)⟩
    · go_simp
      obtain ⟨W11, e11⟩ : ∃ W', W' = W1.alloc (.cells #[.nilIface, .int .i64 0] 73) := ⟨_, rfl⟩
      have g11 : V.grownBy W11 (some B) := by rw [e11]; exact grown_alloc (g1) _
      have M11 : Memo W11 B m1 := by rw [e11]; exact (M1).kept (World.grownBy_alloc _ _ none) (by simp)
      have f11_8 : Lies W11 W1.heap.size #[.nilIface, .int .i64 0] 73 := by rw [e11]; exact Lies.new W1 _ _
      have z11 := Lib.hid (show W11.heap.size = W1.heap.size + 1 by rw [e11]; simp)
      rw [← e11]
      clear e11
      refine hK _ _ g11 (fun _ => ?_)
      clear hK K
      go_simp
      refine wpAnyH_ready (rs := [7, 9]) (by kernel_rfl) (by simp) ?_
      refine AllReadyH.cons rfl (fun K hK => ?_) (AllReadyH.cons rfl (fun K hK => ?_) AllReadyH.nil)
      · go_simp
        go_wp2_with (go_at_call 64; refine (IB _ m1 g11 M11 (by omega)).mono ?_; rintro e W12 ⟨rfl, h12, m12, hm12, M12⟩; unfold simV; rw [hq])
        have g12 := grown_trans2 (g11) h12
        have f12_8 := Lies.kept f11_8 h12 (by intro e; have := Option.some.inj e; have qz1 := z1.out; have qz11 := z11.out; omega)
        have z12 := Lib.hid (show W11.heap.size ≤ W12.heap.size from h12.size)
        refine hK _ _ g12 (fun _ => ?_)
        clear hK K h12
        go_simp
        have n12 : m12 ≤ n + c1 + c2 := by omega
        refine wpAnyH_ready (rs := [9]) (by kernel_rfl) (by simp) ?_
        refine AllReadyH.cons rfl (fun K hK => ?_) AllReadyH.nil
        · go_simp
          obtain ⟨W13, e13⟩ : ∃ W', W' = W12.alloc (.cells #[.nilIface, .int .i64 0] 73) := ⟨_, rfl⟩
          have g13 : V.grownBy W13 (some B) := by rw [e13]; exact grown_alloc (g12) _
          have M13 : Memo W13 B m12 := by rw [e13]; exact (M12).kept (World.grownBy_alloc _ _ none) (by simp)
          have f13_9 : Lies W13 W12.heap.size #[.nilIface, .int .i64 0] 73 := by rw [e13]; exact Lies.new W12 _ _
          have f13_8 : Lies W13 W1.heap.size #[.nilIface, .int .i64 0] 73 := by rw [e13]; exact Lies.alloc f12_8 _
          have z13 := Lib.hid (show W13.heap.size = W12.heap.size + 1 by rw [e13]; simp)
          rw [← e13]
          clear e13
          refine hK _ _ g13 (fun _ => ?_)
          clear hK K
          go_simp
          refine wpAnyH_ready (rs := [10]) (by kernel_rfl) (by simp) ?_
          refine AllReadyH.cons rfl (fun K hK => ?_) AllReadyH.nil
          · go_simp
            obtain ⟨c0, c1', c2', c3⟩ := (f13_8).cells
            go_simp
            have vle14 : V.heap.size ≤ W1.heap.size := by have qz1 := z1.out; have qz11 := z11.out; have qz12 := z12.out; have qz13 := z13.out; omega
            have s14 := set_grownC W13 (W1.heap.size) 0 1 (.iface T1 x1) (.int .i64 (k1 : Int))
            have g14 : V.grownBy ((W13.setCell ⟨W1.heap.size, 0, none⟩ (.iface T1 x1)).setCell ⟨W1.heap.size, 1, none⟩ (.int .i64 (k1 : Int))) (some B) := setCell_grown (setCell_grown (g13) (.inr vle14) _) (.inr vle14) _
            have M14 : Memo ((W13.setCell ⟨W1.heap.size, 0, none⟩ (.iface T1 x1)).setCell ⟨W1.heap.size, 1, none⟩ (.int .i64 (k1 : Int))) B m12 := (M13).kept s14 (by intro e; have := Option.some.inj e; have qz1 := z1.out; have qz11 := z11.out; have qz12 := z12.out; have qz13 := z13.out; omega)
            have f14_8 := ((f13_8).set0 (.iface T1 x1)).set1 (.int .i64 (k1 : Int))
            have f14_9 := (f13_9).kept s14 (by intro e; have := Option.some.inj e; have qz1 := z1.out; have qz11 := z11.out; have qz12 := z12.out; have qz13 := z13.out; omega)
            refine hK _ _ g14 (fun _ => ?_)
            clear hK K
            go_simp
            refine wpAnyH_ready (rs := [11]) (by kernel_rfl) (by simp) ?_
            refine AllReadyH.cons rfl (fun K hK => ?_) AllReadyH.nil
            · go_simp
              obtain ⟨c0, c1', c2', c3⟩ := (f14_9).cells
              obtain ⟨b0, b1, b2, b3⟩ := (f13_9).cells
              have d1 : W1.heap.size ≠ W12.heap.size := by have qz1 := z1.out; have qz11 := z11.out; have qz12 := z12.out; have qz13 := z13.out; omega
              have d2 : W12.heap.size ≠ W1.heap.size := fun e => d1 e.symm
              go_simp
              have vle15 : V.heap.size ≤ W12.heap.size := by have qz1 := z1.out; have qz11 := z11.out; have qz12 := z12.out; have qz13 := z13.out; omega
              have s15 := set_grownC ((W13.setCell ⟨W1.heap.size, 0, none⟩ (.iface T1 x1)).setCell ⟨W1.heap.size, 1, none⟩ (.int .i64 (k1 : Int))) (W12.heap.size) 0 1 (.iface U1 y1) (.int .i64 (k2 : Int))
              have g15 : V.grownBy ((((W13.setCell ⟨W1.heap.size, 0, none⟩ (.iface T1 x1)).setCell ⟨W1.heap.size, 1, none⟩ (.int .i64 (k1 : Int))).setCell ⟨W12.heap.size, 0, none⟩ (.iface U1 y1)).setCell ⟨W12.heap.size, 1, none⟩ (.int .i64 (k2 : Int))) (some B) := setCell_grown (setCell_grown (g14) (.inr vle15) _) (.inr vle15) _
              have M15 : Memo ((((W13.setCell ⟨W1.heap.size, 0, none⟩ (.iface T1 x1)).setCell ⟨W1.heap.size, 1, none⟩ (.int .i64 (k1 : Int))).setCell ⟨W12.heap.size, 0, none⟩ (.iface U1 y1)).setCell ⟨W12.heap.size, 1, none⟩ (.int .i64 (k2 : Int))) B m12 := (M14).kept s15 (by intro e; have := Option.some.inj e; have qz1 := z1.out; have qz11 := z11.out; have qz12 := z12.out; have qz13 := z13.out; omega)
              have f15_9 := ((f14_9).set0 (.iface U1 y1)).set1 (.int .i64 (k2 : Int))
              have f15_8 := (f14_8).kept s15 (by intro e; have := Option.some.inj e; have qz1 := z1.out; have qz11 := z11.out; have qz12 := z12.out; have qz13 := z13.out; omega)
              refine hK _ _ g15 (fun _ => ?_)
              clear hK K
              go_simp
              refine wpAnyH_done (by kernel_rfl) ?_ _
              have fx := f15_8
              have fy := f15_9
              have gz := g15
              have Mz := M15
              have nz : m12 ≤ n + (c1 + c2) := by omega
              obtain ⟨Z, hZ⟩ : ∃ Z, Z = ((((W13.setCell ⟨W1.heap.size, 0, none⟩ (.iface T1 x1)).setCell ⟨W1.heap.size, 1, none⟩ (.int .i64 (k1 : Int))).setCell ⟨W12.heap.size, 0, none⟩ (.iface U1 y1)).setCell ⟨W12.heap.size, 1, none⟩ (.int .i64 (k2 : Int))) := ⟨_, rfl⟩
              rw [← hZ] at fx fy gz Mz ⊢
              have HZ := Lib.hid hZ
              clear hZ
              have rz := r0.kept gz (by intro e; have := Option.some.inj e; omega)
              obtain ⟨e0, e1, _, _⟩ := fx.cells
              obtain ⟨e2, e3, _, _⟩ := fy.cells
              obtain ⟨e4, e5, e6, e7⟩ := rz.cells
              go_wp2_with fail
              have sz := set_grownC Z W.heap.size 0 1 (.iface 107 (.agg #[.iface T1 x1, .iface U1 y1])) (.int .i64 ((k1 : Int) + (k2 : Int)))
              exact ret_simP ((rz.set0 _).set1 _) rfl rfl ⟨by rw [HS.out _ rfl], setCell_grown (setCell_grown (grown_trans2 gV gz) (.inr (Nat.le_refl _)) _) (.inr (Nat.le_refl _)) _, m12, nz, Mz.kept sz (by intro e; have := Option.some.inj e; omega)⟩
      · go_simp
        obtain ⟨W16, e16⟩ : ∃ W', W' = W11.alloc (.cells #[.nilIface, .int .i64 0] 73) := ⟨_, rfl⟩
        have g16 : V.grownBy W16 (some B) := by rw [e16]; exact grown_alloc (g11) _
        have M16 : Memo W16 B m1 := by rw [e16]; exact (M11).kept (World.grownBy_alloc _ _ none) (by simp)
        have f16_9 : Lies W16 W11.heap.size #[.nilIface, .int .i64 0] 73 := by rw [e16]; exact Lies.new W11 _ _
        have f16_8 : Lies W16 W1.heap.size #[.nilIface, .int .i64 0] 73 := by rw [e16]; exact Lies.alloc f11_8 _
        have z16 := Lib.hid (show W16.heap.size = W11.heap.size + 1 by rw [e16]; simp)
        rw [← e16]
        clear e16
        refine hK _ _ g16 (fun _ => ?_)
        clear hK K
        go_simp
        refine wpAnyH_ready (rs := [7]) (by kernel_rfl) (by simp) ?_
        refine AllReadyH.cons rfl (fun K hK => ?_) AllReadyH.nil
        · go_simp
          go_wp2_with (go_at_call 64; refine (IB _ m1 g16 M16 (by omega)).mono ?_; rintro e W17 ⟨rfl, h17, m17, hm17, M17⟩; unfold simV; rw [hq])
          have g17 := grown_trans2 (g16) h17
          have f17_8 := Lies.kept f16_8 h17 (by intro e; have := Option.some.inj e; have qz1 := z1.out; have qz11 := z11.out; have qz16 := z16.out; omega)
          have f17_9 := Lies.kept f16_9 h17 (by intro e; have := Option.some.inj e; have qz1 := z1.out; have qz11 := z11.out; have qz16 := z16.out; omega)
          have z17 := Lib.hid (show W16.heap.size ≤ W17.heap.size from h17.size)
          refine hK _ _ g17 (fun _ => ?_)
          clear hK K h17
          go_simp
          have n17 : m17 ≤ n + c1 + c2 := by omega
          refine wpAnyH_ready (rs := [10]) (by kernel_rfl) (by simp) ?_
          refine AllReadyH.cons rfl (fun K hK => ?_) AllReadyH.nil
          · go_simp
            obtain ⟨c0, c1', c2', c3⟩ := (f17_8).cells
            go_simp
            have vle18 : V.heap.size ≤ W1.heap.size := by have qz1 := z1.out; have qz11 := z11.out; have qz16 := z16.out; have qz17 := z17.out; omega
            have s18 := set_grownC W17 (W1.heap.size) 0 1 (.iface T1 x1) (.int .i64 (k1 : Int))
            have g18 : V.grownBy ((W17.setCell ⟨W1.heap.size, 0, none⟩ (.iface T1 x1)).setCell ⟨W1.heap.size, 1, none⟩ (.int .i64 (k1 : Int))) (some B) := setCell_grown (setCell_grown (g17) (.inr vle18) _) (.inr vle18) _
            have M18 : Memo ((W17.setCell ⟨W1.heap.size, 0, none⟩ (.iface T1 x1)).setCell ⟨W1.heap.size, 1, none⟩ (.int .i64 (k1 : Int))) B m17 := (M17).kept s18 (by intro e; have := Option.some.inj e; have qz1 := z1.out; have qz11 := z11.out; have qz16 := z16.out; have qz17 := z17.out; omega)
            have f18_8 := ((f17_8).set0 (.iface T1 x1)).set1 (.int .i64 (k1 : Int))
            have f18_9 := (f17_9).kept s18 (by intro e; have := Option.some.inj e; have qz1 := z1.out; have qz11 := z11.out; have qz16 := z16.out; have qz17 := z17.out; omega)
            refine hK _ _ g18 (fun _ => ?_)
            clear hK K
            go_simp
            refine wpAnyH_ready (rs := [11]) (by kernel_rfl) (by simp) ?_
            refine AllReadyH.cons rfl (fun K hK => ?_) AllReadyH.nil
            · go_simp
              obtain ⟨c0, c1', c2', c3⟩ := (f18_9).cells
              obtain ⟨b0, b1, b2, b3⟩ := (f17_9).cells
              have d1 : W1.heap.size ≠ W11.heap.size := by have qz1 := z1.out; have qz11 := z11.out; have qz16 := z16.out; have qz17 := z17.out; omega
              have d2 : W11.heap.size ≠ W1.heap.size := fun e => d1 e.symm
              go_simp
              have vle19 : V.heap.size ≤ W11.heap.size := by have qz1 := z1.out; have qz11 := z11.out; have qz16 := z16.out; have qz17 := z17.out; omega
              have s19 := set_grownC ((W17.setCell ⟨W1.heap.size, 0, none⟩ (.iface T1 x1)).setCell ⟨W1.heap.size, 1, none⟩ (.int .i64 (k1 : Int))) (W11.heap.size) 0 1 (.iface U1 y1) (.int .i64 (k2 : Int))
              have g19 : V.grownBy ((((W17.setCell ⟨W1.heap.size, 0, none⟩ (.iface T1 x1)).setCell ⟨W1.heap.size, 1, none⟩ (.int .i64 (k1 : Int))).setCell ⟨W11.heap.size, 0, none⟩ (.iface U1 y1)).setCell ⟨W11.heap.size, 1, none⟩ (.int .i64 (k2 : Int))) (some B) := setCell_grown (setCell_grown (g18) (.inr vle19) _) (.inr vle19) _
              have M19 : Memo ((((W17.setCell ⟨W1.heap.size, 0, none⟩ (.iface T1 x1)).setCell ⟨W1.heap.size, 1, none⟩ (.int .i64 (k1 : Int))).setCell ⟨W11.heap.size, 0, none⟩ (.iface U1 y1)).setCell ⟨W11.heap.size, 1, none⟩ (.int .i64 (k2 : Int))) B m17 := (M18).kept s19 (by intro e; have := Option.some.inj e; have qz1 := z1.out; have qz11 := z11.out; have qz16 := z16.out; have qz17 := z17.out; omega)
              have f19_9 := ((f18_9).set0 (.iface U1 y1)).set1 (.int .i64 (k2 : Int))
              have f19_8 := (f18_8).kept s19 (by intro e; have := Option.some.inj e; have qz1 := z1.out; have qz11 := z11.out; have qz16 := z16.out; have qz17 := z17.out; omega)
              refine hK _ _ g19 (fun _ => ?_)
              clear hK K
              go_simp
              refine wpAnyH_done (by kernel_rfl) ?_ _
              have fx := f19_8
              have fy := f19_9
              have gz := g19
              have Mz := M19
              have nz : m17 ≤ n + (c1 + c2) := by omega
              obtain ⟨Z, hZ⟩ : ∃ Z, Z = ((((W17.setCell ⟨W1.heap.size, 0, none⟩ (.iface T1 x1)).setCell ⟨W1.heap.size, 1, none⟩ (.int .i64 (k1 : Int))).setCell ⟨W11.heap.size, 0, none⟩ (.iface U1 y1)).setCell ⟨W11.heap.size, 1, none⟩ (.int .i64 (k2 : Int))) := ⟨_, rfl⟩
              rw [← hZ] at fx fy gz Mz ⊢
              have HZ := Lib.hid hZ
              clear hZ
              have rz := r0.kept gz (by intro e; have := Option.some.inj e; omega)
              obtain ⟨e0, e1, _, _⟩ := fx.cells
              obtain ⟨e2, e3, _, _⟩ := fy.cells
              obtain ⟨e4, e5, e6, e7⟩ := rz.cells
              go_wp2_with fail
              have sz := set_grownC Z W.heap.size 0 1 (.iface 107 (.agg #[.iface T1 x1, .iface U1 y1])) (.int .i64 ((k1 : Int) + (k2 : Int)))
              exact ret_simP ((rz.set0 _).set1 _) rfl rfl ⟨by rw [HS.out _ rfl], setCell_grown (setCell_grown (grown_trans2 gV gz) (.inr (Nat.le_refl _)) _) (.inr (Nat.le_refl _)) _, m17, nz, Mz.kept sz (by intro e; have := Option.some.inj e; omega)⟩
    · go_simp
      obtain ⟨W20, e20⟩ : ∃ W', W' = W1.alloc (.cells #[.nilIface, .int .i64 0] 73) := ⟨_, rfl⟩
      have g20 : V.grownBy W20 (some B) := by rw [e20]; exact grown_alloc (g1) _
      have M20 : Memo W20 B m1 := by rw [e20]; exact (M1).kept (World.grownBy_alloc _ _ none) (by simp)
      have f20_9 : Lies W20 W1.heap.size #[.nilIface, .int .i64 0] 73 := by rw [e20]; exact Lies.new W1 _ _
      have z20 := Lib.hid (show W20.heap.size = W1.heap.size + 1 by rw [e20]; simp)
      rw [← e20]
      clear e20
      refine hK _ _ g20 (fun _ => ?_)
      clear hK K
      go_simp
      refine wpAnyH_ready (rs := [7, 8]) (by kernel_rfl) (by simp) ?_
      refine AllReadyH.cons rfl (fun K hK => ?_) (AllReadyH.cons rfl (fun K hK => ?_) AllReadyH.nil)
      · go_simp
        go_wp2_with (go_at_call 64; refine (IB _ m1 g20 M20 (by omega)).mono ?_; rintro e W21 ⟨rfl, h21, m21, hm21, M21⟩; unfold simV; rw [hq])
        have g21 := grown_trans2 (g20) h21
        have f21_9 := Lies.kept f20_9 h21 (by intro e; have := Option.some.inj e; have qz1 := z1.out; have qz20 := z20.out; omega)
        have z21 := Lib.hid (show W20.heap.size ≤ W21.heap.size from h21.size)
        refine hK _ _ g21 (fun _ => ?_)
        clear hK K h21
        go_simp
        have n21 : m21 ≤ n + c1 + c2 := by omega
        refine wpAnyH_ready (rs := [8]) (by kernel_rfl) (by simp) ?_
        refine AllReadyH.cons rfl (fun K hK => ?_) AllReadyH.nil
        · go_simp
          obtain ⟨W22, e22⟩ : ∃ W', W' = W21.alloc (.cells #[.nilIface, .int .i64 0] 73) := ⟨_, rfl⟩
          have g22 : V.grownBy W22 (some B) := by rw [e22]; exact grown_alloc (g21) _
          have M22 : Memo W22 B m21 := by rw [e22]; exact (M21).kept (World.grownBy_alloc _ _ none) (by simp)
          have f22_8 : Lies W22 W21.heap.size #[.nilIface, .int .i64 0] 73 := by rw [e22]; exact Lies.new W21 _ _
          have f22_9 : Lies W22 W1.heap.size #[.nilIface, .int .i64 0] 73 := by rw [e22]; exact Lies.alloc f21_9 _
          have z22 := Lib.hid (show W22.heap.size = W21.heap.size + 1 by rw [e22]; simp)
          rw [← e22]
          clear e22
          refine hK _ _ g22 (fun _ => ?_)
          clear hK K
          go_simp
          refine wpAnyH_ready (rs := [10]) (by kernel_rfl) (by simp) ?_
          refine AllReadyH.cons rfl (fun K hK => ?_) AllReadyH.nil
          · go_simp
            obtain ⟨c0, c1', c2', c3⟩ := (f22_8).cells
            go_simp
            have vle23 : V.heap.size ≤ W21.heap.size := by have qz1 := z1.out; have qz20 := z20.out; have qz21 := z21.out; have qz22 := z22.out; omega
            have s23 := set_grownC W22 (W21.heap.size) 0 1 (.iface T1 x1) (.int .i64 (k1 : Int))
            have g23 : V.grownBy ((W22.setCell ⟨W21.heap.size, 0, none⟩ (.iface T1 x1)).setCell ⟨W21.heap.size, 1, none⟩ (.int .i64 (k1 : Int))) (some B) := setCell_grown (setCell_grown (g22) (.inr vle23) _) (.inr vle23) _
            have M23 : Memo ((W22.setCell ⟨W21.heap.size, 0, none⟩ (.iface T1 x1)).setCell ⟨W21.heap.size, 1, none⟩ (.int .i64 (k1 : Int))) B m21 := (M22).kept s23 (by intro e; have := Option.some.inj e; have qz1 := z1.out; have qz20 := z20.out; have qz21 := z21.out; have qz22 := z22.out; omega)
            have f23_8 := ((f22_8).set0 (.iface T1 x1)).set1 (.int .i64 (k1 : Int))
            have f23_9 := (f22_9).kept s23 (by intro e; have := Option.some.inj e; have qz1 := z1.out; have qz20 := z20.out; have qz21 := z21.out; have qz22 := z22.out; omega)
            refine hK _ _ g23 (fun _ => ?_)
            clear hK K
            go_simp
            refine wpAnyH_ready (rs := [11]) (by kernel_rfl) (by simp) ?_
            refine AllReadyH.cons rfl (fun K hK => ?_) AllReadyH.nil
            · go_simp
              obtain ⟨c0, c1', c2', c3⟩ := (f23_9).cells
              obtain ⟨b0, b1, b2, b3⟩ := (f22_9).cells
              have d1 : W21.heap.size ≠ W1.heap.size := by have qz1 := z1.out; have qz20 := z20.out; have qz21 := z21.out; have qz22 := z22.out; omega
              have d2 : W1.heap.size ≠ W21.heap.size := fun e => d1 e.symm
              go_simp
              have vle24 : V.heap.size ≤ W1.heap.size := by have qz1 := z1.out; have qz20 := z20.out; have qz21 := z21.out; have qz22 := z22.out; omega
              have s24 := set_grownC ((W22.setCell ⟨W21.heap.size, 0, none⟩ (.iface T1 x1)).setCell ⟨W21.heap.size, 1, none⟩ (.int .i64 (k1 : Int))) (W1.heap.size) 0 1 (.iface U1 y1) (.int .i64 (k2 : Int))
              have g24 : V.grownBy ((((W22.setCell ⟨W21.heap.size, 0, none⟩ (.iface T1 x1)).setCell ⟨W21.heap.size, 1, none⟩ (.int .i64 (k1 : Int))).setCell ⟨W1.heap.size, 0, none⟩ (.iface U1 y1)).setCell ⟨W1.heap.size, 1, none⟩ (.int .i64 (k2 : Int))) (some B) := setCell_grown (setCell_grown (g23) (.inr vle24) _) (.inr vle24) _
              have M24 : Memo ((((W22.setCell ⟨W21.heap.size, 0, none⟩ (.iface T1 x1)).setCell ⟨W21.heap.size, 1, none⟩ (.int .i64 (k1 : Int))).setCell ⟨W1.heap.size, 0, none⟩ (.iface U1 y1)).setCell ⟨W1.heap.size, 1, none⟩ (.int .i64 (k2 : Int))) B m21 := (M23).kept s24 (by intro e; have := Option.some.inj e; have qz1 := z1.out; have qz20 := z20.out; have qz21 := z21.out; have qz22 := z22.out; omega)
              have f24_9 := ((f23_9).set0 (.iface U1 y1)).set1 (.int .i64 (k2 : Int))
              have f24_8 := (f23_8).kept s24 (by intro e; have := Option.some.inj e; have qz1 := z1.out; have qz20 := z20.out; have qz21 := z21.out; have qz22 := z22.out; omega)
              refine hK _ _ g24 (fun _ => ?_)
              clear hK K
              go_simp
              refine wpAnyH_done (by kernel_rfl) ?_ _
              have fx := f24_8
              have fy := f24_9
              have gz := g24
              have Mz := M24
              have nz : m21 ≤ n + (c1 + c2) := by omega
              obtain ⟨Z, hZ⟩ : ∃ Z, Z = ((((W22.setCell ⟨W21.heap.size, 0, none⟩ (.iface T1 x1)).setCell ⟨W21.heap.size, 1, none⟩ (.int .i64 (k1 : Int))).setCell ⟨W1.heap.size, 0, none⟩ (.iface U1 y1)).setCell ⟨W1.heap.size, 1, none⟩ (.int .i64 (k2 : Int))) := ⟨_, rfl⟩
              rw [← hZ] at fx fy gz Mz ⊢
              have HZ := Lib.hid hZ
              clear hZ
              have rz := r0.kept gz (by intro e; have := Option.some.inj e; omega)
              obtain ⟨e0, e1, _, _⟩ := fx.cells
              obtain ⟨e2, e3, _, _⟩ := fy.cells
              obtain ⟨e4, e5, e6, e7⟩ := rz.cells
              go_wp2_with fail
              have sz := set_grownC Z W.heap.size 0 1 (.iface 107 (.agg #[.iface T1 x1, .iface U1 y1])) (.int .i64 ((k1 : Int) + (k2 : Int)))
              exact ret_simP ((rz.set0 _).set1 _) rfl rfl ⟨by rw [HS.out _ rfl], setCell_grown (setCell_grown (grown_trans2 gV gz) (.inr (Nat.le_refl _)) _) (.inr (Nat.le_refl _)) _, m21, nz, Mz.kept sz (by intro e; have := Option.some.inj e; omega)⟩
      · go_simp
        obtain ⟨W25, e25⟩ : ∃ W', W' = W20.alloc (.cells #[.nilIface, .int .i64 0] 73) := ⟨_, rfl⟩
        have g25 : V.grownBy W25 (some B) := by rw [e25]; exact grown_alloc (g20) _
        have M25 : Memo W25 B m1 := by rw [e25]; exact (M20).kept (World.grownBy_alloc _ _ none) (by simp)
        have f25_8 : Lies W25 W20.heap.size #[.nilIface, .int .i64 0] 73 := by rw [e25]; exact Lies.new W20 _ _
        have f25_9 : Lies W25 W1.heap.size #[.nilIface, .int .i64 0] 73 := by rw [e25]; exact Lies.alloc f20_9 _
        have z25 := Lib.hid (show W25.heap.size = W20.heap.size + 1 by rw [e25]; simp)
        rw [← e25]
        clear e25
        refine hK _ _ g25 (fun _ => ?_)
        clear hK K
        go_simp
        refine wpAnyH_ready (rs := [7]) (by kernel_rfl) (by simp) ?_
        refine AllReadyH.cons rfl (fun K hK => ?_) AllReadyH.nil
        · go_simp
          go_wp2_with (go_at_call 64; refine (IB _ m1 g25 M25 (by omega)).mono ?_; rintro e W26 ⟨rfl, h26, m26, hm26, M26⟩; unfold simV; rw [hq])
          have g26 := grown_trans2 (g25) h26
          have f26_8 := Lies.kept f25_8 h26 (by intro e; have := Option.some.inj e; have qz1 := z1.out; have qz20 := z20.out; have qz25 := z25.out; omega)
          have f26_9 := Lies.kept f25_9 h26 (by intro e; have := Option.some.inj e; have qz1 := z1.out; have qz20 := z20.out; have qz25 := z25.out; omega)
          have z26 := Lib.hid (show W25.heap.size ≤ W26.heap.size from h26.size)
          refine hK _ _ g26 (fun _ => ?_)
          clear hK K h26
          go_simp
          have n26 : m26 ≤ n + c1 + c2 := by omega
          refine wpAnyH_ready (rs := [10]) (by kernel_rfl) (by simp) ?_
          refine AllReadyH.cons rfl (fun K hK => ?_) AllReadyH.nil
          · go_simp
            obtain ⟨c0, c1', c2', c3⟩ := (f26_8).cells
            go_simp
            have vle27 : V.heap.size ≤ W20.heap.size := by have qz1 := z1.out; have qz20 := z20.out; have qz25 := z25.out; have qz26 := z26.out; omega
            have s27 := set_grownC W26 (W20.heap.size) 0 1 (.iface T1 x1) (.int .i64 (k1 : Int))
            have g27 : V.grownBy ((W26.setCell ⟨W20.heap.size, 0, none⟩ (.iface T1 x1)).setCell ⟨W20.heap.size, 1, none⟩ (.int .i64 (k1 : Int))) (some B) := setCell_grown (setCell_grown (g26) (.inr vle27) _) (.inr vle27) _
            have M27 : Memo ((W26.setCell ⟨W20.heap.size, 0, none⟩ (.iface T1 x1)).setCell ⟨W20.heap.size, 1, none⟩ (.int .i64 (k1 : Int))) B m26 := (M26).kept s27 (by intro e; have := Option.some.inj e; have qz1 := z1.out; have qz20 := z20.out; have qz25 := z25.out; have qz26 := z26.out; omega)
            have f27_8 := ((f26_8).set0 (.iface T1 x1)).set1 (.int .i64 (k1 : Int))
            have f27_9 := (f26_9).kept s27 (by intro e; have := Option.some.inj e; have qz1 := z1.out; have qz20 := z20.out; have qz25 := z25.out; have qz26 := z26.out; omega)
            refine hK _ _ g27 (fun _ => ?_)
            clear hK K
            go_simp
            refine wpAnyH_ready (rs := [11]) (by kernel_rfl) (by simp) ?_
            refine AllReadyH.cons rfl (fun K hK => ?_) AllReadyH.nil
            · go_simp
              obtain ⟨c0, c1', c2', c3⟩ := (f27_9).cells
              obtain ⟨b0, b1, b2, b3⟩ := (f26_9).cells
              have d1 : W20.heap.size ≠ W1.heap.size := by have qz1 := z1.out; have qz20 := z20.out; have qz25 := z25.out; have qz26 := z26.out; omega
              have d2 : W1.heap.size ≠ W20.heap.size := fun e => d1 e.symm
              go_simp
              have vle28 : V.heap.size ≤ W1.heap.size := by have qz1 := z1.out; have qz20 := z20.out; have qz25 := z25.out; have qz26 := z26.out; omega
              have s28 := set_grownC ((W26.setCell ⟨W20.heap.size, 0, none⟩ (.iface T1 x1)).setCell ⟨W20.heap.size, 1, none⟩ (.int .i64 (k1 : Int))) (W1.heap.size) 0 1 (.iface U1 y1) (.int .i64 (k2 : Int))
              have g28 : V.grownBy ((((W26.setCell ⟨W20.heap.size, 0, none⟩ (.iface T1 x1)).setCell ⟨W20.heap.size, 1, none⟩ (.int .i64 (k1 : Int))).setCell ⟨W1.heap.size, 0, none⟩ (.iface U1 y1)).setCell ⟨W1.heap.size, 1, none⟩ (.int .i64 (k2 : Int))) (some B) := setCell_grown (setCell_grown (g27) (.inr vle28) _) (.inr vle28) _
              have M28 : Memo ((((W26.setCell ⟨W20.heap.size, 0, none⟩ (.iface T1 x1)).setCell ⟨W20.heap.size, 1, none⟩ (.int .i64 (k1 : Int))).setCell ⟨W1.heap.size, 0, none⟩ (.iface U1 y1)).setCell ⟨W1.heap.size, 1, none⟩ (.int .i64 (k2 : Int))) B m26 := (M27).kept s28 (by intro e; have := Option.some.inj e; have qz1 := z1.out; have qz20 := z20.out; have qz25 := z25.out; have qz26 := z26.out; omega)
              have f28_9 := ((f27_9).set0 (.iface U1 y1)).set1 (.int .i64 (k2 : Int))
              have f28_8 := (f27_8).kept s28 (by intro e; have := Option.some.inj e; have qz1 := z1.out; have qz20 := z20.out; have qz25 := z25.out; have qz26 := z26.out; omega)
              refine hK _ _ g28 (fun _ => ?_)
              clear hK K
              go_simp
              refine wpAnyH_done (by kernel_rfl) ?_ _
              have fx := f28_8
              have fy := f28_9
              have gz := g28
              have Mz := M28
              have nz : m26 ≤ n + (c1 + c2) := by omega
              obtain ⟨Z, hZ⟩ : ∃ Z, Z = ((((W26.setCell ⟨W20.heap.size, 0, none⟩ (.iface T1 x1)).setCell ⟨W20.heap.size, 1, none⟩ (.int .i64 (k1 : Int))).setCell ⟨W1.heap.size, 0, none⟩ (.iface U1 y1)).setCell ⟨W1.heap.size, 1, none⟩ (.int .i64 (k2 : Int))) := ⟨_, rfl⟩
              rw [← hZ] at fx fy gz Mz ⊢
              have HZ := Lib.hid hZ
              clear hZ
              have rz := r0.kept gz (by intro e; have := Option.some.inj e; omega)
              obtain ⟨e0, e1, _, _⟩ := fx.cells
              obtain ⟨e2, e3, _, _⟩ := fy.cells
              obtain ⟨e4, e5, e6, e7⟩ := rz.cells
              go_wp2_with fail
              have sz := set_grownC Z W.heap.size 0 1 (.iface 107 (.agg #[.iface T1 x1, .iface U1 y1])) (.int .i64 ((k1 : Int) + (k2 : Int)))
              exact ret_simP ((rz.set0 _).set1 _) rfl rfl ⟨by rw [HS.out _ rfl], setCell_grown (setCell_grown (grown_trans2 gV gz) (.inr (Nat.le_refl _)) _) (.inr (Nat.le_refl _)) _, m26, nz, Mz.kept sz (by intro e; have := Option.some.inj e; omega)⟩
  · go_simp
    obtain ⟨W29, e29⟩ : ∃ W', W' = (V.alloc (.cells #[.nilIface, .int .i64 0] 73)).drew := ⟨_, rfl⟩
    have g29 : V.grownBy W29 (some B) := by rw [e29]; exact grown_drew (World.grownBy_alloc _ _ _)
    have M29 : Memo W29 B n := by rw [e29]; exact (hMV.kept (World.grownBy_alloc V _ none) (by simp)).kept (row := none) ⟨rfl, rfl, rfl, Nat.le_refl _, fun _ _ _ => rfl⟩ (by simp)
    have f29_8 : Lies W29 V.heap.size #[.nilIface, .int .i64 0] 73 := by rw [e29]; exact Lies.new V _ _
    have z29 := Lib.hid (show W29.heap.size = V.heap.size + 1 by rw [e29]; simp)
    rw [← e29]
    clear e29
    refine hK _ _ g29 (fun _ => ?_)
    clear hK K
    go_simp
    refine wpAnyH_ready (rs := [3, 9]) (by kernel_rfl) (by simp) ?_
    refine AllReadyH.cons rfl (fun K hK => ?_) (AllReadyH.cons rfl (fun K hK => ?_) AllReadyH.nil)
    · go_simp
      go_wp2_with (go_at_call 64; refine (IA _ n g29 M29 (by omega)).mono ?_; rintro e W30 ⟨rfl, h30, m30, hm30, M30⟩; unfold simV; rw [hp])
      have g30 := grown_trans2 (g29) h30
      have f30_8 := Lies.kept f29_8 h30 (by intro e; have := Option.some.inj e; have qz29 := z29.out; omega)
      have z30 := Lib.hid (show W29.heap.size ≤ W30.heap.size from h30.size)
      refine hK _ _ g30 (fun _ => ?_)
      clear hK K h30
      go_simp
      have n30 : m30 ≤ n + c1 := by omega
      refine wpAnyH_ready (rs := [7, 9]) (by kernel_rfl) (by simp) ?_
      refine AllReadyH.cons rfl (fun K hK => ?_) (AllReadyH.cons rfl (fun K hK => ?_) AllReadyH.nil)
      · go_simp
        go_wp2_with (go_at_call 64; refine (IB _ m30 g30 M30 (by omega)).mono ?_; rintro e W31 ⟨rfl, h31, m31, hm31, M31⟩; unfold simV; rw [hq])
        have g31 := grown_trans2 (g30) h31
        have f31_8 := Lies.kept f30_8 h31 (by intro e; have := Option.some.inj e; have qz29 := z29.out; have qz30 := z30.out; omega)
        have z31 := Lib.hid (show W30.heap.size ≤ W31.heap.size from h31.size)
        refine hK _ _ g31 (fun _ => ?_)
        clear hK K h31
        go_simp
        have n31 : m31 ≤ n + c1 + c2 := by omega
        refine wpAnyH_ready (rs := [9]) (by kernel_rfl) (by simp) ?_
        refine AllReadyH.cons rfl (fun K hK => ?_) AllReadyH.nil
        · go_simp
          obtain ⟨W32, e32⟩ : ∃ W', W' = W31.alloc (.cells #[.nilIface, .int .i64 0] 73) := ⟨_, rfl⟩
          have g32 : V.grownBy W32 (some B) := by rw [e32]; exact grown_alloc (g31) _
          have M32 : Memo W32 B m31 := by rw [e32]; exact (M31).kept (World.grownBy_alloc _ _ none) (by simp)
          have f32_9 : Lies W32 W31.heap.size #[.nilIface, .int .i64 0] 73 := by rw [e32]; exact Lies.new W31 _ _
          have f32_8 : Lies W32 V.heap.size #[.nilIface, .int .i64 0] 73 := by rw [e32]; exact Lies.alloc f31_8 _
          have z32 := Lib.hid (show W32.heap.size = W31.heap.size + 1 by rw [e32]; simp)
          rw [← e32]
          clear e32
          refine hK _ _ g32 (fun _ => ?_)
          clear hK K
          go_simp
          refine wpAnyH_ready (rs := [10]) (by kernel_rfl) (by simp) ?_
          refine AllReadyH.cons rfl (fun K hK => ?_) AllReadyH.nil
          · go_simp
            obtain ⟨c0, c1', c2', c3⟩ := (f32_8).cells
            go_simp
            have vle33 : V.heap.size ≤ V.heap.size := by have qz29 := z29.out; have qz30 := z30.out; have qz31 := z31.out; have qz32 := z32.out; omega
            have s33 := set_grownC W32 (V.heap.size) 0 1 (.iface T1 x1) (.int .i64 (k1 : Int))
            have g33 : V.grownBy ((W32.setCell ⟨V.heap.size, 0, none⟩ (.iface T1 x1)).setCell ⟨V.heap.size, 1, none⟩ (.int .i64 (k1 : Int))) (some B) := setCell_grown (setCell_grown (g32) (.inr vle33) _) (.inr vle33) _
            have M33 : Memo ((W32.setCell ⟨V.heap.size, 0, none⟩ (.iface T1 x1)).setCell ⟨V.heap.size, 1, none⟩ (.int .i64 (k1 : Int))) B m31 := (M32).kept s33 (by intro e; have := Option.some.inj e; have qz29 := z29.out; have qz30 := z30.out; have qz31 := z31.out; have qz32 := z32.out; omega)
            have f33_8 := ((f32_8).set0 (.iface T1 x1)).set1 (.int .i64 (k1 : Int))
            have f33_9 := (f32_9).kept s33 (by intro e; have := Option.some.inj e; have qz29 := z29.out; have qz30 := z30.out; have qz31 := z31.out; have qz32 := z32.out; omega)
            refine hK _ _ g33 (fun _ => ?_)
            clear hK K
            go_simp
            refine wpAnyH_ready (rs := [11]) (by kernel_rfl) (by simp) ?_
            refine AllReadyH.cons rfl (fun K hK => ?_) AllReadyH.nil
            · go_simp
              obtain ⟨c0, c1', c2', c3⟩ := (f33_9).cells
              obtain ⟨b0, b1, b2, b3⟩ := (f32_9).cells
              have d1 : V.heap.size ≠ W31.heap.size := by have qz29 := z29.out; have qz30 := z30.out; have qz31 := z31.out; have qz32 := z32.out; omega
              have d2 : W31.heap.size ≠ V.heap.size := fun e => d1 e.symm
              go_simp
              have vle34 : V.heap.size ≤ W31.heap.size := by have qz29 := z29.out; have qz30 := z30.out; have qz31 := z31.out; have qz32 := z32.out; omega
              have s34 := set_grownC ((W32.setCell ⟨V.heap.size, 0, none⟩ (.iface T1 x1)).setCell ⟨V.heap.size, 1, none⟩ (.int .i64 (k1 : Int))) (W31.heap.size) 0 1 (.iface U1 y1) (.int .i64 (k2 : Int))
              have g34 : V.grownBy ((((W32.setCell ⟨V.heap.size, 0, none⟩ (.iface T1 x1)).setCell ⟨V.heap.size, 1, none⟩ (.int .i64 (k1 : Int))).setCell ⟨W31.heap.size, 0, none⟩ (.iface U1 y1)).setCell ⟨W31.heap.size, 1, none⟩ (.int .i64 (k2 : Int))) (some B) := setCell_grown (setCell_grown (g33) (.inr vle34) _) (.inr vle34) _
              have M34 : Memo ((((W32.setCell ⟨V.heap.size, 0, none⟩ (.iface T1 x1)).setCell ⟨V.heap.size, 1, none⟩ (.int .i64 (k1 : Int))).setCell ⟨W31.heap.size, 0, none⟩ (.iface U1 y1)).setCell ⟨W31.heap.size, 1, none⟩ (.int .i64 (k2 : Int))) B m31 := (M33).kept s34 (by intro e; have := Option.some.inj e; have qz29 := z29.out; have qz30 := z30.out; have qz31 := z31.out; have qz32 := z32.out; omega)
              have f34_9 := ((f33_9).set0 (.iface U1 y1)).set1 (.int .i64 (k2 : Int))
              have f34_8 := (f33_8).kept s34 (by intro e; have := Option.some.inj e; have qz29 := z29.out; have qz30 := z30.out; have qz31 := z31.out; have qz32 := z32.out; omega)
              refine hK _ _ g34 (fun _ => ?_)
              clear hK K
              go_simp
              refine wpAnyH_done (by kernel_rfl) ?_ _
              have fx := f34_8
              have fy := f34_9
              have gz := g34
              have Mz := M34
              have nz : m31 ≤ n + (c1 + c2) := by omega
              obtain ⟨Z, hZ⟩ : ∃ Z, Z = ((((W32.setCell ⟨V.heap.size, 0, none⟩ (.iface T1 x1)).setCell ⟨V.heap.size, 1, none⟩ (.int .i64 (k1 : Int))).setCell ⟨W31.heap.size, 0, none⟩ (.iface U1 y1)).setCell ⟨W31.heap.size, 1, none⟩ (.int .i64 (k2 : Int))) := ⟨_, rfl⟩
              rw [← hZ] at fx fy gz Mz ⊢
              have HZ := Lib.hid hZ
              clear hZ
              have rz := r0.kept gz (by intro e; have := Option.some.inj e; omega)
              obtain ⟨e0, e1, _, _⟩ := fx.cells
              obtain ⟨e2, e3, _, _⟩ := fy.cells
              obtain ⟨e4, e5, e6, e7⟩ := rz.cells
              go_wp2_with fail
              have sz := set_grownC Z W.heap.size 0 1 (.iface 107 (.agg #[.iface T1 x1, .iface U1 y1])) (.int .i64 ((k1 : Int) + (k2 : Int)))
              exact ret_simP ((rz.set0 _).set1 _) rfl rfl ⟨by rw [HS.out _ rfl], setCell_grown (setCell_grown (grown_trans2 gV gz) (.inr (Nat.le_refl _)) _) (.inr (Nat.le_refl _)) _, m31, nz, Mz.kept sz (by intro e; have := Option.some.inj e; omega)⟩
      · go_simp
        obtain ⟨W35, e35⟩ : ∃ W', W' = W30.alloc (.cells #[.nilIface, .int .i64 0] 73) := ⟨_, rfl⟩
        have g35 : V.grownBy W35 (some B) := by rw [e35]; exact grown_alloc (g30) _
        have M35 : Memo W35 B m30 := by rw [e35]; exact (M30).kept (World.grownBy_alloc _ _ none) (by simp)
        have f35_9 : Lies W35 W30.heap.size #[.nilIface, .int .i64 0] 73 := by rw [e35]; exact Lies.new W30 _ _
        have f35_8 : Lies W35 V.heap.size #[.nilIface, .int .i64 0] 73 := by rw [e35]; exact Lies.alloc f30_8 _
        have z35 := Lib.hid (show W35.heap.size = W30.heap.size + 1 by rw [e35]; simp)
        rw [← e35]
        clear e35
        refine hK _ _ g35 (fun _ => ?_)
        clear hK K
        go_simp
        refine wpAnyH_ready (rs := [7]) (by kernel_rfl) (by simp) ?_
        refine AllReadyH.cons rfl (fun K hK => ?_) AllReadyH.nil
        · go_simp
          go_wp2_with (go_at_call 64; refine (IB _ m30 g35 M35 (by omega)).mono ?_; rintro e W36 ⟨rfl, h36, m36, hm36, M36⟩; unfold simV; rw [hq])
          have g36 := grown_trans2 (g35) h36
          have f36_8 := Lies.kept f35_8 h36 (by intro e; have := Option.some.inj e; have qz29 := z29.out; have qz30 := z30.out; have qz35 := z35.out; omega)
          have f36_9 := Lies.kept f35_9 h36 (by intro e; have := Option.some.inj e; have qz29 := z29.out; have qz30 := z30.out; have qz35 := z35.out; omega)
          have z36 := Lib.hid (show W35.heap.size ≤ W36.heap.size from h36.size)
          refine hK _ _ g36 (fun _ => ?_)
          clear hK K h36
          go_simp
          have n36 : m36 ≤ n + c1 + c2 := by omega
          refine wpAnyH_ready (rs := [10]) (by kernel_rfl) (by simp) ?_
          refine AllReadyH.cons rfl (fun K hK => ?_) AllReadyH.nil
          · go_simp
            obtain ⟨c0, c1', c2', c3⟩ := (f36_8).cells
            go_simp
            have vle37 : V.heap.size ≤ V.heap.size := by have qz29 := z29.out; have qz30 := z30.out; have qz35 := z35.out; have qz36 := z36.out; omega
            have s37 := set_grownC W36 (V.heap.size) 0 1 (.iface T1 x1) (.int .i64 (k1 : Int))
            have g37 : V.grownBy ((W36.setCell ⟨V.heap.size, 0, none⟩ (.iface T1 x1)).setCell ⟨V.heap.size, 1, none⟩ (.int .i64 (k1 : Int))) (some B) := setCell_grown (setCell_grown (g36) (.inr vle37) _) (.inr vle37) _
            have M37 : Memo ((W36.setCell ⟨V.heap.size, 0, none⟩ (.iface T1 x1)).setCell ⟨V.heap.size, 1, none⟩ (.int .i64 (k1 : Int))) B m36 := (M36).kept s37 (by intro e; have := Option.some.inj e; have qz29 := z29.out; have qz30 := z30.out; have qz35 := z35.out; have qz36 := z36.out; omega)
            have f37_8 := ((f36_8).set0 (.iface T1 x1)).set1 (.int .i64 (k1 : Int))
            have f37_9 := (f36_9).kept s37 (by intro e; have := Option.some.inj e; have qz29 := z29.out; have qz30 := z30.out; have qz35 := z35.out; have qz36 := z36.out; omega)
            refine hK _ _ g37 (fun _ => ?_)
            clear hK K
            go_simp
            refine wpAnyH_ready (rs := [11]) (by kernel_rfl) (by simp) ?_
            refine AllReadyH.cons rfl (fun K hK => ?_) AllReadyH.nil
            · go_simp
              obtain ⟨c0, c1', c2', c3⟩ := (f37_9).cells
              obtain ⟨b0, b1, b2, b3⟩ := (f36_9).cells
              have d1 : V.heap.size ≠ W30.heap.size := by have qz29 := z29.out; have qz30 := z30.out; have qz35 := z35.out; have qz36 := z36.out; omega
              have d2 : W30.heap.size ≠ V.heap.size := fun e => d1 e.symm
              go_simp
              have vle38 : V.heap.size ≤ W30.heap.size := by have qz29 := z29.out; have qz30 := z30.out; have qz35 := z35.out; have qz36 := z36.out; omega
              have s38 := set_grownC ((W36.setCell ⟨V.heap.size, 0, none⟩ (.iface T1 x1)).setCell ⟨V.heap.size, 1, none⟩ (.int .i64 (k1 : Int))) (W30.heap.size) 0 1 (.iface U1 y1) (.int .i64 (k2 : Int))
              have g38 : V.grownBy ((((W36.setCell ⟨V.heap.size, 0, none⟩ (.iface T1 x1)).setCell ⟨V.heap.size, 1, none⟩ (.int .i64 (k1 : Int))).setCell ⟨W30.heap.size, 0, none⟩ (.iface U1 y1)).setCell ⟨W30.heap.size, 1, none⟩ (.int .i64 (k2 : Int))) (some B) := setCell_grown (setCell_grown (g37) (.inr vle38) _) (.inr vle38) _
              have M38 : Memo ((((W36.setCell ⟨V.heap.size, 0, none⟩ (.iface T1 x1)).setCell ⟨V.heap.size, 1, none⟩ (.int .i64 (k1 : Int))).setCell ⟨W30.heap.size, 0, none⟩ (.iface U1 y1)).setCell ⟨W30.heap.size, 1, none⟩ (.int .i64 (k2 : Int))) B m36 := (M37).kept s38 (by intro e; have := Option.some.inj e; have qz29 := z29.out; have qz30 := z30.out; have qz35 := z35.out; have qz36 := z36.out; omega)
              have f38_9 := ((f37_9).set0 (.iface U1 y1)).set1 (.int .i64 (k2 : Int))
              have f38_8 := (f37_8).kept s38 (by intro e; have := Option.some.inj e; have qz29 := z29.out; have qz30 := z30.out; have qz35 := z35.out; have qz36 := z36.out; omega)
              refine hK _ _ g38 (fun _ => ?_)
              clear hK K
              go_simp
              refine wpAnyH_done (by kernel_rfl) ?_ _
              have fx := f38_8
              have fy := f38_9
              have gz := g38
              have Mz := M38
              have nz : m36 ≤ n + (c1 + c2) := by omega
              obtain ⟨Z, hZ⟩ : ∃ Z, Z = ((((W36.setCell ⟨V.heap.size, 0, none⟩ (.iface T1 x1)).setCell ⟨V.heap.size, 1, none⟩ (.int .i64 (k1 : Int))).setCell ⟨W30.heap.size, 0, none⟩ (.iface U1 y1)).setCell ⟨W30.heap.size, 1, none⟩ (.int .i64 (k2 : Int))) := ⟨_, rfl⟩
              rw [← hZ] at fx fy gz Mz ⊢
              have HZ := Lib.hid hZ
              clear hZ
              have rz := r0.kept gz (by intro e; have := Option.some.inj e; omega)
              obtain ⟨e0, e1, _, _⟩ := fx.cells
              obtain ⟨e2, e3, _, _⟩ := fy.cells
              obtain ⟨e4, e5, e6, e7⟩ := rz.cells
              go_wp2_with fail
              have sz := set_grownC Z W.heap.size 0 1 (.iface 107 (.agg #[.iface T1 x1, .iface U1 y1])) (.int .i64 ((k1 : Int) + (k2 : Int)))
              exact ret_simP ((rz.set0 _).set1 _) rfl rfl ⟨by rw [HS.out _ rfl], setCell_grown (setCell_grown (grown_trans2 gV gz) (.inr (Nat.le_refl _)) _) (.inr (Nat.le_refl _)) _, m36, nz, Mz.kept sz (by intro e; have := Option.some.inj e; omega)⟩
    · go_simp
      obtain ⟨W39, e39⟩ : ∃ W', W' = W29.alloc (.cells #[.nilIface, .int .i64 0] 73) := ⟨_, rfl⟩
      have g39 : V.grownBy W39 (some B) := by rw [e39]; exact grown_alloc (g29) _
      have M39 : Memo W39 B n := by rw [e39]; exact (M29).kept (World.grownBy_alloc _ _ none) (by simp)
      have f39_9 : Lies W39 W29.heap.size #[.nilIface, .int .i64 0] 73 := by rw [e39]; exact Lies.new W29 _ _
      have f39_8 : Lies W39 V.heap.size #[.nilIface, .int .i64 0] 73 := by rw [e39]; exact Lies.alloc f29_8 _
      have z39 := Lib.hid (show W39.heap.size = W29.heap.size + 1 by rw [e39]; simp)
      rw [← e39]
      clear e39
      refine hK _ _ g39 (fun _ => ?_)
      clear hK K
      go_simp
      refine wpAnyH_ready (rs := [3]) (by kernel_rfl) (by simp) ?_
      refine AllReadyH.cons rfl (fun K hK => ?_) AllReadyH.nil
      · go_simp
        go_wp2_with (go_at_call 64; refine (IA _ n g39 M39 (by omega)).mono ?_; rintro e W40 ⟨rfl, h40, m40, hm40, M40⟩; unfold simV; rw [hp])
        have g40 := grown_trans2 (g39) h40
        have f40_8 := Lies.kept f39_8 h40 (by intro e; have := Option.some.inj e; have qz29 := z29.out; have qz39 := z39.out; omega)
        have f40_9 := Lies.kept f39_9 h40 (by intro e; have := Option.some.inj e; have qz29 := z29.out; have qz39 := z39.out; omega)
        have z40 := Lib.hid (show W39.heap.size ≤ W40.heap.size from h40.size)
        refine hK _ _ g40 (fun _ => ?_)
        clear hK K h40
        go_simp
        have n40 : m40 ≤ n + c1 := by omega
        refine wpAnyH_ready (rs := [7]) (by kernel_rfl) (by simp) ?_
        refine AllReadyH.cons rfl (fun K hK => ?_) AllReadyH.nil
        · go_simp
          go_wp2_with (go_at_call 64; refine (IB _ m40 g40 M40 (by omega)).mono ?_; rintro e W41 ⟨rfl, h41, m41, hm41, M41⟩; unfold simV; rw [hq])
          have g41 := grown_trans2 (g40) h41
          have f41_8 := Lies.kept f40_8 h41 (by intro e; have := Option.some.inj e; have qz29 := z29.out; have qz39 := z39.out; have qz40 := z40.out; omega)
          have f41_9 := Lies.kept f40_9 h41 (by intro e; have := Option.some.inj e; have qz29 := z29.out; have qz39 := z39.out; have qz40 := z40.out; omega)
          have z41 := Lib.hid (show W40.heap.size ≤ W41.heap.size from h41.size)
          refine hK _ _ g41 (fun _ => ?_)
          clear hK K h41
          go_simp
          have n41 : m41 ≤ n + c1 + c2 := by omega
          refine wpAnyH_ready (rs := [10]) (by kernel_rfl) (by simp) ?_
          refine AllReadyH.cons rfl (fun K hK => ?_) AllReadyH.nil
          · go_simp
            obtain ⟨c0, c1', c2', c3⟩ := (f41_8).cells
            go_simp
            have vle42 : V.heap.size ≤ V.heap.size := by have qz29 := z29.out; have qz39 := z39.out; have qz40 := z40.out; have qz41 := z41.out; omega
            have s42 := set_grownC W41 (V.heap.size) 0 1 (.iface T1 x1) (.int .i64 (k1 : Int))
            have g42 : V.grownBy ((W41.setCell ⟨V.heap.size, 0, none⟩ (.iface T1 x1)).setCell ⟨V.heap.size, 1, none⟩ (.int .i64 (k1 : Int))) (some B) := setCell_grown (setCell_grown (g41) (.inr vle42) _) (.inr vle42) _
            have M42 : Memo ((W41.setCell ⟨V.heap.size, 0, none⟩ (.iface T1 x1)).setCell ⟨V.heap.size, 1, none⟩ (.int .i64 (k1 : Int))) B m41 := (M41).kept s42 (by intro e; have := Option.some.inj e; have qz29 := z29.out; have qz39 := z39.out; have qz40 := z40.out; have qz41 := z41.out; omega)
            have f42_8 := ((f41_8).set0 (.iface T1 x1)).set1 (.int .i64 (k1 : Int))
            have f42_9 := (f41_9).kept s42 (by intro e; have := Option.some.inj e; have qz29 := z29.out; have qz39 := z39.out; have qz40 := z40.out; have qz41 := z41.out; omega)
            refine hK _ _ g42 (fun _ => ?_)
            clear hK K
            go_simp
            refine wpAnyH_ready (rs := [11]) (by kernel_rfl) (by simp) ?_
            refine AllReadyH.cons rfl (fun K hK => ?_) AllReadyH.nil
            · go_simp
              obtain ⟨c0, c1', c2', c3⟩ := (f42_9).cells
              obtain ⟨b0, b1, b2, b3⟩ := (f41_9).cells
              have d1 : V.heap.size ≠ W29.heap.size := by have qz29 := z29.out; have qz39 := z39.out; have qz40 := z40.out; have qz41 := z41.out; omega
              have d2 : W29.heap.size ≠ V.heap.size := fun e => d1 e.symm
              go_simp
              have vle43 : V.heap.size ≤ W29.heap.size := by have qz29 := z29.out; have qz39 := z39.out; have qz40 := z40.out; have qz41 := z41.out; omega
              have s43 := set_grownC ((W41.setCell ⟨V.heap.size, 0, none⟩ (.iface T1 x1)).setCell ⟨V.heap.size, 1, none⟩ (.int .i64 (k1 : Int))) (W29.heap.size) 0 1 (.iface U1 y1) (.int .i64 (k2 : Int))
              have g43 : V.grownBy ((((W41.setCell ⟨V.heap.size, 0, none⟩ (.iface T1 x1)).setCell ⟨V.heap.size, 1, none⟩ (.int .i64 (k1 : Int))).setCell ⟨W29.heap.size, 0, none⟩ (.iface U1 y1)).setCell ⟨W29.heap.size, 1, none⟩ (.int .i64 (k2 : Int))) (some B) := setCell_grown (setCell_grown (g42) (.inr vle43) _) (.inr vle43) _
              have M43 : Memo ((((W41.setCell ⟨V.heap.size, 0, none⟩ (.iface T1 x1)).setCell ⟨V.heap.size, 1, none⟩ (.int .i64 (k1 : Int))).setCell ⟨W29.heap.size, 0, none⟩ (.iface U1 y1)).setCell ⟨W29.heap.size, 1, none⟩ (.int .i64 (k2 : Int))) B m41 := (M42).kept s43 (by intro e; have := Option.some.inj e; have qz29 := z29.out; have qz39 := z39.out; have qz40 := z40.out; have qz41 := z41.out; omega)
              have f43_9 := ((f42_9).set0 (.iface U1 y1)).set1 (.int .i64 (k2 : Int))
              have f43_8 := (f42_8).kept s43 (by intro e; have := Option.some.inj e; have qz29 := z29.out; have qz39 := z39.out; have qz40 := z40.out; have qz41 := z41.out; omega)
              refine hK _ _ g43 (fun _ => ?_)
              clear hK K
              go_simp
              refine wpAnyH_done (by kernel_rfl) ?_ _
              have fx := f43_8
              have fy := f43_9
              have gz := g43
              have Mz := M43
              have nz : m41 ≤ n + (c1 + c2) := by omega
              obtain ⟨Z, hZ⟩ : ∃ Z, Z = ((((W41.setCell ⟨V.heap.size, 0, none⟩ (.iface T1 x1)).setCell ⟨V.heap.size, 1, none⟩ (.int .i64 (k1 : Int))).setCell ⟨W29.heap.size, 0, none⟩ (.iface U1 y1)).setCell ⟨W29.heap.size, 1, none⟩ (.int .i64 (k2 : Int))) := ⟨_, rfl⟩
              rw [← hZ] at fx fy gz Mz ⊢
              have HZ := Lib.hid hZ
              clear hZ
              have rz := r0.kept gz (by intro e; have := Option.some.inj e; omega)
              obtain ⟨e0, e1, _, _⟩ := fx.cells
              obtain ⟨e2, e3, _, _⟩ := fy.cells
              obtain ⟨e4, e5, e6, e7⟩ := rz.cells
              go_wp2_with fail
              have sz := set_grownC Z W.heap.size 0 1 (.iface 107 (.agg #[.iface T1 x1, .iface U1 y1])) (.int .i64 ((k1 : Int) + (k2 : Int)))
              exact ret_simP ((rz.set0 _).set1 _) rfl rfl ⟨by rw [HS.out _ rfl], setCell_grown (setCell_grown (grown_trans2 gV gz) (.inr (Nat.le_refl _)) _) (.inr (Nat.le_refl _)) _, m41, nz, Mz.kept sz (by intro e; have := Option.some.inj e; omega)⟩
  · go_simp
    obtain ⟨W44, e44⟩ : ∃ W', W' = (V.alloc (.cells #[.nilIface, .int .i64 0] 73)).drew := ⟨_, rfl⟩
    have g44 : V.grownBy W44 (some B) := by rw [e44]; exact grown_drew (World.grownBy_alloc _ _ _)
    have M44 : Memo W44 B n := by rw [e44]; exact (hMV.kept (World.grownBy_alloc V _ none) (by simp)).kept (row := none) ⟨rfl, rfl, rfl, Nat.le_refl _, fun _ _ _ => rfl⟩ (by simp)
    have f44_9 : Lies W44 V.heap.size #[.nilIface, .int .i64 0] 73 := by rw [e44]; exact Lies.new V _ _
    have z44 := Lib.hid (show W44.heap.size = V.heap.size + 1 by rw [e44]; simp)
    rw [← e44]
    clear e44
    refine hK _ _ g44 (fun _ => ?_)
    clear hK K
    go_simp
    refine wpAnyH_ready (rs := [3, 8]) (by kernel_rfl) (by simp) ?_
    refine AllReadyH.cons rfl (fun K hK => ?_) (AllReadyH.cons rfl (fun K hK => ?_) AllReadyH.nil)
    · go_simp
      go_wp2_with (go_at_call 64; refine (IA _ n g44 M44 (by omega)).mono ?_; rintro e W45 ⟨rfl, h45, m45, hm45, M45⟩; unfold simV; rw [hp])
      have g45 := grown_trans2 (g44) h45
      have f45_9 := Lies.kept f44_9 h45 (by intro e; have := Option.some.inj e; have qz44 := z44.out; omega)
      have z45 := Lib.hid (show W44.heap.size ≤ W45.heap.size from h45.size)
      refine hK _ _ g45 (fun _ => ?_)
      clear hK K h45
      go_simp
      have n45 : m45 ≤ n + c1 := by omega
      refine wpAnyH_ready (rs := [7, 8]) (by kernel_rfl) (by simp) ?_
      refine AllReadyH.cons rfl (fun K hK => ?_) (AllReadyH.cons rfl (fun K hK => ?_) AllReadyH.nil)
      · go_simp
        go_wp2_with (go_at_call 64; refine (IB _ m45 g45 M45 (by omega)).mono ?_; rintro e W46 ⟨rfl, h46, m46, hm46, M46⟩; unfold simV; rw [hq])
        have g46 := grown_trans2 (g45) h46
        have f46_9 := Lies.kept f45_9 h46 (by intro e; have := Option.some.inj e; have qz44 := z44.out; have qz45 := z45.out; omega)
        have z46 := Lib.hid (show W45.heap.size ≤ W46.heap.size from h46.size)
        refine hK _ _ g46 (fun _ => ?_)
        clear hK K h46
        go_simp
        have n46 : m46 ≤ n + c1 + c2 := by omega
        refine wpAnyH_ready (rs := [8]) (by kernel_rfl) (by simp) ?_
        refine AllReadyH.cons rfl (fun K hK => ?_) AllReadyH.nil
        · go_simp
          obtain ⟨W47, e47⟩ : ∃ W', W' = W46.alloc (.cells #[.nilIface, .int .i64 0] 73) := ⟨_, rfl⟩
          have g47 : V.grownBy W47 (some B) := by rw [e47]; exact grown_alloc (g46) _
          have M47 : Memo W47 B m46 := by rw [e47]; exact (M46).kept (World.grownBy_alloc _ _ none) (by simp)
          have f47_8 : Lies W47 W46.heap.size #[.nilIface, .int .i64 0] 73 := by rw [e47]; exact Lies.new W46 _ _
          have f47_9 : Lies W47 V.heap.size #[.nilIface, .int .i64 0] 73 := by rw [e47]; exact Lies.alloc f46_9 _
          have z47 := Lib.hid (show W47.heap.size = W46.heap.size + 1 by rw [e47]; simp)
          rw [← e47]
          clear e47
          refine hK _ _ g47 (fun _ => ?_)
          clear hK K
          go_simp
          refine wpAnyH_ready (rs := [10]) (by kernel_rfl) (by simp) ?_
          refine AllReadyH.cons rfl (fun K hK => ?_) AllReadyH.nil
          · go_simp
            obtain ⟨c0, c1', c2', c3⟩ := (f47_8).cells
            go_simp
            have vle48 : V.heap.size ≤ W46.heap.size := by have qz44 := z44.out; have qz45 := z45.out; have qz46 := z46.out; have qz47 := z47.out; omega
            have s48 := set_grownC W47 (W46.heap.size) 0 1 (.iface T1 x1) (.int .i64 (k1 : Int))
            have g48 : V.grownBy ((W47.setCell ⟨W46.heap.size, 0, none⟩ (.iface T1 x1)).setCell ⟨W46.heap.size, 1, none⟩ (.int .i64 (k1 : Int))) (some B) := setCell_grown (setCell_grown (g47) (.inr vle48) _) (.inr vle48) _
            have M48 : Memo ((W47.setCell ⟨W46.heap.size, 0, none⟩ (.iface T1 x1)).setCell ⟨W46.heap.size, 1, none⟩ (.int .i64 (k1 : Int))) B m46 := (M47).kept s48 (by intro e; have := Option.some.inj e; have qz44 := z44.out; have qz45 := z45.out; have qz46 := z46.out; have qz47 := z47.out; omega)
            have f48_8 := ((f47_8).set0 (.iface T1 x1)).set1 (.int .i64 (k1 : Int))
            have f48_9 := (f47_9).kept s48 (by intro e; have := Option.some.inj e; have qz44 := z44.out; have qz45 := z45.out; have qz46 := z46.out; have qz47 := z47.out; omega)
            refine hK _ _ g48 (fun _ => ?_)
            clear hK K
            go_simp
            refine wpAnyH_ready (rs := [11]) (by kernel_rfl) (by simp) ?_
            refine AllReadyH.cons rfl (fun K hK => ?_) AllReadyH.nil
            · go_simp
              obtain ⟨c0, c1', c2', c3⟩ := (f48_9).cells
              obtain ⟨b0, b1, b2, b3⟩ := (f47_9).cells
              have d1 : W46.heap.size ≠ V.heap.size := by have qz44 := z44.out; have qz45 := z45.out; have qz46 := z46.out; have qz47 := z47.out; omega
              have d2 : V.heap.size ≠ W46.heap.size := fun e => d1 e.symm
              go_simp
              have vle49 : V.heap.size ≤ V.heap.size := by have qz44 := z44.out; have qz45 := z45.out; have qz46 := z46.out; have qz47 := z47.out; omega
              have s49 := set_grownC ((W47.setCell ⟨W46.heap.size, 0, none⟩ (.iface T1 x1)).setCell ⟨W46.heap.size, 1, none⟩ (.int .i64 (k1 : Int))) (V.heap.size) 0 1 (.iface U1 y1) (.int .i64 (k2 : Int))
              have g49 : V.grownBy ((((W47.setCell ⟨W46.heap.size, 0, none⟩ (.iface T1 x1)).setCell ⟨W46.heap.size, 1, none⟩ (.int .i64 (k1 : Int))).setCell ⟨V.heap.size, 0, none⟩ (.iface U1 y1)).setCell ⟨V.heap.size, 1, none⟩ (.int .i64 (k2 : Int))) (some B) := setCell_grown (setCell_grown (g48) (.inr vle49) _) (.inr vle49) _
              have M49 : Memo ((((W47.setCell ⟨W46.heap.size, 0, none⟩ (.iface T1 x1)).setCell ⟨W46.heap.size, 1, none⟩ (.int .i64 (k1 : Int))).setCell ⟨V.heap.size, 0, none⟩ (.iface U1 y1)).setCell ⟨V.heap.size, 1, none⟩ (.int .i64 (k2 : Int))) B m46 := (M48).kept s49 (by intro e; have := Option.some.inj e; have qz44 := z44.out; have qz45 := z45.out; have qz46 := z46.out; have qz47 := z47.out; omega)
              have f49_9 := ((f48_9).set0 (.iface U1 y1)).set1 (.int .i64 (k2 : Int))
              have f49_8 := (f48_8).kept s49 (by intro e; have := Option.some.inj e; have qz44 := z44.out; have qz45 := z45.out; have qz46 := z46.out; have qz47 := z47.out; omega)
              refine hK _ _ g49 (fun _ => ?_)
              clear hK K
              go_simp
              refine wpAnyH_done (by kernel_rfl) ?_ _
              have fx := f49_8
              have fy := f49_9
              have gz := g49
              have Mz := M49
              have nz : m46 ≤ n + (c1 + c2) := by omega
              obtain ⟨Z, hZ⟩ : ∃ Z, Z = ((((W47.setCell ⟨W46.heap.size, 0, none⟩ (.iface T1 x1)).setCell ⟨W46.heap.size, 1, none⟩ (.int .i64 (k1 : Int))).setCell ⟨V.heap.size, 0, none⟩ (.iface U1 y1)).setCell ⟨V.heap.size, 1, none⟩ (.int .i64 (k2 : Int))) := ⟨_, rfl⟩
              rw [← hZ] at fx fy gz Mz ⊢
              have HZ := Lib.hid hZ
              clear hZ
              have rz := r0.kept gz (by intro e; have := Option.some.inj e; omega)
              obtain ⟨e0, e1, _, _⟩ := fx.cells
              obtain ⟨e2, e3, _, _⟩ := fy.cells
              obtain ⟨e4, e5, e6, e7⟩ := rz.cells
              go_wp2_with fail
              have sz := set_grownC Z W.heap.size 0 1 (.iface 107 (.agg #[.iface T1 x1, .iface U1 y1])) (.int .i64 ((k1 : Int) + (k2 : Int)))
              exact ret_simP ((rz.set0 _).set1 _) rfl rfl ⟨by rw [HS.out _ rfl], setCell_grown (setCell_grown (grown_trans2 gV gz) (.inr (Nat.le_refl _)) _) (.inr (Nat.le_refl _)) _, m46, nz, Mz.kept sz (by intro e; have := Option.some.inj e; omega)⟩
      · go_simp
        obtain ⟨W50, e50⟩ : ∃ W', W' = W45.alloc (.cells #[.nilIface, .int .i64 0] 73) := ⟨_, rfl⟩
        have g50 : V.grownBy W50 (some B) := by rw [e50]; exact grown_alloc (g45) _
        have M50 : Memo W50 B m45 := by rw [e50]; exact (M45).kept (World.grownBy_alloc _ _ none) (by simp)
        have f50_8 : Lies W50 W45.heap.size #[.nilIface, .int .i64 0] 73 := by rw [e50]; exact Lies.new W45 _ _
        have f50_9 : Lies W50 V.heap.size #[.nilIface, .int .i64 0] 73 := by rw [e50]; exact Lies.alloc f45_9 _
        have z50 := Lib.hid (show W50.heap.size = W45.heap.size + 1 by rw [e50]; simp)
        rw [← e50]
        clear e50
        refine hK _ _ g50 (fun _ => ?_)
        clear hK K
        go_simp
        refine wpAnyH_ready (rs := [7]) (by kernel_rfl) (by simp) ?_
        refine AllReadyH.cons rfl (fun K hK => ?_) AllReadyH.nil
        · go_simp
          go_wp2_with (go_at_call 64; refine (IB _ m45 g50 M50 (by omega)).mono ?_; rintro e W51 ⟨rfl, h51, m51, hm51, M51⟩; unfold simV; rw [hq])
          have g51 := grown_trans2 (g50) h51
          have f51_8 := Lies.kept f50_8 h51 (by intro e; have := Option.some.inj e; have qz44 := z44.out; have qz45 := z45.out; have qz50 := z50.out; omega)
          have f51_9 := Lies.kept f50_9 h51 (by intro e; have := Option.some.inj e; have qz44 := z44.out; have qz45 := z45.out; have qz50 := z50.out; omega)
          have z51 := Lib.hid (show W50.heap.size ≤ W51.heap.size from h51.size)
          refine hK _ _ g51 (fun _ => ?_)
          clear hK K h51
          go_simp
          have n51 : m51 ≤ n + c1 + c2 := by omega
          refine wpAnyH_ready (rs := [10]) (by kernel_rfl) (by simp) ?_
          refine AllReadyH.cons rfl (fun K hK => ?_) AllReadyH.nil
          · go_simp
            obtain ⟨c0, c1', c2', c3⟩ := (f51_8).cells
            go_simp
            have vle52 : V.heap.size ≤ W45.heap.size := by have qz44 := z44.out; have qz45 := z45.out; have qz50 := z50.out; have qz51 := z51.out; omega
            have s52 := set_grownC W51 (W45.heap.size) 0 1 (.iface T1 x1) (.int .i64 (k1 : Int))
            have g52 : V.grownBy ((W51.setCell ⟨W45.heap.size, 0, none⟩ (.iface T1 x1)).setCell ⟨W45.heap.size, 1, none⟩ (.int .i64 (k1 : Int))) (some B) := setCell_grown (setCell_grown (g51) (.inr vle52) _) (.inr vle52) _
            have M52 : Memo ((W51.setCell ⟨W45.heap.size, 0, none⟩ (.iface T1 x1)).setCell ⟨W45.heap.size, 1, none⟩ (.int .i64 (k1 : Int))) B m51 := (M51).kept s52 (by intro e; have := Option.some.inj e; have qz44 := z44.out; have qz45 := z45.out; have qz50 := z50.out; have qz51 := z51.out; omega)
            have f52_8 := ((f51_8).set0 (.iface T1 x1)).set1 (.int .i64 (k1 : Int))
            have f52_9 := (f51_9).kept s52 (by intro e; have := Option.some.inj e; have qz44 := z44.out; have qz45 := z45.out; have qz50 := z50.out; have qz51 := z51.out; omega)
            refine hK _ _ g52 (fun _ => ?_)
            clear hK K
            go_simp
            refine wpAnyH_ready (rs := [11]) (by kernel_rfl) (by simp) ?_
            refine AllReadyH.cons rfl (fun K hK => ?_) AllReadyH.nil
            · go_simp
              obtain ⟨c0, c1', c2', c3⟩ := (f52_9).cells
              obtain ⟨b0, b1, b2, b3⟩ := (f51_9).cells
              have d1 : W45.heap.size ≠ V.heap.size := by have qz44 := z44.out; have qz45 := z45.out; have qz50 := z50.out; have qz51 := z51.out; omega
              have d2 : V.heap.size ≠ W45.heap.size := fun e => d1 e.symm
              go_simp
              have vle53 : V.heap.size ≤ V.heap.size := by have qz44 := z44.out; have qz45 := z45.out; have qz50 := z50.out; have qz51 := z51.out; omega
              have s53 := set_grownC ((W51.setCell ⟨W45.heap.size, 0, none⟩ (.iface T1 x1)).setCell ⟨W45.heap.size, 1, none⟩ (.int .i64 (k1 : Int))) (V.heap.size) 0 1 (.iface U1 y1) (.int .i64 (k2 : Int))
              have g53 : V.grownBy ((((W51.setCell ⟨W45.heap.size, 0, none⟩ (.iface T1 x1)).setCell ⟨W45.heap.size, 1, none⟩ (.int .i64 (k1 : Int))).setCell ⟨V.heap.size, 0, none⟩ (.iface U1 y1)).setCell ⟨V.heap.size, 1, none⟩ (.int .i64 (k2 : Int))) (some B) := setCell_grown (setCell_grown (g52) (.inr vle53) _) (.inr vle53) _
              have M53 : Memo ((((W51.setCell ⟨W45.heap.size, 0, none⟩ (.iface T1 x1)).setCell ⟨W45.heap.size, 1, none⟩ (.int .i64 (k1 : Int))).setCell ⟨V.heap.size, 0, none⟩ (.iface U1 y1)).setCell ⟨V.heap.size, 1, none⟩ (.int .i64 (k2 : Int))) B m51 := (M52).kept s53 (by intro e; have := Option.some.inj e; have qz44 := z44.out; have qz45 := z45.out; have qz50 := z50.out; have qz51 := z51.out; omega)
              have f53_9 := ((f52_9).set0 (.iface U1 y1)).set1 (.int .i64 (k2 : Int))
              have f53_8 := (f52_8).kept s53 (by intro e; have := Option.some.inj e; have qz44 := z44.out; have qz45 := z45.out; have qz50 := z50.out; have qz51 := z51.out; omega)
              refine hK _ _ g53 (fun _ => ?_)
              clear hK K
              go_simp
              refine wpAnyH_done (by kernel_rfl) ?_ _
              have fx := f53_8
              have fy := f53_9
              have gz := g53
              have Mz := M53
              have nz : m51 ≤ n + (c1 + c2) := by omega
              obtain ⟨Z, hZ⟩ : ∃ Z, Z = ((((W51.setCell ⟨W45.heap.size, 0, none⟩ (.iface T1 x1)).setCell ⟨W45.heap.size, 1, none⟩ (.int .i64 (k1 : Int))).setCell ⟨V.heap.size, 0, none⟩ (.iface U1 y1)).setCell ⟨V.heap.size, 1, none⟩ (.int .i64 (k2 : Int))) := ⟨_, rfl⟩
              rw [← hZ] at fx fy gz Mz ⊢
              have HZ := Lib.hid hZ
              clear hZ
              have rz := r0.kept gz (by intro e; have := Option.some.inj e; omega)
              obtain ⟨e0, e1, _, _⟩ := fx.cells
              obtain ⟨e2, e3, _, _⟩ := fy.cells
              obtain ⟨e4, e5, e6, e7⟩ := rz.cells
              go_wp2_with fail
              have sz := set_grownC Z W.heap.size 0 1 (.iface 107 (.agg #[.iface T1 x1, .iface U1 y1])) (.int .i64 ((k1 : Int) + (k2 : Int)))
              exact ret_simP ((rz.set0 _).set1 _) rfl rfl ⟨by rw [HS.out _ rfl], setCell_grown (setCell_grown (grown_trans2 gV gz) (.inr (Nat.le_refl _)) _) (.inr (Nat.le_refl _)) _, m51, nz, Mz.kept sz (by intro e; have := Option.some.inj e; omega)⟩
    · go_simp
      obtain ⟨W54, e54⟩ : ∃ W', W' = W44.alloc (.cells #[.nilIface, .int .i64 0] 73) := ⟨_, rfl⟩
      have g54 : V.grownBy W54 (some B) := by rw [e54]; exact grown_alloc (g44) _
      have M54 : Memo W54 B n := by rw [e54]; exact (M44).kept (World.grownBy_alloc _ _ none) (by simp)
      have f54_8 : Lies W54 W44.heap.size #[.nilIface, .int .i64 0] 73 := by rw [e54]; exact Lies.new W44 _ _
      have f54_9 : Lies W54 V.heap.size #[.nilIface, .int .i64 0] 73 := by rw [e54]; exact Lies.alloc f44_9 _
      have z54 := Lib.hid (show W54.heap.size = W44.heap.size + 1 by rw [e54]; simp)
      rw [← e54]
      clear e54
      refine hK _ _ g54 (fun _ => ?_)
      clear hK K
      go_simp
      refine wpAnyH_ready (rs := [3]) (by kernel_rfl) (by simp) ?_
      refine AllReadyH.cons rfl (fun K hK => ?_) AllReadyH.nil
      · go_simp
        go_wp2_with (go_at_call 64; refine (IA _ n g54 M54 (by omega)).mono ?_; rintro e W55 ⟨rfl, h55, m55, hm55, M55⟩; unfold simV; rw [hp])
        have g55 := grown_trans2 (g54) h55
        have f55_8 := Lies.kept f54_8 h55 (by intro e; have := Option.some.inj e; have qz44 := z44.out; have qz54 := z54.out; omega)
        have f55_9 := Lies.kept f54_9 h55 (by intro e; have := Option.some.inj e; have qz44 := z44.out; have qz54 := z54.out; omega)
        have z55 := Lib.hid (show W54.heap.size ≤ W55.heap.size from h55.size)
        refine hK _ _ g55 (fun _ => ?_)
        clear hK K h55
        go_simp
        have n55 : m55 ≤ n + c1 := by omega
        refine wpAnyH_ready (rs := [7]) (by kernel_rfl) (by simp) ?_
        refine AllReadyH.cons rfl (fun K hK => ?_) AllReadyH.nil
        · go_simp
          go_wp2_with (go_at_call 64; refine (IB _ m55 g55 M55 (by omega)).mono ?_; rintro e W56 ⟨rfl, h56, m56, hm56, M56⟩; unfold simV; rw [hq])
          have g56 := grown_trans2 (g55) h56
          have f56_8 := Lies.kept f55_8 h56 (by intro e; have := Option.some.inj e; have qz44 := z44.out; have qz54 := z54.out; have qz55 := z55.out; omega)
          have f56_9 := Lies.kept f55_9 h56 (by intro e; have := Option.some.inj e; have qz44 := z44.out; have qz54 := z54.out; have qz55 := z55.out; omega)
          have z56 := Lib.hid (show W55.heap.size ≤ W56.heap.size from h56.size)
          refine hK _ _ g56 (fun _ => ?_)
          clear hK K h56
          go_simp
          have n56 : m56 ≤ n + c1 + c2 := by omega
          refine wpAnyH_ready (rs := [10]) (by kernel_rfl) (by simp) ?_
          refine AllReadyH.cons rfl (fun K hK => ?_) AllReadyH.nil
          · go_simp
            obtain ⟨c0, c1', c2', c3⟩ := (f56_8).cells
            go_simp
            have vle57 : V.heap.size ≤ W44.heap.size := by have qz44 := z44.out; have qz54 := z54.out; have qz55 := z55.out; have qz56 := z56.out; omega
            have s57 := set_grownC W56 (W44.heap.size) 0 1 (.iface T1 x1) (.int .i64 (k1 : Int))
            have g57 : V.grownBy ((W56.setCell ⟨W44.heap.size, 0, none⟩ (.iface T1 x1)).setCell ⟨W44.heap.size, 1, none⟩ (.int .i64 (k1 : Int))) (some B) := setCell_grown (setCell_grown (g56) (.inr vle57) _) (.inr vle57) _
            have M57 : Memo ((W56.setCell ⟨W44.heap.size, 0, none⟩ (.iface T1 x1)).setCell ⟨W44.heap.size, 1, none⟩ (.int .i64 (k1 : Int))) B m56 := (M56).kept s57 (by intro e; have := Option.some.inj e; have qz44 := z44.out; have qz54 := z54.out; have qz55 := z55.out; have qz56 := z56.out; omega)
            have f57_8 := ((f56_8).set0 (.iface T1 x1)).set1 (.int .i64 (k1 : Int))
            have f57_9 := (f56_9).kept s57 (by intro e; have := Option.some.inj e; have qz44 := z44.out; have qz54 := z54.out; have qz55 := z55.out; have qz56 := z56.out; omega)
            refine hK _ _ g57 (fun _ => ?_)
            clear hK K
            go_simp
            refine wpAnyH_ready (rs := [11]) (by kernel_rfl) (by simp) ?_
            refine AllReadyH.cons rfl (fun K hK => ?_) AllReadyH.nil
            · go_simp
              obtain ⟨c0, c1', c2', c3⟩ := (f57_9).cells
              obtain ⟨b0, b1, b2, b3⟩ := (f56_9).cells
              have d1 : W44.heap.size ≠ V.heap.size := by have qz44 := z44.out; have qz54 := z54.out; have qz55 := z55.out; have qz56 := z56.out; omega
              have d2 : V.heap.size ≠ W44.heap.size := fun e => d1 e.symm
              go_simp
              have vle58 : V.heap.size ≤ V.heap.size := by have qz44 := z44.out; have qz54 := z54.out; have qz55 := z55.out; have qz56 := z56.out; omega
              have s58 := set_grownC ((W56.setCell ⟨W44.heap.size, 0, none⟩ (.iface T1 x1)).setCell ⟨W44.heap.size, 1, none⟩ (.int .i64 (k1 : Int))) (V.heap.size) 0 1 (.iface U1 y1) (.int .i64 (k2 : Int))
              have g58 : V.grownBy ((((W56.setCell ⟨W44.heap.size, 0, none⟩ (.iface T1 x1)).setCell ⟨W44.heap.size, 1, none⟩ (.int .i64 (k1 : Int))).setCell ⟨V.heap.size, 0, none⟩ (.iface U1 y1)).setCell ⟨V.heap.size, 1, none⟩ (.int .i64 (k2 : Int))) (some B) := setCell_grown (setCell_grown (g57) (.inr vle58) _) (.inr vle58) _
              have M58 : Memo ((((W56.setCell ⟨W44.heap.size, 0, none⟩ (.iface T1 x1)).setCell ⟨W44.heap.size, 1, none⟩ (.int .i64 (k1 : Int))).setCell ⟨V.heap.size, 0, none⟩ (.iface U1 y1)).setCell ⟨V.heap.size, 1, none⟩ (.int .i64 (k2 : Int))) B m56 := (M57).kept s58 (by intro e; have := Option.some.inj e; have qz44 := z44.out; have qz54 := z54.out; have qz55 := z55.out; have qz56 := z56.out; omega)
              have f58_9 := ((f57_9).set0 (.iface U1 y1)).set1 (.int .i64 (k2 : Int))
              have f58_8 := (f57_8).kept s58 (by intro e; have := Option.some.inj e; have qz44 := z44.out; have qz54 := z54.out; have qz55 := z55.out; have qz56 := z56.out; omega)
              refine hK _ _ g58 (fun _ => ?_)
              clear hK K
              go_simp
              refine wpAnyH_done (by kernel_rfl) ?_ _
              have fx := f58_8
              have fy := f58_9
              have gz := g58
              have Mz := M58
              have nz : m56 ≤ n + (c1 + c2) := by omega
              obtain ⟨Z, hZ⟩ : ∃ Z, Z = ((((W56.setCell ⟨W44.heap.size, 0, none⟩ (.iface T1 x1)).setCell ⟨W44.heap.size, 1, none⟩ (.int .i64 (k1 : Int))).setCell ⟨V.heap.size, 0, none⟩ (.iface U1 y1)).setCell ⟨V.heap.size, 1, none⟩ (.int .i64 (k2 : Int))) := ⟨_, rfl⟩
              rw [← hZ] at fx fy gz Mz ⊢
              have HZ := Lib.hid hZ
              clear hZ
              have rz := r0.kept gz (by intro e; have := Option.some.inj e; omega)
              obtain ⟨e0, e1, _, _⟩ := fx.cells
              obtain ⟨e2, e3, _, _⟩ := fy.cells
              obtain ⟨e4, e5, e6, e7⟩ := rz.cells
              go_wp2_with fail
              have sz := set_grownC Z W.heap.size 0 1 (.iface 107 (.agg #[.iface T1 x1, .iface U1 y1])) (.int .i64 ((k1 : Int) + (k2 : Int)))
              exact ret_simP ((rz.set0 _).set1 _) rfl rfl ⟨by rw [HS.out _ rfl], setCell_grown (setCell_grown (grown_trans2 gV gz) (.inr (Nat.le_refl _)) _) (.inr (Nat.le_refl _)) _, m56, nz, Mz.kept sz (by intro e; have := Option.some.inj e; omega)⟩
end Go.Proofs.YtgkgkaapjljpcaaDoor

