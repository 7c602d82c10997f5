/- Chapter 11, the program: programs made simpler, and remembered: choices (wip/tools/mkZC.py). -/
import Derived.Test.YtgkgkaapjljpcaaDoorZC
namespace Go.Proofs.YtgkgkaapjljpcaaDoor
open Go.ChangeShapes Go.WideShapes Go.ChangeAt Go.RowKit Go.Shelf
attribute [local go_sem] Oper.semAt_some
set_option maxRecDepth 100000

set_option maxHeartbeats 20000000 in
theorem parts_choice (p p' q q' : Node) (k1 c1 k2 c2 : Nat) (hk : k1 + k2 ≤ 9000000) (IH1 : PSim p p' k1 c1) (IH2 : PSim q q' k2 c2) : PParts (.pair 124 p q) (.pair 124 p' q') (k1 + k2) (c1 + c2) := by
  intro W B n N hL hN hM hn
  obtain ⟨T, x, hv⟩ := nodeV_iface p
  obtain ⟨U, y, hv2⟩ := nodeV_iface q
  obtain ⟨T1, x1, hp⟩ := nodeV_iface p'
  obtain ⟨U1, y1, hq⟩ := nodeV_iface q'
  have hB := hM.lt
  obtain ⟨V, hV⟩ : ∃ V, V = (W.alloc (.cells #[.nilIface, .int .i64 0] 73)).alloc (.cells #[.iface T x, .iface U y] 112) := ⟨_, rfl⟩
  have gV : W.grownBy V (some B) := by rw [hV]; exact grown_trans2 (World.grownBy_alloc _ _ _) (World.grownBy_alloc _ _ _)
  have r0 : Lies V W.heap.size #[.nilIface, .int .i64 0] 73 := by rw [hV]; exact (Lies.new W _ _).alloc _
  have p0 : Lies V (W.heap.size + 1) #[.iface T x, .iface U y] 112 := by
    rw [hV]
    have := Lies.new (W.alloc (.cells #[.nilIface, .int .i64 0] 73)) #[.iface T x, .iface U y] 112
    rw [World.size_alloc] at this
    exact this
  have hMV : Memo V B n := by rw [hV]; exact (hM.kept (World.grownBy_alloc W _ none) (by simp)).kept (World.grownBy_alloc _ _ none) (by simp)
  have hM0 : Memo V.drew B n := hMV.kept (row := none) ⟨rfl, rfl, rfl, Nat.le_refl _, fun _ _ _ => rfl⟩ (by simp)
  have hLV := hL.grown gV hN
  have IA := fun X m (g : V.grownBy X (some B)) (h : Memo X B m) (hl : m + c1 ≤ 8000000) => IH1 X B m N (hLV.grown g hN) hN h hl
  have IB := fun X m (g : V.grownBy X (some B)) (h : Memo X B m) (hl : m + c2 ≤ 8000000) => IH2 X B m N (hLV.grown g hN) hN h hl
  have hVs : V.heap.size = W.heap.size + 2 := by rw [hV]; simp
  have HVs := Lib.hid hVs
  have HS := Lib.hid (show ∀ z : Int, z = (k1 : Int) + (k2 : Int) → simV (.pair 124 p' q') (k1 + k2) = .agg #[.iface 112 (.agg #[.iface T1 x1, .iface U1 y1]), .int .i64 z] from fun z hz => by
    unfold simV
    rw [nodeV_choice, hp, hq, hz, show ((k1 + k2 : Nat) : Int) = (k1 : Int) + (k2 : Int) by omega])
  have b1 : (0 : Int) ≤ (k1 : Int) := by omega
  have b2 : (0 : Int) ≤ (k2 : Int) := by omega
  have b3 : (k1 : Int) ≤ 9000000 := by omega
  have b4 : (k2 : Int) ≤ 9000000 := by omega
  have hn0 : n ≤ n := Nat.le_refl _
  have hBV : B < V.heap.size := by omega
  rw [nodeV_choice]
  rw [hv] at IA ⊢
  rw [hv2] at IB ⊢
  have t1 := as79_77 (.iface T x) (.iface U y)
  have t2 := as79_79 (.iface T x) (.iface U y)
  clear hL hM IH1 IH2 hv hv2 hVs hLV
  go_enter Tryd.func95, Tryd.ntmps95
  go_wp2_with fail
  rw [← hV]
  have HV := Lib.hid hV
  clear hV
  refine wp_region_held (S := fun w' => V.grownBy w' (some B)) (by kernel_rfl) ?_
  have hS : V.grownBy V.drew (some B) := ⟨rfl, rfl, rfl, Nat.le_refl _, fun _ _ _ => rfl⟩
  refine wpAnyH_take (i := 0) (v := .map (some B)) rfl (by kernel_rfl) (by kernel_rfl) (by kernel_rfl) (fun _ _ _ h => h) (Or.inl ⟨by rfl, fun w hw => by go_simp⟩) hS ?_
  go_simp
  refine wpAnyH_take (i := 1) (v := .pointer (some ⟨W.heap.size + 1, 0, none⟩)) rfl (by kernel_rfl) (by kernel_rfl) (by kernel_rfl) (fun _ _ _ h => h) (Or.inl ⟨by rfl, fun w hw => by go_simp⟩) hS ?_
  go_simp
  refine wpAnyH_take (i := 2) (v := .iface T x) rfl (by kernel_rfl) (by kernel_rfl) (by kernel_rfl) (fun _ _ _ h => h) (Or.inl ⟨by rfl, fun w hw => by obtain ⟨l0, l1, _, _⟩ := (p0.kept hw (by intro e; have := Option.some.inj e; omega)).cells; first | (go_simp; done) | rfl⟩) hS ?_
  go_simp
  refine wpAnyH_take (i := 4) (v := .map (some B)) rfl (by kernel_rfl) (by kernel_rfl) (by kernel_rfl) (fun _ _ _ h => h) (Or.inl ⟨by rfl, fun w hw => by go_simp⟩) hS ?_
  go_simp
  refine wpAnyH_take (i := 5) (v := .pointer (some ⟨W.heap.size + 1, 1, none⟩)) rfl (by kernel_rfl) (by kernel_rfl) (by kernel_rfl) (fun _ _ _ h => h) (Or.inl ⟨by rfl, fun w hw => by go_simp⟩) hS ?_
  go_simp
  refine wpAnyH_take (i := 6) (v := .iface U y) rfl (by kernel_rfl) (by kernel_rfl) (by kernel_rfl) (fun _ _ _ h => h) (Or.inl ⟨by rfl, fun w hw => by obtain ⟨l0, l1, _, _⟩ := (p0.kept hw (by intro e; have := Option.some.inj e; omega)).cells; first | (go_simp; done) | rfl⟩) hS ?_
  go_simp
  refine wpAnyH_ready (rs := [3, 8, 9]) (by kernel_rfl) (by simp) ?_
  refine AllReadyH.cons rfl (fun K hK => ?_) (AllReadyH.cons rfl (fun K hK => ?_) (AllReadyH.cons rfl (fun K hK => ?_) AllReadyH.nil))
  · go_simp
    go_wp2_with (go_at_call 64; refine (IA _ n hS hM0 (by omega)).mono ?_; rintro e W59 ⟨rfl, h59, m59, hm59, M59⟩; unfold simV; rw [hp])
    have g59 := grown_trans2 (hS) h59
    have z59 := Lib.hid (show V.heap.size ≤ W59.heap.size from h59.size)
    refine hK _ _ g59 (fun _ => ?_)
    clear hK K h59
    go_simp
    have n59 : m59 ≤ n + c1 := by omega
    refine wpAnyH_ready (rs := [7, 8, 9]) (by kernel_rfl) (by simp) ?_
    refine AllReadyH.cons rfl (fun K hK => ?_) (AllReadyH.cons rfl (fun K hK => ?_) (AllReadyH.cons rfl (fun K hK => ?_) AllReadyH.nil))
    · go_simp
      go_wp2_with (go_at_call 64; refine (IB _ m59 g59 M59 (by omega)).mono ?_; rintro e W60 ⟨rfl, h60, m60, hm60, M60⟩; unfold simV; rw [hq])
      have g60 := grown_trans2 (g59) h60
      have z60 := Lib.hid (show W59.heap.size ≤ W60.heap.size from h60.size)
      refine hK _ _ g60 (fun _ => ?_)
      clear hK K h60
      go_simp
      have n60 : m60 ≤ n + c1 + c2 := by omega
      refine wpAnyH_ready (rs := [8, 9]) (by kernel_rfl) (by simp) ?_
      refine AllReadyH.cons rfl (fun K hK => ?_) (AllReadyH.cons rfl (fun K hK => ?_) AllReadyH.nil)
      · go_simp
        obtain ⟨W61, e61⟩ : ∃ W', W' = W60.alloc (.cells #[.nilIface, .int .i64 0] 73) := ⟨_, rfl⟩
        have g61 : V.grownBy W61 (some B) := by rw [e61]; exact grown_alloc (g60) _
        have M61 : Memo W61 B m60 := by rw [e61]; exact (M60).kept (World.grownBy_alloc _ _ none) (by simp)
        have f61_8 : Lies W61 W60.heap.size #[.nilIface, .int .i64 0] 73 := by rw [e61]; exact Lies.new W60 _ _
        have z61 := Lib.hid (show W61.heap.size = W60.heap.size + 1 by rw [e61]; simp)
        rw [← e61]
        clear e61
        refine hK _ _ g61 (fun _ => ?_)
        clear hK K
        go_simp
        refine wpAnyH_ready (rs := [9]) (by kernel_rfl) (by simp) ?_
        refine AllReadyH.cons rfl (fun K hK => ?_) AllReadyH.nil
        · go_simp
          obtain ⟨W62, e62⟩ : ∃ W', W' = W61.alloc (.cells #[.nilIface, .int .i64 0] 73) := ⟨_, rfl⟩
          have g62 : V.grownBy W62 (some B) := by rw [e62]; exact grown_alloc (g61) _
          have M62 : Memo W62 B m60 := by rw [e62]; exact (M61).kept (World.grownBy_alloc _ _ none) (by simp)
          have f62_9 : Lies W62 W61.heap.size #[.nilIface, .int .i64 0] 73 := by rw [e62]; exact Lies.new W61 _ _
          have f62_8 : Lies W62 W60.heap.size #[.nilIface, .int .i64 0] 73 := by rw [e62]; exact Lies.alloc f61_8 _
          have z62 := Lib.hid (show W62.heap.size = W61.heap.size + 1 by rw [e62]; simp)
          rw [← e62]
          clear e62
          refine hK _ _ g62 (fun _ => ?_)
          clear hK K
          go_simp
          refine wpAnyH_ready (rs := [10]) (by kernel_rfl) (by simp) ?_
          refine AllReadyH.cons rfl (fun K hK => ?_) AllReadyH.nil
          · go_simp
            obtain ⟨c0, c1', c2', c3⟩ := (f62_8).cells
            go_simp
            have vle63 : V.heap.size ≤ W60.heap.size := by have qz59 := z59.out; have qz60 := z60.out; have qz61 := z61.out; have qz62 := z62.out; omega
            have s63 := set_grownC W62 (W60.heap.size) 0 1 (.iface T1 x1) (.int .i64 (k1 : Int))
            have g63 : V.grownBy ((W62.setCell ⟨W60.heap.size, 0, none⟩ (.iface T1 x1)).setCell ⟨W60.heap.size, 1, none⟩ (.int .i64 (k1 : Int))) (some B) := setCell_grown (setCell_grown (g62) (.inr vle63) _) (.inr vle63) _
            have M63 : Memo ((W62.setCell ⟨W60.heap.size, 0, none⟩ (.iface T1 x1)).setCell ⟨W60.heap.size, 1, none⟩ (.int .i64 (k1 : Int))) B m60 := (M62).kept s63 (by intro e; have := Option.some.inj e; have qz59 := z59.out; have qz60 := z60.out; have qz61 := z61.out; have qz62 := z62.out; omega)
            have f63_8 := ((f62_8).set0 (.iface T1 x1)).set1 (.int .i64 (k1 : Int))
            have f63_9 := (f62_9).kept s63 (by intro e; have := Option.some.inj e; have qz59 := z59.out; have qz60 := z60.out; have qz61 := z61.out; have qz62 := z62.out; omega)
            refine hK _ _ g63 (fun _ => ?_)
            clear hK K
            go_simp
            refine wpAnyH_ready (rs := [11]) (by kernel_rfl) (by simp) ?_
            refine AllReadyH.cons rfl (fun K hK => ?_) AllReadyH.nil
            · go_simp
              obtain ⟨c0, c1', c2', c3⟩ := (f63_9).cells
              obtain ⟨b0, b1, b2, b3⟩ := (f62_9).cells
              have d1 : W60.heap.size ≠ W61.heap.size := by have qz59 := z59.out; have qz60 := z60.out; have qz61 := z61.out; have qz62 := z62.out; omega
              have d2 : W61.heap.size ≠ W60.heap.size := fun e => d1 e.symm
              go_simp
              have vle64 : V.heap.size ≤ W61.heap.size := by have qz59 := z59.out; have qz60 := z60.out; have qz61 := z61.out; have qz62 := z62.out; omega
              have s64 := set_grownC ((W62.setCell ⟨W60.heap.size, 0, none⟩ (.iface T1 x1)).setCell ⟨W60.heap.size, 1, none⟩ (.int .i64 (k1 : Int))) (W61.heap.size) 0 1 (.iface U1 y1) (.int .i64 (k2 : Int))
              have g64 : V.grownBy ((((W62.setCell ⟨W60.heap.size, 0, none⟩ (.iface T1 x1)).setCell ⟨W60.heap.size, 1, none⟩ (.int .i64 (k1 : Int))).setCell ⟨W61.heap.size, 0, none⟩ (.iface U1 y1)).setCell ⟨W61.heap.size, 1, none⟩ (.int .i64 (k2 : Int))) (some B) := setCell_grown (setCell_grown (g63) (.inr vle64) _) (.inr vle64) _
              have M64 : Memo ((((W62.setCell ⟨W60.heap.size, 0, none⟩ (.iface T1 x1)).setCell ⟨W60.heap.size, 1, none⟩ (.int .i64 (k1 : Int))).setCell ⟨W61.heap.size, 0, none⟩ (.iface U1 y1)).setCell ⟨W61.heap.size, 1, none⟩ (.int .i64 (k2 : Int))) B m60 := (M63).kept s64 (by intro e; have := Option.some.inj e; have qz59 := z59.out; have qz60 := z60.out; have qz61 := z61.out; have qz62 := z62.out; omega)
              have f64_9 := ((f63_9).set0 (.iface U1 y1)).set1 (.int .i64 (k2 : Int))
              have f64_8 := (f63_8).kept s64 (by intro e; have := Option.some.inj e; have qz59 := z59.out; have qz60 := z60.out; have qz61 := z61.out; have qz62 := z62.out; omega)
              refine hK _ _ g64 (fun _ => ?_)
              clear hK K
              go_simp
              refine wpAnyH_done (by kernel_rfl) ?_ _
              have fx := f64_8
              have fy := f64_9
              have gz := g64
              have Mz := M64
              have nz : m60 ≤ n + (c1 + c2) := by omega
              obtain ⟨Z, hZ⟩ : ∃ Z, Z = ((((W62.setCell ⟨W60.heap.size, 0, none⟩ (.iface T1 x1)).setCell ⟨W60.heap.size, 1, none⟩ (.int .i64 (k1 : Int))).setCell ⟨W61.heap.size, 0, none⟩ (.iface U1 y1)).setCell ⟨W61.heap.size, 1, none⟩ (.int .i64 (k2 : Int))) := ⟨_, rfl⟩
              rw [← hZ] at fx fy gz Mz ⊢
              have HZ := Lib.hid hZ
              clear hZ
              have rz := r0.kept gz (by intro e; have := Option.some.inj e; omega)
              obtain ⟨e0, e1, _, _⟩ := fx.cells
              obtain ⟨e2, e3, _, _⟩ := fy.cells
              obtain ⟨e4, e5, e6, e7⟩ := rz.cells
              go_wp2_with fail
              have sz := set_grownC Z W.heap.size 0 1 (.iface 112 (.agg #[.iface T1 x1, .iface U1 y1])) (.int .i64 ((k1 : Int) + (k2 : Int)))
              exact ret_simP ((rz.set0 _).set1 _) rfl rfl ⟨by rw [HS.out _ rfl], setCell_grown (setCell_grown (grown_trans2 gV gz) (.inr (Nat.le_refl _)) _) (.inr (Nat.le_refl _)) _, m60, nz, Mz.kept sz (by intro e; have := Option.some.inj e; omega)⟩
      · go_simp
        obtain ⟨W65, e65⟩ : ∃ W', W' = W60.alloc (.cells #[.nilIface, .int .i64 0] 73) := ⟨_, rfl⟩
        have g65 : V.grownBy W65 (some B) := by rw [e65]; exact grown_alloc (g60) _
        have M65 : Memo W65 B m60 := by rw [e65]; exact (M60).kept (World.grownBy_alloc _ _ none) (by simp)
        have f65_9 : Lies W65 W60.heap.size #[.nilIface, .int .i64 0] 73 := by rw [e65]; exact Lies.new W60 _ _
        have z65 := Lib.hid (show W65.heap.size = W60.heap.size + 1 by rw [e65]; simp)
        rw [← e65]
        clear e65
        refine hK _ _ g65 (fun _ => ?_)
        clear hK K
        go_simp
        refine wpAnyH_ready (rs := [8]) (by kernel_rfl) (by simp) ?_
        refine AllReadyH.cons rfl (fun K hK => ?_) AllReadyH.nil
        · go_simp
          obtain ⟨W66, e66⟩ : ∃ W', W' = W65.alloc (.cells #[.nilIface, .int .i64 0] 73) := ⟨_, rfl⟩
          have g66 : V.grownBy W66 (some B) := by rw [e66]; exact grown_alloc (g65) _
          have M66 : Memo W66 B m60 := by rw [e66]; exact (M65).kept (World.grownBy_alloc _ _ none) (by simp)
          have f66_8 : Lies W66 W65.heap.size #[.nilIface, .int .i64 0] 73 := by rw [e66]; exact Lies.new W65 _ _
          have f66_9 : Lies W66 W60.heap.size #[.nilIface, .int .i64 0] 73 := by rw [e66]; exact Lies.alloc f65_9 _
          have z66 := Lib.hid (show W66.heap.size = W65.heap.size + 1 by rw [e66]; simp)
          rw [← e66]
          clear e66
          refine hK _ _ g66 (fun _ => ?_)
          clear hK K
          go_simp
          refine wpAnyH_ready (rs := [10]) (by kernel_rfl) (by simp) ?_
          refine AllReadyH.cons rfl (fun K hK => ?_) AllReadyH.nil
          · go_simp
            obtain ⟨c0, c1', c2', c3⟩ := (f66_8).cells
            go_simp
            have vle67 : V.heap.size ≤ W65.heap.size := by have qz59 := z59.out; have qz60 := z60.out; have qz65 := z65.out; have qz66 := z66.out; omega
            have s67 := set_grownC W66 (W65.heap.size) 0 1 (.iface T1 x1) (.int .i64 (k1 : Int))
            have g67 : V.grownBy ((W66.setCell ⟨W65.heap.size, 0, none⟩ (.iface T1 x1)).setCell ⟨W65.heap.size, 1, none⟩ (.int .i64 (k1 : Int))) (some B) := setCell_grown (setCell_grown (g66) (.inr vle67) _) (.inr vle67) _
            have M67 : Memo ((W66.setCell ⟨W65.heap.size, 0, none⟩ (.iface T1 x1)).setCell ⟨W65.heap.size, 1, none⟩ (.int .i64 (k1 : Int))) B m60 := (M66).kept s67 (by intro e; have := Option.some.inj e; have qz59 := z59.out; have qz60 := z60.out; have qz65 := z65.out; have qz66 := z66.out; omega)
            have f67_8 := ((f66_8).set0 (.iface T1 x1)).set1 (.int .i64 (k1 : Int))
            have f67_9 := (f66_9).kept s67 (by intro e; have := Option.some.inj e; have qz59 := z59.out; have qz60 := z60.out; have qz65 := z65.out; have qz66 := z66.out; omega)
            refine hK _ _ g67 (fun _ => ?_)
            clear hK K
            go_simp
            refine wpAnyH_ready (rs := [11]) (by kernel_rfl) (by simp) ?_
            refine AllReadyH.cons rfl (fun K hK => ?_) AllReadyH.nil
            · go_simp
              obtain ⟨c0, c1', c2', c3⟩ := (f67_9).cells
              obtain ⟨b0, b1, b2, b3⟩ := (f66_9).cells
              have d1 : W65.heap.size ≠ W60.heap.size := by have qz59 := z59.out; have qz60 := z60.out; have qz65 := z65.out; have qz66 := z66.out; omega
              have d2 : W60.heap.size ≠ W65.heap.size := fun e => d1 e.symm
              go_simp
              have vle68 : V.heap.size ≤ W60.heap.size := by have qz59 := z59.out; have qz60 := z60.out; have qz65 := z65.out; have qz66 := z66.out; omega
              have s68 := set_grownC ((W66.setCell ⟨W65.heap.size, 0, none⟩ (.iface T1 x1)).setCell ⟨W65.heap.size, 1, none⟩ (.int .i64 (k1 : Int))) (W60.heap.size) 0 1 (.iface U1 y1) (.int .i64 (k2 : Int))
              have g68 : V.grownBy ((((W66.setCell ⟨W65.heap.size, 0, none⟩ (.iface T1 x1)).setCell ⟨W65.heap.size, 1, none⟩ (.int .i64 (k1 : Int))).setCell ⟨W60.heap.size, 0, none⟩ (.iface U1 y1)).setCell ⟨W60.heap.size, 1, none⟩ (.int .i64 (k2 : Int))) (some B) := setCell_grown (setCell_grown (g67) (.inr vle68) _) (.inr vle68) _
              have M68 : Memo ((((W66.setCell ⟨W65.heap.size, 0, none⟩ (.iface T1 x1)).setCell ⟨W65.heap.size, 1, none⟩ (.int .i64 (k1 : Int))).setCell ⟨W60.heap.size, 0, none⟩ (.iface U1 y1)).setCell ⟨W60.heap.size, 1, none⟩ (.int .i64 (k2 : Int))) B m60 := (M67).kept s68 (by intro e; have := Option.some.inj e; have qz59 := z59.out; have qz60 := z60.out; have qz65 := z65.out; have qz66 := z66.out; omega)
              have f68_9 := ((f67_9).set0 (.iface U1 y1)).set1 (.int .i64 (k2 : Int))
              have f68_8 := (f67_8).kept s68 (by intro e; have := Option.some.inj e; have qz59 := z59.out; have qz60 := z60.out; have qz65 := z65.out; have qz66 := z66.out; omega)
              refine hK _ _ g68 (fun _ => ?_)
              clear hK K
              go_simp
              refine wpAnyH_done (by kernel_rfl) ?_ _
              have fx := f68_8
              have fy := f68_9
              have gz := g68
              have Mz := M68
              have nz : m60 ≤ n + (c1 + c2) := by omega
              obtain ⟨Z, hZ⟩ : ∃ Z, Z = ((((W66.setCell ⟨W65.heap.size, 0, none⟩ (.iface T1 x1)).setCell ⟨W65.heap.size, 1, none⟩ (.int .i64 (k1 : Int))).setCell ⟨W60.heap.size, 0, none⟩ (.iface U1 y1)).setCell ⟨W60.heap.size, 1, none⟩ (.int .i64 (k2 : Int))) := ⟨_, rfl⟩
              rw [← hZ] at fx fy gz Mz ⊢
              have HZ := Lib.hid hZ
              clear hZ
              have rz := r0.kept gz (by intro e; have := Option.some.inj e; omega)
              obtain ⟨e0, e1, _, _⟩ := fx.cells
              obtain ⟨e2, e3, _, _⟩ := fy.cells
              obtain ⟨e4, e5, e6, e7⟩ := rz.cells
              go_wp2_with fail
              have sz := set_grownC Z W.heap.size 0 1 (.iface 112 (.agg #[.iface T1 x1, .iface U1 y1])) (.int .i64 ((k1 : Int) + (k2 : Int)))
              exact ret_simP ((rz.set0 _).set1 _) rfl rfl ⟨by rw [HS.out _ rfl], setCell_grown (setCell_grown (grown_trans2 gV gz) (.inr (Nat.le_refl _)) _) (.inr (Nat.le_refl _)) _, m60, nz, Mz.kept sz (by intro e; have := Option.some.inj e; omega)⟩
    · go_simp
      obtain ⟨W69, e69⟩ : ∃ W', W' = W59.alloc (.cells #[.nilIface, .int .i64 0] 73) := ⟨_, rfl⟩
      have g69 : V.grownBy W69 (some B) := by rw [e69]; exact grown_alloc (g59) _
      have M69 : Memo W69 B m59 := by rw [e69]; exact (M59).kept (World.grownBy_alloc _ _ none) (by simp)
      have f69_8 : Lies W69 W59.heap.size #[.nilIface, .int .i64 0] 73 := by rw [e69]; exact Lies.new W59 _ _
      have z69 := Lib.hid (show W69.heap.size = W59.heap.size + 1 by rw [e69]; simp)
      rw [← e69]
      clear e69
      refine hK _ _ g69 (fun _ => ?_)
      clear hK K
      go_simp
      refine wpAnyH_ready (rs := [7, 9]) (by kernel_rfl) (by simp) ?_
      refine AllReadyH.cons rfl (fun K hK => ?_) (AllReadyH.cons rfl (fun K hK => ?_) AllReadyH.nil)
      · go_simp
        go_wp2_with (go_at_call 64; refine (IB _ m59 g69 M69 (by omega)).mono ?_; rintro e W70 ⟨rfl, h70, m70, hm70, M70⟩; unfold simV; rw [hq])
        have g70 := grown_trans2 (g69) h70
        have f70_8 := Lies.kept f69_8 h70 (by intro e; have := Option.some.inj e; have qz59 := z59.out; have qz69 := z69.out; omega)
        have z70 := Lib.hid (show W69.heap.size ≤ W70.heap.size from h70.size)
        refine hK _ _ g70 (fun _ => ?_)
        clear hK K h70
        go_simp
        have n70 : m70 ≤ n + c1 + c2 := by omega
        refine wpAnyH_ready (rs := [9]) (by kernel_rfl) (by simp) ?_
        refine AllReadyH.cons rfl (fun K hK => ?_) AllReadyH.nil
        · go_simp
          obtain ⟨W71, e71⟩ : ∃ W', W' = W70.alloc (.cells #[.nilIface, .int .i64 0] 73) := ⟨_, rfl⟩
          have g71 : V.grownBy W71 (some B) := by rw [e71]; exact grown_alloc (g70) _
          have M71 : Memo W71 B m70 := by rw [e71]; exact (M70).kept (World.grownBy_alloc _ _ none) (by simp)
          have f71_9 : Lies W71 W70.heap.size #[.nilIface, .int .i64 0] 73 := by rw [e71]; exact Lies.new W70 _ _
          have f71_8 : Lies W71 W59.heap.size #[.nilIface, .int .i64 0] 73 := by rw [e71]; exact Lies.alloc f70_8 _
          have z71 := Lib.hid (show W71.heap.size = W70.heap.size + 1 by rw [e71]; simp)
          rw [← e71]
          clear e71
          refine hK _ _ g71 (fun _ => ?_)
          clear hK K
          go_simp
          refine wpAnyH_ready (rs := [10]) (by kernel_rfl) (by simp) ?_
          refine AllReadyH.cons rfl (fun K hK => ?_) AllReadyH.nil
          · go_simp
            obtain ⟨c0, c1', c2', c3⟩ := (f71_8).cells
            go_simp
            have vle72 : V.heap.size ≤ W59.heap.size := by have qz59 := z59.out; have qz69 := z69.out; have qz70 := z70.out; have qz71 := z71.out; omega
            have s72 := set_grownC W71 (W59.heap.size) 0 1 (.iface T1 x1) (.int .i64 (k1 : Int))
            have g72 : V.grownBy ((W71.setCell ⟨W59.heap.size, 0, none⟩ (.iface T1 x1)).setCell ⟨W59.heap.size, 1, none⟩ (.int .i64 (k1 : Int))) (some B) := setCell_grown (setCell_grown (g71) (.inr vle72) _) (.inr vle72) _
            have M72 : Memo ((W71.setCell ⟨W59.heap.size, 0, none⟩ (.iface T1 x1)).setCell ⟨W59.heap.size, 1, none⟩ (.int .i64 (k1 : Int))) B m70 := (M71).kept s72 (by intro e; have := Option.some.inj e; have qz59 := z59.out; have qz69 := z69.out; have qz70 := z70.out; have qz71 := z71.out; omega)
            have f72_8 := ((f71_8).set0 (.iface T1 x1)).set1 (.int .i64 (k1 : Int))
            have f72_9 := (f71_9).kept s72 (by intro e; have := Option.some.inj e; have qz59 := z59.out; have qz69 := z69.out; have qz70 := z70.out; have qz71 := z71.out; omega)
            refine hK _ _ g72 (fun _ => ?_)
            clear hK K
            go_simp
            refine wpAnyH_ready (rs := [11]) (by kernel_rfl) (by simp) ?_
            refine AllReadyH.cons rfl (fun K hK => ?_) AllReadyH.nil
            · go_simp
              obtain ⟨c0, c1', c2', c3⟩ := (f72_9).cells
              obtain ⟨b0, b1, b2, b3⟩ := (f71_9).cells
              have d1 : W59.heap.size ≠ W70.heap.size := by have qz59 := z59.out; have qz69 := z69.out; have qz70 := z70.out; have qz71 := z71.out; omega
              have d2 : W70.heap.size ≠ W59.heap.size := fun e => d1 e.symm
              go_simp
              have vle73 : V.heap.size ≤ W70.heap.size := by have qz59 := z59.out; have qz69 := z69.out; have qz70 := z70.out; have qz71 := z71.out; omega
              have s73 := set_grownC ((W71.setCell ⟨W59.heap.size, 0, none⟩ (.iface T1 x1)).setCell ⟨W59.heap.size, 1, none⟩ (.int .i64 (k1 : Int))) (W70.heap.size) 0 1 (.iface U1 y1) (.int .i64 (k2 : Int))
              have g73 : V.grownBy ((((W71.setCell ⟨W59.heap.size, 0, none⟩ (.iface T1 x1)).setCell ⟨W59.heap.size, 1, none⟩ (.int .i64 (k1 : Int))).setCell ⟨W70.heap.size, 0, none⟩ (.iface U1 y1)).setCell ⟨W70.heap.size, 1, none⟩ (.int .i64 (k2 : Int))) (some B) := setCell_grown (setCell_grown (g72) (.inr vle73) _) (.inr vle73) _
              have M73 : Memo ((((W71.setCell ⟨W59.heap.size, 0, none⟩ (.iface T1 x1)).setCell ⟨W59.heap.size, 1, none⟩ (.int .i64 (k1 : Int))).setCell ⟨W70.heap.size, 0, none⟩ (.iface U1 y1)).setCell ⟨W70.heap.size, 1, none⟩ (.int .i64 (k2 : Int))) B m70 := (M72).kept s73 (by intro e; have := Option.some.inj e; have qz59 := z59.out; have qz69 := z69.out; have qz70 := z70.out; have qz71 := z71.out; omega)
              have f73_9 := ((f72_9).set0 (.iface U1 y1)).set1 (.int .i64 (k2 : Int))
              have f73_8 := (f72_8).kept s73 (by intro e; have := Option.some.inj e; have qz59 := z59.out; have qz69 := z69.out; have qz70 := z70.out; have qz71 := z71.out; omega)
              refine hK _ _ g73 (fun _ => ?_)
              clear hK K
              go_simp
              refine wpAnyH_done (by kernel_rfl) ?_ _
              have fx := f73_8
              have fy := f73_9
              have gz := g73
              have Mz := M73
              have nz : m70 ≤ n + (c1 + c2) := by omega
              obtain ⟨Z, hZ⟩ : ∃ Z, Z = ((((W71.setCell ⟨W59.heap.size, 0, none⟩ (.iface T1 x1)).setCell ⟨W59.heap.size, 1, none⟩ (.int .i64 (k1 : Int))).setCell ⟨W70.heap.size, 0, none⟩ (.iface U1 y1)).setCell ⟨W70.heap.size, 1, none⟩ (.int .i64 (k2 : Int))) := ⟨_, rfl⟩
              rw [← hZ] at fx fy gz Mz ⊢
              have HZ := Lib.hid hZ
              clear hZ
              have rz := r0.kept gz (by intro e; have := Option.some.inj e; omega)
              obtain ⟨e0, e1, _, _⟩ := fx.cells
              obtain ⟨e2, e3, _, _⟩ := fy.cells
              obtain ⟨e4, e5, e6, e7⟩ := rz.cells
              go_wp2_with fail
              have sz := set_grownC Z W.heap.size 0 1 (.iface 112 (.agg #[.iface T1 x1, .iface U1 y1])) (.int .i64 ((k1 : Int) + (k2 : Int)))
              exact ret_simP ((rz.set0 _).set1 _) rfl rfl ⟨by rw [HS.out _ rfl], setCell_grown (setCell_grown (grown_trans2 gV gz) (.inr (Nat.le_refl _)) _) (.inr (Nat.le_refl _)) _, m70, nz, Mz.kept sz (by intro e; have := Option.some.inj e; omega)⟩
      · go_simp
        obtain ⟨W74, e74⟩ : ∃ W', W' = W69.alloc (.cells #[.nilIface, .int .i64 0] 73) := ⟨_, rfl⟩
        have g74 : V.grownBy W74 (some B) := by rw [e74]; exact grown_alloc (g69) _
        have M74 : Memo W74 B m59 := by rw [e74]; exact (M69).kept (World.grownBy_alloc _ _ none) (by simp)
        have f74_9 : Lies W74 W69.heap.size #[.nilIface, .int .i64 0] 73 := by rw [e74]; exact Lies.new W69 _ _
        have f74_8 : Lies W74 W59.heap.size #[.nilIface, .int .i64 0] 73 := by rw [e74]; exact Lies.alloc f69_8 _
        have z74 := Lib.hid (show W74.heap.size = W69.heap.size + 1 by rw [e74]; simp)
        rw [← e74]
        clear e74
        refine hK _ _ g74 (fun _ => ?_)
        clear hK K
        go_simp
        refine wpAnyH_ready (rs := [7]) (by kernel_rfl) (by simp) ?_
        refine AllReadyH.cons rfl (fun K hK => ?_) AllReadyH.nil
        · go_simp
          go_wp2_with (go_at_call 64; refine (IB _ m59 g74 M74 (by omega)).mono ?_; rintro e W75 ⟨rfl, h75, m75, hm75, M75⟩; unfold simV; rw [hq])
          have g75 := grown_trans2 (g74) h75
          have f75_8 := Lies.kept f74_8 h75 (by intro e; have := Option.some.inj e; have qz59 := z59.out; have qz69 := z69.out; have qz74 := z74.out; omega)
          have f75_9 := Lies.kept f74_9 h75 (by intro e; have := Option.some.inj e; have qz59 := z59.out; have qz69 := z69.out; have qz74 := z74.out; omega)
          have z75 := Lib.hid (show W74.heap.size ≤ W75.heap.size from h75.size)
          refine hK _ _ g75 (fun _ => ?_)
          clear hK K h75
          go_simp
          have n75 : m75 ≤ n + c1 + c2 := by omega
          refine wpAnyH_ready (rs := [10]) (by kernel_rfl) (by simp) ?_
          refine AllReadyH.cons rfl (fun K hK => ?_) AllReadyH.nil
          · go_simp
            obtain ⟨c0, c1', c2', c3⟩ := (f75_8).cells
            go_simp
            have vle76 : V.heap.size ≤ W59.heap.size := by have qz59 := z59.out; have qz69 := z69.out; have qz74 := z74.out; have qz75 := z75.out; omega
            have s76 := set_grownC W75 (W59.heap.size) 0 1 (.iface T1 x1) (.int .i64 (k1 : Int))
            have g76 : V.grownBy ((W75.setCell ⟨W59.heap.size, 0, none⟩ (.iface T1 x1)).setCell ⟨W59.heap.size, 1, none⟩ (.int .i64 (k1 : Int))) (some B) := setCell_grown (setCell_grown (g75) (.inr vle76) _) (.inr vle76) _
            have M76 : Memo ((W75.setCell ⟨W59.heap.size, 0, none⟩ (.iface T1 x1)).setCell ⟨W59.heap.size, 1, none⟩ (.int .i64 (k1 : Int))) B m75 := (M75).kept s76 (by intro e; have := Option.some.inj e; have qz59 := z59.out; have qz69 := z69.out; have qz74 := z74.out; have qz75 := z75.out; omega)
            have f76_8 := ((f75_8).set0 (.iface T1 x1)).set1 (.int .i64 (k1 : Int))
            have f76_9 := (f75_9).kept s76 (by intro e; have := Option.some.inj e; have qz59 := z59.out; have qz69 := z69.out; have qz74 := z74.out; have qz75 := z75.out; omega)
            refine hK _ _ g76 (fun _ => ?_)
            clear hK K
            go_simp
            refine wpAnyH_ready (rs := [11]) (by kernel_rfl) (by simp) ?_
            refine AllReadyH.cons rfl (fun K hK => ?_) AllReadyH.nil
            · go_simp
              obtain ⟨c0, c1', c2', c3⟩ := (f76_9).cells
              obtain ⟨b0, b1, b2, b3⟩ := (f75_9).cells
              have d1 : W59.heap.size ≠ W69.heap.size := by have qz59 := z59.out; have qz69 := z69.out; have qz74 := z74.out; have qz75 := z75.out; omega
              have d2 : W69.heap.size ≠ W59.heap.size := fun e => d1 e.symm
              go_simp
              have vle77 : V.heap.size ≤ W69.heap.size := by have qz59 := z59.out; have qz69 := z69.out; have qz74 := z74.out; have qz75 := z75.out; omega
              have s77 := set_grownC ((W75.setCell ⟨W59.heap.size, 0, none⟩ (.iface T1 x1)).setCell ⟨W59.heap.size, 1, none⟩ (.int .i64 (k1 : Int))) (W69.heap.size) 0 1 (.iface U1 y1) (.int .i64 (k2 : Int))
              have g77 : V.grownBy ((((W75.setCell ⟨W59.heap.size, 0, none⟩ (.iface T1 x1)).setCell ⟨W59.heap.size, 1, none⟩ (.int .i64 (k1 : Int))).setCell ⟨W69.heap.size, 0, none⟩ (.iface U1 y1)).setCell ⟨W69.heap.size, 1, none⟩ (.int .i64 (k2 : Int))) (some B) := setCell_grown (setCell_grown (g76) (.inr vle77) _) (.inr vle77) _
              have M77 : Memo ((((W75.setCell ⟨W59.heap.size, 0, none⟩ (.iface T1 x1)).setCell ⟨W59.heap.size, 1, none⟩ (.int .i64 (k1 : Int))).setCell ⟨W69.heap.size, 0, none⟩ (.iface U1 y1)).setCell ⟨W69.heap.size, 1, none⟩ (.int .i64 (k2 : Int))) B m75 := (M76).kept s77 (by intro e; have := Option.some.inj e; have qz59 := z59.out; have qz69 := z69.out; have qz74 := z74.out; have qz75 := z75.out; omega)
              have f77_9 := ((f76_9).set0 (.iface U1 y1)).set1 (.int .i64 (k2 : Int))
              have f77_8 := (f76_8).kept s77 (by intro e; have := Option.some.inj e; have qz59 := z59.out; have qz69 := z69.out; have qz74 := z74.out; have qz75 := z75.out; omega)
              refine hK _ _ g77 (fun _ => ?_)
              clear hK K
              go_simp
              refine wpAnyH_done (by kernel_rfl) ?_ _
              have fx := f77_8
              have fy := f77_9
              have gz := g77
              have Mz := M77
              have nz : m75 ≤ n + (c1 + c2) := by omega
              obtain ⟨Z, hZ⟩ : ∃ Z, Z = ((((W75.setCell ⟨W59.heap.size, 0, none⟩ (.iface T1 x1)).setCell ⟨W59.heap.size, 1, none⟩ (.int .i64 (k1 : Int))).setCell ⟨W69.heap.size, 0, none⟩ (.iface U1 y1)).setCell ⟨W69.heap.size, 1, none⟩ (.int .i64 (k2 : Int))) := ⟨_, rfl⟩
              rw [← hZ] at fx fy gz Mz ⊢
              have HZ := Lib.hid hZ
              clear hZ
              have rz := r0.kept gz (by intro e; have := Option.some.inj e; omega)
              obtain ⟨e0, e1, _, _⟩ := fx.cells
              obtain ⟨e2, e3, _, _⟩ := fy.cells
              obtain ⟨e4, e5, e6, e7⟩ := rz.cells
              go_wp2_with fail
              have sz := set_grownC Z W.heap.size 0 1 (.iface 112 (.agg #[.iface T1 x1, .iface U1 y1])) (.int .i64 ((k1 : Int) + (k2 : Int)))
              exact ret_simP ((rz.set0 _).set1 _) rfl rfl ⟨by rw [HS.out _ rfl], setCell_grown (setCell_grown (grown_trans2 gV gz) (.inr (Nat.le_refl _)) _) (.inr (Nat.le_refl _)) _, m75, nz, Mz.kept sz (by intro e; have := Option.some.inj e; omega)⟩
    · go_simp
      obtain ⟨W78, e78⟩ : ∃ W', W' = W59.alloc (.cells #[.nilIface, .int .i64 0] 73) := ⟨_, rfl⟩
      have g78 : V.grownBy W78 (some B) := by rw [e78]; exact grown_alloc (g59) _
      have M78 : Memo W78 B m59 := by rw [e78]; exact (M59).kept (World.grownBy_alloc _ _ none) (by simp)
      have f78_9 : Lies W78 W59.heap.size #[.nilIface, .int .i64 0] 73 := by rw [e78]; exact Lies.new W59 _ _
      have z78 := Lib.hid (show W78.heap.size = W59.heap.size + 1 by rw [e78]; simp)
      rw [← e78]
      clear e78
      refine hK _ _ g78 (fun _ => ?_)
      clear hK K
      go_simp
      refine wpAnyH_ready (rs := [7, 8]) (by kernel_rfl) (by simp) ?_
      refine AllReadyH.cons rfl (fun K hK => ?_) (AllReadyH.cons rfl (fun K hK => ?_) AllReadyH.nil)
      · go_simp
        go_wp2_with (go_at_call 64; refine (IB _ m59 g78 M78 (by omega)).mono ?_; rintro e W79 ⟨rfl, h79, m79, hm79, M79⟩; unfold simV; rw [hq])
        have g79 := grown_trans2 (g78) h79
        have f79_9 := Lies.kept f78_9 h79 (by intro e; have := Option.some.inj e; have qz59 := z59.out; have qz78 := z78.out; omega)
        have z79 := Lib.hid (show W78.heap.size ≤ W79.heap.size from h79.size)
        refine hK _ _ g79 (fun _ => ?_)
        clear hK K h79
        go_simp
        have n79 : m79 ≤ n + c1 + c2 := by omega
        refine wpAnyH_ready (rs := [8]) (by kernel_rfl) (by simp) ?_
        refine AllReadyH.cons rfl (fun K hK => ?_) AllReadyH.nil
        · go_simp
          obtain ⟨W80, e80⟩ : ∃ W', W' = W79.alloc (.cells #[.nilIface, .int .i64 0] 73) := ⟨_, rfl⟩
          have g80 : V.grownBy W80 (some B) := by rw [e80]; exact grown_alloc (g79) _
          have M80 : Memo W80 B m79 := by rw [e80]; exact (M79).kept (World.grownBy_alloc _ _ none) (by simp)
          have f80_8 : Lies W80 W79.heap.size #[.nilIface, .int .i64 0] 73 := by rw [e80]; exact Lies.new W79 _ _
          have f80_9 : Lies W80 W59.heap.size #[.nilIface, .int .i64 0] 73 := by rw [e80]; exact Lies.alloc f79_9 _
          have z80 := Lib.hid (show W80.heap.size = W79.heap.size + 1 by rw [e80]; simp)
          rw [← e80]
          clear e80
          refine hK _ _ g80 (fun _ => ?_)
          clear hK K
          go_simp
          refine wpAnyH_ready (rs := [10]) (by kernel_rfl) (by simp) ?_
          refine AllReadyH.cons rfl (fun K hK => ?_) AllReadyH.nil
          · go_simp
            obtain ⟨c0, c1', c2', c3⟩ := (f80_8).cells
            go_simp
            have vle81 : V.heap.size ≤ W79.heap.size := by have qz59 := z59.out; have qz78 := z78.out; have qz79 := z79.out; have qz80 := z80.out; omega
            have s81 := set_grownC W80 (W79.heap.size) 0 1 (.iface T1 x1) (.int .i64 (k1 : Int))
            have g81 : V.grownBy ((W80.setCell ⟨W79.heap.size, 0, none⟩ (.iface T1 x1)).setCell ⟨W79.heap.size, 1, none⟩ (.int .i64 (k1 : Int))) (some B) := setCell_grown (setCell_grown (g80) (.inr vle81) _) (.inr vle81) _
            have M81 : Memo ((W80.setCell ⟨W79.heap.size, 0, none⟩ (.iface T1 x1)).setCell ⟨W79.heap.size, 1, none⟩ (.int .i64 (k1 : Int))) B m79 := (M80).kept s81 (by intro e; have := Option.some.inj e; have qz59 := z59.out; have qz78 := z78.out; have qz79 := z79.out; have qz80 := z80.out; omega)
            have f81_8 := ((f80_8).set0 (.iface T1 x1)).set1 (.int .i64 (k1 : Int))
            have f81_9 := (f80_9).kept s81 (by intro e; have := Option.some.inj e; have qz59 := z59.out; have qz78 := z78.out; have qz79 := z79.out; have qz80 := z80.out; omega)
            refine hK _ _ g81 (fun _ => ?_)
            clear hK K
            go_simp
            refine wpAnyH_ready (rs := [11]) (by kernel_rfl) (by simp) ?_
            refine AllReadyH.cons rfl (fun K hK => ?_) AllReadyH.nil
            · go_simp
              obtain ⟨c0, c1', c2', c3⟩ := (f81_9).cells
              obtain ⟨b0, b1, b2, b3⟩ := (f80_9).cells
              have d1 : W79.heap.size ≠ W59.heap.size := by have qz59 := z59.out; have qz78 := z78.out; have qz79 := z79.out; have qz80 := z80.out; omega
              have d2 : W59.heap.size ≠ W79.heap.size := fun e => d1 e.symm
              go_simp
              have vle82 : V.heap.size ≤ W59.heap.size := by have qz59 := z59.out; have qz78 := z78.out; have qz79 := z79.out; have qz80 := z80.out; omega
              have s82 := set_grownC ((W80.setCell ⟨W79.heap.size, 0, none⟩ (.iface T1 x1)).setCell ⟨W79.heap.size, 1, none⟩ (.int .i64 (k1 : Int))) (W59.heap.size) 0 1 (.iface U1 y1) (.int .i64 (k2 : Int))
              have g82 : V.grownBy ((((W80.setCell ⟨W79.heap.size, 0, none⟩ (.iface T1 x1)).setCell ⟨W79.heap.size, 1, none⟩ (.int .i64 (k1 : Int))).setCell ⟨W59.heap.size, 0, none⟩ (.iface U1 y1)).setCell ⟨W59.heap.size, 1, none⟩ (.int .i64 (k2 : Int))) (some B) := setCell_grown (setCell_grown (g81) (.inr vle82) _) (.inr vle82) _
              have M82 : Memo ((((W80.setCell ⟨W79.heap.size, 0, none⟩ (.iface T1 x1)).setCell ⟨W79.heap.size, 1, none⟩ (.int .i64 (k1 : Int))).setCell ⟨W59.heap.size, 0, none⟩ (.iface U1 y1)).setCell ⟨W59.heap.size, 1, none⟩ (.int .i64 (k2 : Int))) B m79 := (M81).kept s82 (by intro e; have := Option.some.inj e; have qz59 := z59.out; have qz78 := z78.out; have qz79 := z79.out; have qz80 := z80.out; omega)
              have f82_9 := ((f81_9).set0 (.iface U1 y1)).set1 (.int .i64 (k2 : Int))
              have f82_8 := (f81_8).kept s82 (by intro e; have := Option.some.inj e; have qz59 := z59.out; have qz78 := z78.out; have qz79 := z79.out; have qz80 := z80.out; omega)
              refine hK _ _ g82 (fun _ => ?_)
              clear hK K
              go_simp
              refine wpAnyH_done (by kernel_rfl) ?_ _
              have fx := f82_8
              have fy := f82_9
              have gz := g82
              have Mz := M82
              have nz : m79 ≤ n + (c1 + c2) := by omega
              obtain ⟨Z, hZ⟩ : ∃ Z, Z = ((((W80.setCell ⟨W79.heap.size, 0, none⟩ (.iface T1 x1)).setCell ⟨W79.heap.size, 1, none⟩ (.int .i64 (k1 : Int))).setCell ⟨W59.heap.size, 0, none⟩ (.iface U1 y1)).setCell ⟨W59.heap.size, 1, none⟩ (.int .i64 (k2 : Int))) := ⟨_, rfl⟩
              rw [← hZ] at fx fy gz Mz ⊢
              have HZ := Lib.hid hZ
              clear hZ
              have rz := r0.kept gz (by intro e; have := Option.some.inj e; omega)
              obtain ⟨e0, e1, _, _⟩ := fx.cells
              obtain ⟨e2, e3, _, _⟩ := fy.cells
              obtain ⟨e4, e5, e6, e7⟩ := rz.cells
              go_wp2_with fail
              have sz := set_grownC Z W.heap.size 0 1 (.iface 112 (.agg #[.iface T1 x1, .iface U1 y1])) (.int .i64 ((k1 : Int) + (k2 : Int)))
              exact ret_simP ((rz.set0 _).set1 _) rfl rfl ⟨by rw [HS.out _ rfl], setCell_grown (setCell_grown (grown_trans2 gV gz) (.inr (Nat.le_refl _)) _) (.inr (Nat.le_refl _)) _, m79, nz, Mz.kept sz (by intro e; have := Option.some.inj e; omega)⟩
      · go_simp
        obtain ⟨W83, e83⟩ : ∃ W', W' = W78.alloc (.cells #[.nilIface, .int .i64 0] 73) := ⟨_, rfl⟩
        have g83 : V.grownBy W83 (some B) := by rw [e83]; exact grown_alloc (g78) _
        have M83 : Memo W83 B m59 := by rw [e83]; exact (M78).kept (World.grownBy_alloc _ _ none) (by simp)
        have f83_8 : Lies W83 W78.heap.size #[.nilIface, .int .i64 0] 73 := by rw [e83]; exact Lies.new W78 _ _
        have f83_9 : Lies W83 W59.heap.size #[.nilIface, .int .i64 0] 73 := by rw [e83]; exact Lies.alloc f78_9 _
        have z83 := Lib.hid (show W83.heap.size = W78.heap.size + 1 by rw [e83]; simp)
        rw [← e83]
        clear e83
        refine hK _ _ g83 (fun _ => ?_)
        clear hK K
        go_simp
        refine wpAnyH_ready (rs := [7]) (by kernel_rfl) (by simp) ?_
        refine AllReadyH.cons rfl (fun K hK => ?_) AllReadyH.nil
        · go_simp
          go_wp2_with (go_at_call 64; refine (IB _ m59 g83 M83 (by omega)).mono ?_; rintro e W84 ⟨rfl, h84, m84, hm84, M84⟩; unfold simV; rw [hq])
          have g84 := grown_trans2 (g83) h84
          have f84_8 := Lies.kept f83_8 h84 (by intro e; have := Option.some.inj e; have qz59 := z59.out; have qz78 := z78.out; have qz83 := z83.out; omega)
          have f84_9 := Lies.kept f83_9 h84 (by intro e; have := Option.some.inj e; have qz59 := z59.out; have qz78 := z78.out; have qz83 := z83.out; omega)
          have z84 := Lib.hid (show W83.heap.size ≤ W84.heap.size from h84.size)
          refine hK _ _ g84 (fun _ => ?_)
          clear hK K h84
          go_simp
          have n84 : m84 ≤ n + c1 + c2 := by omega
          refine wpAnyH_ready (rs := [10]) (by kernel_rfl) (by simp) ?_
          refine AllReadyH.cons rfl (fun K hK => ?_) AllReadyH.nil
          · go_simp
            obtain ⟨c0, c1', c2', c3⟩ := (f84_8).cells
            go_simp
            have vle85 : V.heap.size ≤ W78.heap.size := by have qz59 := z59.out; have qz78 := z78.out; have qz83 := z83.out; have qz84 := z84.out; omega
            have s85 := set_grownC W84 (W78.heap.size) 0 1 (.iface T1 x1) (.int .i64 (k1 : Int))
            have g85 : V.grownBy ((W84.setCell ⟨W78.heap.size, 0, none⟩ (.iface T1 x1)).setCell ⟨W78.heap.size, 1, none⟩ (.int .i64 (k1 : Int))) (some B) := setCell_grown (setCell_grown (g84) (.inr vle85) _) (.inr vle85) _
            have M85 : Memo ((W84.setCell ⟨W78.heap.size, 0, none⟩ (.iface T1 x1)).setCell ⟨W78.heap.size, 1, none⟩ (.int .i64 (k1 : Int))) B m84 := (M84).kept s85 (by intro e; have := Option.some.inj e; have qz59 := z59.out; have qz78 := z78.out; have qz83 := z83.out; have qz84 := z84.out; omega)
            have f85_8 := ((f84_8).set0 (.iface T1 x1)).set1 (.int .i64 (k1 : Int))
            have f85_9 := (f84_9).kept s85 (by intro e; have := Option.some.inj e; have qz59 := z59.out; have qz78 := z78.out; have qz83 := z83.out; have qz84 := z84.out; omega)
            refine hK _ _ g85 (fun _ => ?_)
            clear hK K
            go_simp
            refine wpAnyH_ready (rs := [11]) (by kernel_rfl) (by simp) ?_
            refine AllReadyH.cons rfl (fun K hK => ?_) AllReadyH.nil
            · go_simp
              obtain ⟨c0, c1', c2', c3⟩ := (f85_9).cells
              obtain ⟨b0, b1, b2, b3⟩ := (f84_9).cells
              have d1 : W78.heap.size ≠ W59.heap.size := by have qz59 := z59.out; have qz78 := z78.out; have qz83 := z83.out; have qz84 := z84.out; omega
              have d2 : W59.heap.size ≠ W78.heap.size := fun e => d1 e.symm
              go_simp
              have vle86 : V.heap.size ≤ W59.heap.size := by have qz59 := z59.out; have qz78 := z78.out; have qz83 := z83.out; have qz84 := z84.out; omega
              have s86 := set_grownC ((W84.setCell ⟨W78.heap.size, 0, none⟩ (.iface T1 x1)).setCell ⟨W78.heap.size, 1, none⟩ (.int .i64 (k1 : Int))) (W59.heap.size) 0 1 (.iface U1 y1) (.int .i64 (k2 : Int))
              have g86 : V.grownBy ((((W84.setCell ⟨W78.heap.size, 0, none⟩ (.iface T1 x1)).setCell ⟨W78.heap.size, 1, none⟩ (.int .i64 (k1 : Int))).setCell ⟨W59.heap.size, 0, none⟩ (.iface U1 y1)).setCell ⟨W59.heap.size, 1, none⟩ (.int .i64 (k2 : Int))) (some B) := setCell_grown (setCell_grown (g85) (.inr vle86) _) (.inr vle86) _
              have M86 : Memo ((((W84.setCell ⟨W78.heap.size, 0, none⟩ (.iface T1 x1)).setCell ⟨W78.heap.size, 1, none⟩ (.int .i64 (k1 : Int))).setCell ⟨W59.heap.size, 0, none⟩ (.iface U1 y1)).setCell ⟨W59.heap.size, 1, none⟩ (.int .i64 (k2 : Int))) B m84 := (M85).kept s86 (by intro e; have := Option.some.inj e; have qz59 := z59.out; have qz78 := z78.out; have qz83 := z83.out; have qz84 := z84.out; omega)
              have f86_9 := ((f85_9).set0 (.iface U1 y1)).set1 (.int .i64 (k2 : Int))
              have f86_8 := (f85_8).kept s86 (by intro e; have := Option.some.inj e; have qz59 := z59.out; have qz78 := z78.out; have qz83 := z83.out; have qz84 := z84.out; omega)
              refine hK _ _ g86 (fun _ => ?_)
              clear hK K
              go_simp
              refine wpAnyH_done (by kernel_rfl) ?_ _
              have fx := f86_8
              have fy := f86_9
              have gz := g86
              have Mz := M86
              have nz : m84 ≤ n + (c1 + c2) := by omega
              obtain ⟨Z, hZ⟩ : ∃ Z, Z = ((((W84.setCell ⟨W78.heap.size, 0, none⟩ (.iface T1 x1)).setCell ⟨W78.heap.size, 1, none⟩ (.int .i64 (k1 : Int))).setCell ⟨W59.heap.size, 0, none⟩ (.iface U1 y1)).setCell ⟨W59.heap.size, 1, none⟩ (.int .i64 (k2 : Int))) := ⟨_, rfl⟩
              rw [← hZ] at fx fy gz Mz ⊢
              have HZ := Lib.hid hZ
              clear hZ
              have rz := r0.kept gz (by intro e; have := Option.some.inj e; omega)
              obtain ⟨e0, e1, _, _⟩ := fx.cells
              obtain ⟨e2, e3, _, _⟩ := fy.cells
              obtain ⟨e4, e5, e6, e7⟩ := rz.cells
              go_wp2_with fail
              have sz := set_grownC Z W.heap.size 0 1 (.iface 112 (.agg #[.iface T1 x1, .iface U1 y1])) (.int .i64 ((k1 : Int) + (k2 : Int)))
              exact ret_simP ((rz.set0 _).set1 _) rfl rfl ⟨by rw [HS.out _ rfl], setCell_grown (setCell_grown (grown_trans2 gV gz) (.inr (Nat.le_refl _)) _) (.inr (Nat.le_refl _)) _, m84, nz, Mz.kept sz (by intro e; have := Option.some.inj e; omega)⟩
  · go_simp
    obtain ⟨W87, e87⟩ : ∃ W', W' = (V.alloc (.cells #[.nilIface, .int .i64 0] 73)).drew := ⟨_, rfl⟩
    have g87 : V.grownBy W87 (some B) := by rw [e87]; exact grown_drew (World.grownBy_alloc _ _ _)
    have M87 : Memo W87 B n := by rw [e87]; exact (hMV.kept (World.grownBy_alloc V _ none) (by simp)).kept (row := none) ⟨rfl, rfl, rfl, Nat.le_refl _, fun _ _ _ => rfl⟩ (by simp)
    have f87_8 : Lies W87 V.heap.size #[.nilIface, .int .i64 0] 73 := by rw [e87]; exact Lies.new V _ _
    have z87 := Lib.hid (show W87.heap.size = V.heap.size + 1 by rw [e87]; simp)
    rw [← e87]
    clear e87
    refine hK _ _ g87 (fun _ => ?_)
    clear hK K
    go_simp
    refine wpAnyH_ready (rs := [3, 9]) (by kernel_rfl) (by simp) ?_
    refine AllReadyH.cons rfl (fun K hK => ?_) (AllReadyH.cons rfl (fun K hK => ?_) AllReadyH.nil)
    · go_simp
      go_wp2_with (go_at_call 64; refine (IA _ n g87 M87 (by omega)).mono ?_; rintro e W88 ⟨rfl, h88, m88, hm88, M88⟩; unfold simV; rw [hp])
      have g88 := grown_trans2 (g87) h88
      have f88_8 := Lies.kept f87_8 h88 (by intro e; have := Option.some.inj e; have qz87 := z87.out; omega)
      have z88 := Lib.hid (show W87.heap.size ≤ W88.heap.size from h88.size)
      refine hK _ _ g88 (fun _ => ?_)
      clear hK K h88
      go_simp
      have n88 : m88 ≤ n + c1 := by omega
      refine wpAnyH_ready (rs := [7, 9]) (by kernel_rfl) (by simp) ?_
      refine AllReadyH.cons rfl (fun K hK => ?_) (AllReadyH.cons rfl (fun K hK => ?_) AllReadyH.nil)
      · go_simp
        go_wp2_with (go_at_call 64; refine (IB _ m88 g88 M88 (by omega)).mono ?_; rintro e W89 ⟨rfl, h89, m89, hm89, M89⟩; unfold simV; rw [hq])
        have g89 := grown_trans2 (g88) h89
        have f89_8 := Lies.kept f88_8 h89 (by intro e; have := Option.some.inj e; have qz87 := z87.out; have qz88 := z88.out; omega)
        have z89 := Lib.hid (show W88.heap.size ≤ W89.heap.size from h89.size)
        refine hK _ _ g89 (fun _ => ?_)
        clear hK K h89
        go_simp
        have n89 : m89 ≤ n + c1 + c2 := by omega
        refine wpAnyH_ready (rs := [9]) (by kernel_rfl) (by simp) ?_
        refine AllReadyH.cons rfl (fun K hK => ?_) AllReadyH.nil
        · go_simp
          obtain ⟨W90, e90⟩ : ∃ W', W' = W89.alloc (.cells #[.nilIface, .int .i64 0] 73) := ⟨_, rfl⟩
          have g90 : V.grownBy W90 (some B) := by rw [e90]; exact grown_alloc (g89) _
          have M90 : Memo W90 B m89 := by rw [e90]; exact (M89).kept (World.grownBy_alloc _ _ none) (by simp)
          have f90_9 : Lies W90 W89.heap.size #[.nilIface, .int .i64 0] 73 := by rw [e90]; exact Lies.new W89 _ _
          have f90_8 : Lies W90 V.heap.size #[.nilIface, .int .i64 0] 73 := by rw [e90]; exact Lies.alloc f89_8 _
          have z90 := Lib.hid (show W90.heap.size = W89.heap.size + 1 by rw [e90]; simp)
          rw [← e90]
          clear e90
          refine hK _ _ g90 (fun _ => ?_)
          clear hK K
          go_simp
          refine wpAnyH_ready (rs := [10]) (by kernel_rfl) (by simp) ?_
          refine AllReadyH.cons rfl (fun K hK => ?_) AllReadyH.nil
          · go_simp
            obtain ⟨c0, c1', c2', c3⟩ := (f90_8).cells
            go_simp
            have vle91 : V.heap.size ≤ V.heap.size := by have qz87 := z87.out; have qz88 := z88.out; have qz89 := z89.out; have qz90 := z90.out; omega
            have s91 := set_grownC W90 (V.heap.size) 0 1 (.iface T1 x1) (.int .i64 (k1 : Int))
            have g91 : V.grownBy ((W90.setCell ⟨V.heap.size, 0, none⟩ (.iface T1 x1)).setCell ⟨V.heap.size, 1, none⟩ (.int .i64 (k1 : Int))) (some B) := setCell_grown (setCell_grown (g90) (.inr vle91) _) (.inr vle91) _
            have M91 : Memo ((W90.setCell ⟨V.heap.size, 0, none⟩ (.iface T1 x1)).setCell ⟨V.heap.size, 1, none⟩ (.int .i64 (k1 : Int))) B m89 := (M90).kept s91 (by intro e; have := Option.some.inj e; have qz87 := z87.out; have qz88 := z88.out; have qz89 := z89.out; have qz90 := z90.out; omega)
            have f91_8 := ((f90_8).set0 (.iface T1 x1)).set1 (.int .i64 (k1 : Int))
            have f91_9 := (f90_9).kept s91 (by intro e; have := Option.some.inj e; have qz87 := z87.out; have qz88 := z88.out; have qz89 := z89.out; have qz90 := z90.out; omega)
            refine hK _ _ g91 (fun _ => ?_)
            clear hK K
            go_simp
            refine wpAnyH_ready (rs := [11]) (by kernel_rfl) (by simp) ?_
            refine AllReadyH.cons rfl (fun K hK => ?_) AllReadyH.nil
            · go_simp
              obtain ⟨c0, c1', c2', c3⟩ := (f91_9).cells
              obtain ⟨b0, b1, b2, b3⟩ := (f90_9).cells
              have d1 : V.heap.size ≠ W89.heap.size := by have qz87 := z87.out; have qz88 := z88.out; have qz89 := z89.out; have qz90 := z90.out; omega
              have d2 : W89.heap.size ≠ V.heap.size := fun e => d1 e.symm
              go_simp
              have vle92 : V.heap.size ≤ W89.heap.size := by have qz87 := z87.out; have qz88 := z88.out; have qz89 := z89.out; have qz90 := z90.out; omega
              have s92 := set_grownC ((W90.setCell ⟨V.heap.size, 0, none⟩ (.iface T1 x1)).setCell ⟨V.heap.size, 1, none⟩ (.int .i64 (k1 : Int))) (W89.heap.size) 0 1 (.iface U1 y1) (.int .i64 (k2 : Int))
              have g92 : V.grownBy ((((W90.setCell ⟨V.heap.size, 0, none⟩ (.iface T1 x1)).setCell ⟨V.heap.size, 1, none⟩ (.int .i64 (k1 : Int))).setCell ⟨W89.heap.size, 0, none⟩ (.iface U1 y1)).setCell ⟨W89.heap.size, 1, none⟩ (.int .i64 (k2 : Int))) (some B) := setCell_grown (setCell_grown (g91) (.inr vle92) _) (.inr vle92) _
              have M92 : Memo ((((W90.setCell ⟨V.heap.size, 0, none⟩ (.iface T1 x1)).setCell ⟨V.heap.size, 1, none⟩ (.int .i64 (k1 : Int))).setCell ⟨W89.heap.size, 0, none⟩ (.iface U1 y1)).setCell ⟨W89.heap.size, 1, none⟩ (.int .i64 (k2 : Int))) B m89 := (M91).kept s92 (by intro e; have := Option.some.inj e; have qz87 := z87.out; have qz88 := z88.out; have qz89 := z89.out; have qz90 := z90.out; omega)
              have f92_9 := ((f91_9).set0 (.iface U1 y1)).set1 (.int .i64 (k2 : Int))
              have f92_8 := (f91_8).kept s92 (by intro e; have := Option.some.inj e; have qz87 := z87.out; have qz88 := z88.out; have qz89 := z89.out; have qz90 := z90.out; omega)
              refine hK _ _ g92 (fun _ => ?_)
              clear hK K
              go_simp
              refine wpAnyH_done (by kernel_rfl) ?_ _
              have fx := f92_8
              have fy := f92_9
              have gz := g92
              have Mz := M92
              have nz : m89 ≤ n + (c1 + c2) := by omega
              obtain ⟨Z, hZ⟩ : ∃ Z, Z = ((((W90.setCell ⟨V.heap.size, 0, none⟩ (.iface T1 x1)).setCell ⟨V.heap.size, 1, none⟩ (.int .i64 (k1 : Int))).setCell ⟨W89.heap.size, 0, none⟩ (.iface U1 y1)).setCell ⟨W89.heap.size, 1, none⟩ (.int .i64 (k2 : Int))) := ⟨_, rfl⟩
              rw [← hZ] at fx fy gz Mz ⊢
              have HZ := Lib.hid hZ
              clear hZ
              have rz := r0.kept gz (by intro e; have := Option.some.inj e; omega)
              obtain ⟨e0, e1, _, _⟩ := fx.cells
              obtain ⟨e2, e3, _, _⟩ := fy.cells
              obtain ⟨e4, e5, e6, e7⟩ := rz.cells
              go_wp2_with fail
              have sz := set_grownC Z W.heap.size 0 1 (.iface 112 (.agg #[.iface T1 x1, .iface U1 y1])) (.int .i64 ((k1 : Int) + (k2 : Int)))
              exact ret_simP ((rz.set0 _).set1 _) rfl rfl ⟨by rw [HS.out _ rfl], setCell_grown (setCell_grown (grown_trans2 gV gz) (.inr (Nat.le_refl _)) _) (.inr (Nat.le_refl _)) _, m89, nz, Mz.kept sz (by intro e; have := Option.some.inj e; omega)⟩
      · go_simp
        obtain ⟨W93, e93⟩ : ∃ W', W' = W88.alloc (.cells #[.nilIface, .int .i64 0] 73) := ⟨_, rfl⟩
        have g93 : V.grownBy W93 (some B) := by rw [e93]; exact grown_alloc (g88) _
        have M93 : Memo W93 B m88 := by rw [e93]; exact (M88).kept (World.grownBy_alloc _ _ none) (by simp)
        have f93_9 : Lies W93 W88.heap.size #[.nilIface, .int .i64 0] 73 := by rw [e93]; exact Lies.new W88 _ _
        have f93_8 : Lies W93 V.heap.size #[.nilIface, .int .i64 0] 73 := by rw [e93]; exact Lies.alloc f88_8 _
        have z93 := Lib.hid (show W93.heap.size = W88.heap.size + 1 by rw [e93]; simp)
        rw [← e93]
        clear e93
        refine hK _ _ g93 (fun _ => ?_)
        clear hK K
        go_simp
        refine wpAnyH_ready (rs := [7]) (by kernel_rfl) (by simp) ?_
        refine AllReadyH.cons rfl (fun K hK => ?_) AllReadyH.nil
        · go_simp
          go_wp2_with (go_at_call 64; refine (IB _ m88 g93 M93 (by omega)).mono ?_; rintro e W94 ⟨rfl, h94, m94, hm94, M94⟩; unfold simV; rw [hq])
          have g94 := grown_trans2 (g93) h94
          have f94_8 := Lies.kept f93_8 h94 (by intro e; have := Option.some.inj e; have qz87 := z87.out; have qz88 := z88.out; have qz93 := z93.out; omega)
          have f94_9 := Lies.kept f93_9 h94 (by intro e; have := Option.some.inj e; have qz87 := z87.out; have qz88 := z88.out; have qz93 := z93.out; omega)
          have z94 := Lib.hid (show W93.heap.size ≤ W94.heap.size from h94.size)
          refine hK _ _ g94 (fun _ => ?_)
          clear hK K h94
          go_simp
          have n94 : m94 ≤ n + c1 + c2 := by omega
          refine wpAnyH_ready (rs := [10]) (by kernel_rfl) (by simp) ?_
          refine AllReadyH.cons rfl (fun K hK => ?_) AllReadyH.nil
          · go_simp
            obtain ⟨c0, c1', c2', c3⟩ := (f94_8).cells
            go_simp
            have vle95 : V.heap.size ≤ V.heap.size := by have qz87 := z87.out; have qz88 := z88.out; have qz93 := z93.out; have qz94 := z94.out; omega
            have s95 := set_grownC W94 (V.heap.size) 0 1 (.iface T1 x1) (.int .i64 (k1 : Int))
            have g95 : V.grownBy ((W94.setCell ⟨V.heap.size, 0, none⟩ (.iface T1 x1)).setCell ⟨V.heap.size, 1, none⟩ (.int .i64 (k1 : Int))) (some B) := setCell_grown (setCell_grown (g94) (.inr vle95) _) (.inr vle95) _
            have M95 : Memo ((W94.setCell ⟨V.heap.size, 0, none⟩ (.iface T1 x1)).setCell ⟨V.heap.size, 1, none⟩ (.int .i64 (k1 : Int))) B m94 := (M94).kept s95 (by intro e; have := Option.some.inj e; have qz87 := z87.out; have qz88 := z88.out; have qz93 := z93.out; have qz94 := z94.out; omega)
            have f95_8 := ((f94_8).set0 (.iface T1 x1)).set1 (.int .i64 (k1 : Int))
            have f95_9 := (f94_9).kept s95 (by intro e; have := Option.some.inj e; have qz87 := z87.out; have qz88 := z88.out; have qz93 := z93.out; have qz94 := z94.out; omega)
            refine hK _ _ g95 (fun _ => ?_)
            clear hK K
            go_simp
            refine wpAnyH_ready (rs := [11]) (by kernel_rfl) (by simp) ?_
            refine AllReadyH.cons rfl (fun K hK => ?_) AllReadyH.nil
            · go_simp
              obtain ⟨c0, c1', c2', c3⟩ := (f95_9).cells
              obtain ⟨b0, b1, b2, b3⟩ := (f94_9).cells
              have d1 : V.heap.size ≠ W88.heap.size := by have qz87 := z87.out; have qz88 := z88.out; have qz93 := z93.out; have qz94 := z94.out; omega
              have d2 : W88.heap.size ≠ V.heap.size := fun e => d1 e.symm
              go_simp
              have vle96 : V.heap.size ≤ W88.heap.size := by have qz87 := z87.out; have qz88 := z88.out; have qz93 := z93.out; have qz94 := z94.out; omega
              have s96 := set_grownC ((W94.setCell ⟨V.heap.size, 0, none⟩ (.iface T1 x1)).setCell ⟨V.heap.size, 1, none⟩ (.int .i64 (k1 : Int))) (W88.heap.size) 0 1 (.iface U1 y1) (.int .i64 (k2 : Int))
              have g96 : V.grownBy ((((W94.setCell ⟨V.heap.size, 0, none⟩ (.iface T1 x1)).setCell ⟨V.heap.size, 1, none⟩ (.int .i64 (k1 : Int))).setCell ⟨W88.heap.size, 0, none⟩ (.iface U1 y1)).setCell ⟨W88.heap.size, 1, none⟩ (.int .i64 (k2 : Int))) (some B) := setCell_grown (setCell_grown (g95) (.inr vle96) _) (.inr vle96) _
              have M96 : Memo ((((W94.setCell ⟨V.heap.size, 0, none⟩ (.iface T1 x1)).setCell ⟨V.heap.size, 1, none⟩ (.int .i64 (k1 : Int))).setCell ⟨W88.heap.size, 0, none⟩ (.iface U1 y1)).setCell ⟨W88.heap.size, 1, none⟩ (.int .i64 (k2 : Int))) B m94 := (M95).kept s96 (by intro e; have := Option.some.inj e; have qz87 := z87.out; have qz88 := z88.out; have qz93 := z93.out; have qz94 := z94.out; omega)
              have f96_9 := ((f95_9).set0 (.iface U1 y1)).set1 (.int .i64 (k2 : Int))
              have f96_8 := (f95_8).kept s96 (by intro e; have := Option.some.inj e; have qz87 := z87.out; have qz88 := z88.out; have qz93 := z93.out; have qz94 := z94.out; omega)
              refine hK _ _ g96 (fun _ => ?_)
              clear hK K
              go_simp
              refine wpAnyH_done (by kernel_rfl) ?_ _
              have fx := f96_8
              have fy := f96_9
              have gz := g96
              have Mz := M96
              have nz : m94 ≤ n + (c1 + c2) := by omega
              obtain ⟨Z, hZ⟩ : ∃ Z, Z = ((((W94.setCell ⟨V.heap.size, 0, none⟩ (.iface T1 x1)).setCell ⟨V.heap.size, 1, none⟩ (.int .i64 (k1 : Int))).setCell ⟨W88.heap.size, 0, none⟩ (.iface U1 y1)).setCell ⟨W88.heap.size, 1, none⟩ (.int .i64 (k2 : Int))) := ⟨_, rfl⟩
              rw [← hZ] at fx fy gz Mz ⊢
              have HZ := Lib.hid hZ
              clear hZ
              have rz := r0.kept gz (by intro e; have := Option.some.inj e; omega)
              obtain ⟨e0, e1, _, _⟩ := fx.cells
              obtain ⟨e2, e3, _, _⟩ := fy.cells
              obtain ⟨e4, e5, e6, e7⟩ := rz.cells
              go_wp2_with fail
              have sz := set_grownC Z W.heap.size 0 1 (.iface 112 (.agg #[.iface T1 x1, .iface U1 y1])) (.int .i64 ((k1 : Int) + (k2 : Int)))
              exact ret_simP ((rz.set0 _).set1 _) rfl rfl ⟨by rw [HS.out _ rfl], setCell_grown (setCell_grown (grown_trans2 gV gz) (.inr (Nat.le_refl _)) _) (.inr (Nat.le_refl _)) _, m94, nz, Mz.kept sz (by intro e; have := Option.some.inj e; omega)⟩
    · go_simp
      obtain ⟨W97, e97⟩ : ∃ W', W' = W87.alloc (.cells #[.nilIface, .int .i64 0] 73) := ⟨_, rfl⟩
      have g97 : V.grownBy W97 (some B) := by rw [e97]; exact grown_alloc (g87) _
      have M97 : Memo W97 B n := by rw [e97]; exact (M87).kept (World.grownBy_alloc _ _ none) (by simp)
      have f97_9 : Lies W97 W87.heap.size #[.nilIface, .int .i64 0] 73 := by rw [e97]; exact Lies.new W87 _ _
      have f97_8 : Lies W97 V.heap.size #[.nilIface, .int .i64 0] 73 := by rw [e97]; exact Lies.alloc f87_8 _
      have z97 := Lib.hid (show W97.heap.size = W87.heap.size + 1 by rw [e97]; simp)
      rw [← e97]
      clear e97
      refine hK _ _ g97 (fun _ => ?_)
      clear hK K
      go_simp
      refine wpAnyH_ready (rs := [3]) (by kernel_rfl) (by simp) ?_
      refine AllReadyH.cons rfl (fun K hK => ?_) AllReadyH.nil
      · go_simp
        go_wp2_with (go_at_call 64; refine (IA _ n g97 M97 (by omega)).mono ?_; rintro e W98 ⟨rfl, h98, m98, hm98, M98⟩; unfold simV; rw [hp])
        have g98 := grown_trans2 (g97) h98
        have f98_8 := Lies.kept f97_8 h98 (by intro e; have := Option.some.inj e; have qz87 := z87.out; have qz97 := z97.out; omega)
        have f98_9 := Lies.kept f97_9 h98 (by intro e; have := Option.some.inj e; have qz87 := z87.out; have qz97 := z97.out; omega)
        have z98 := Lib.hid (show W97.heap.size ≤ W98.heap.size from h98.size)
        refine hK _ _ g98 (fun _ => ?_)
        clear hK K h98
        go_simp
        have n98 : m98 ≤ n + c1 := by omega
        refine wpAnyH_ready (rs := [7]) (by kernel_rfl) (by simp) ?_
        refine AllReadyH.cons rfl (fun K hK => ?_) AllReadyH.nil
        · go_simp
          go_wp2_with (go_at_call 64; refine (IB _ m98 g98 M98 (by omega)).mono ?_; rintro e W99 ⟨rfl, h99, m99, hm99, M99⟩; unfold simV; rw [hq])
          have g99 := grown_trans2 (g98) h99
          have f99_8 := Lies.kept f98_8 h99 (by intro e; have := Option.some.inj e; have qz87 := z87.out; have qz97 := z97.out; have qz98 := z98.out; omega)
          have f99_9 := Lies.kept f98_9 h99 (by intro e; have := Option.some.inj e; have qz87 := z87.out; have qz97 := z97.out; have qz98 := z98.out; omega)
          have z99 := Lib.hid (show W98.heap.size ≤ W99.heap.size from h99.size)
          refine hK _ _ g99 (fun _ => ?_)
          clear hK K h99
          go_simp
          have n99 : m99 ≤ n + c1 + c2 := by omega
          refine wpAnyH_ready (rs := [10]) (by kernel_rfl) (by simp) ?_
          refine AllReadyH.cons rfl (fun K hK => ?_) AllReadyH.nil
          · go_simp
            obtain ⟨c0, c1', c2', c3⟩ := (f99_8).cells
            go_simp
            have vle100 : V.heap.size ≤ V.heap.size := by have qz87 := z87.out; have qz97 := z97.out; have qz98 := z98.out; have qz99 := z99.out; omega
            have s100 := set_grownC W99 (V.heap.size) 0 1 (.iface T1 x1) (.int .i64 (k1 : Int))
            have g100 : V.grownBy ((W99.setCell ⟨V.heap.size, 0, none⟩ (.iface T1 x1)).setCell ⟨V.heap.size, 1, none⟩ (.int .i64 (k1 : Int))) (some B) := setCell_grown (setCell_grown (g99) (.inr vle100) _) (.inr vle100) _
            have M100 : Memo ((W99.setCell ⟨V.heap.size, 0, none⟩ (.iface T1 x1)).setCell ⟨V.heap.size, 1, none⟩ (.int .i64 (k1 : Int))) B m99 := (M99).kept s100 (by intro e; have := Option.some.inj e; have qz87 := z87.out; have qz97 := z97.out; have qz98 := z98.out; have qz99 := z99.out; omega)
            have f100_8 := ((f99_8).set0 (.iface T1 x1)).set1 (.int .i64 (k1 : Int))
            have f100_9 := (f99_9).kept s100 (by intro e; have := Option.some.inj e; have qz87 := z87.out; have qz97 := z97.out; have qz98 := z98.out; have qz99 := z99.out; omega)
            refine hK _ _ g100 (fun _ => ?_)
            clear hK K
            go_simp
            refine wpAnyH_ready (rs := [11]) (by kernel_rfl) (by simp) ?_
            refine AllReadyH.cons rfl (fun K hK => ?_) AllReadyH.nil
            · go_simp
              obtain ⟨c0, c1', c2', c3⟩ := (f100_9).cells
              obtain ⟨b0, b1, b2, b3⟩ := (f99_9).cells
              have d1 : V.heap.size ≠ W87.heap.size := by have qz87 := z87.out; have qz97 := z97.out; have qz98 := z98.out; have qz99 := z99.out; omega
              have d2 : W87.heap.size ≠ V.heap.size := fun e => d1 e.symm
              go_simp
              have vle101 : V.heap.size ≤ W87.heap.size := by have qz87 := z87.out; have qz97 := z97.out; have qz98 := z98.out; have qz99 := z99.out; omega
              have s101 := set_grownC ((W99.setCell ⟨V.heap.size, 0, none⟩ (.iface T1 x1)).setCell ⟨V.heap.size, 1, none⟩ (.int .i64 (k1 : Int))) (W87.heap.size) 0 1 (.iface U1 y1) (.int .i64 (k2 : Int))
              have g101 : V.grownBy ((((W99.setCell ⟨V.heap.size, 0, none⟩ (.iface T1 x1)).setCell ⟨V.heap.size, 1, none⟩ (.int .i64 (k1 : Int))).setCell ⟨W87.heap.size, 0, none⟩ (.iface U1 y1)).setCell ⟨W87.heap.size, 1, none⟩ (.int .i64 (k2 : Int))) (some B) := setCell_grown (setCell_grown (g100) (.inr vle101) _) (.inr vle101) _
              have M101 : Memo ((((W99.setCell ⟨V.heap.size, 0, none⟩ (.iface T1 x1)).setCell ⟨V.heap.size, 1, none⟩ (.int .i64 (k1 : Int))).setCell ⟨W87.heap.size, 0, none⟩ (.iface U1 y1)).setCell ⟨W87.heap.size, 1, none⟩ (.int .i64 (k2 : Int))) B m99 := (M100).kept s101 (by intro e; have := Option.some.inj e; have qz87 := z87.out; have qz97 := z97.out; have qz98 := z98.out; have qz99 := z99.out; omega)
              have f101_9 := ((f100_9).set0 (.iface U1 y1)).set1 (.int .i64 (k2 : Int))
              have f101_8 := (f100_8).kept s101 (by intro e; have := Option.some.inj e; have qz87 := z87.out; have qz97 := z97.out; have qz98 := z98.out; have qz99 := z99.out; omega)
              refine hK _ _ g101 (fun _ => ?_)
              clear hK K
              go_simp
              refine wpAnyH_done (by kernel_rfl) ?_ _
              have fx := f101_8
              have fy := f101_9
              have gz := g101
              have Mz := M101
              have nz : m99 ≤ n + (c1 + c2) := by omega
              obtain ⟨Z, hZ⟩ : ∃ Z, Z = ((((W99.setCell ⟨V.heap.size, 0, none⟩ (.iface T1 x1)).setCell ⟨V.heap.size, 1, none⟩ (.int .i64 (k1 : Int))).setCell ⟨W87.heap.size, 0, none⟩ (.iface U1 y1)).setCell ⟨W87.heap.size, 1, none⟩ (.int .i64 (k2 : Int))) := ⟨_, rfl⟩
              rw [← hZ] at fx fy gz Mz ⊢
              have HZ := Lib.hid hZ
              clear hZ
              have rz := r0.kept gz (by intro e; have := Option.some.inj e; omega)
              obtain ⟨e0, e1, _, _⟩ := fx.cells
              obtain ⟨e2, e3, _, _⟩ := fy.cells
              obtain ⟨e4, e5, e6, e7⟩ := rz.cells
              go_wp2_with fail
              have sz := set_grownC Z W.heap.size 0 1 (.iface 112 (.agg #[.iface T1 x1, .iface U1 y1])) (.int .i64 ((k1 : Int) + (k2 : Int)))
              exact ret_simP ((rz.set0 _).set1 _) rfl rfl ⟨by rw [HS.out _ rfl], setCell_grown (setCell_grown (grown_trans2 gV gz) (.inr (Nat.le_refl _)) _) (.inr (Nat.le_refl _)) _, m99, nz, Mz.kept sz (by intro e; have := Option.some.inj e; omega)⟩
  · go_simp
    obtain ⟨W102, e102⟩ : ∃ W', W' = (V.alloc (.cells #[.nilIface, .int .i64 0] 73)).drew := ⟨_, rfl⟩
    have g102 : V.grownBy W102 (some B) := by rw [e102]; exact grown_drew (World.grownBy_alloc _ _ _)
    have M102 : Memo W102 B n := by rw [e102]; exact (hMV.kept (World.grownBy_alloc V _ none) (by simp)).kept (row := none) ⟨rfl, rfl, rfl, Nat.le_refl _, fun _ _ _ => rfl⟩ (by simp)
    have f102_9 : Lies W102 V.heap.size #[.nilIface, .int .i64 0] 73 := by rw [e102]; exact Lies.new V _ _
    have z102 := Lib.hid (show W102.heap.size = V.heap.size + 1 by rw [e102]; simp)
    rw [← e102]
    clear e102
    refine hK _ _ g102 (fun _ => ?_)
    clear hK K
    go_simp
    refine wpAnyH_ready (rs := [3, 8]) (by kernel_rfl) (by simp) ?_
    refine AllReadyH.cons rfl (fun K hK => ?_) (AllReadyH.cons rfl (fun K hK => ?_) AllReadyH.nil)
    · go_simp
      go_wp2_with (go_at_call 64; refine (IA _ n g102 M102 (by omega)).mono ?_; rintro e W103 ⟨rfl, h103, m103, hm103, M103⟩; unfold simV; rw [hp])
      have g103 := grown_trans2 (g102) h103
      have f103_9 := Lies.kept f102_9 h103 (by intro e; have := Option.some.inj e; have qz102 := z102.out; omega)
      have z103 := Lib.hid (show W102.heap.size ≤ W103.heap.size from h103.size)
      refine hK _ _ g103 (fun _ => ?_)
      clear hK K h103
      go_simp
      have n103 : m103 ≤ n + c1 := by omega
      refine wpAnyH_ready (rs := [7, 8]) (by kernel_rfl) (by simp) ?_
      refine AllReadyH.cons rfl (fun K hK => ?_) (AllReadyH.cons rfl (fun K hK => ?_) AllReadyH.nil)
      · go_simp
        go_wp2_with (go_at_call 64; refine (IB _ m103 g103 M103 (by omega)).mono ?_; rintro e W104 ⟨rfl, h104, m104, hm104, M104⟩; unfold simV; rw [hq])
        have g104 := grown_trans2 (g103) h104
        have f104_9 := Lies.kept f103_9 h104 (by intro e; have := Option.some.inj e; have qz102 := z102.out; have qz103 := z103.out; omega)
        have z104 := Lib.hid (show W103.heap.size ≤ W104.heap.size from h104.size)
        refine hK _ _ g104 (fun _ => ?_)
        clear hK K h104
        go_simp
        have n104 : m104 ≤ n + c1 + c2 := by omega
        refine wpAnyH_ready (rs := [8]) (by kernel_rfl) (by simp) ?_
        refine AllReadyH.cons rfl (fun K hK => ?_) AllReadyH.nil
        · go_simp
          obtain ⟨W105, e105⟩ : ∃ W', W' = W104.alloc (.cells #[.nilIface, .int .i64 0] 73) := ⟨_, rfl⟩
          have g105 : V.grownBy W105 (some B) := by rw [e105]; exact grown_alloc (g104) _
          have M105 : Memo W105 B m104 := by rw [e105]; exact (M104).kept (World.grownBy_alloc _ _ none) (by simp)
          have f105_8 : Lies W105 W104.heap.size #[.nilIface, .int .i64 0] 73 := by rw [e105]; exact Lies.new W104 _ _
          have f105_9 : Lies W105 V.heap.size #[.nilIface, .int .i64 0] 73 := by rw [e105]; exact Lies.alloc f104_9 _
          have z105 := Lib.hid (show W105.heap.size = W104.heap.size + 1 by rw [e105]; simp)
          rw [← e105]
          clear e105
          refine hK _ _ g105 (fun _ => ?_)
          clear hK K
          go_simp
          refine wpAnyH_ready (rs := [10]) (by kernel_rfl) (by simp) ?_
          refine AllReadyH.cons rfl (fun K hK => ?_) AllReadyH.nil
          · go_simp
            obtain ⟨c0, c1', c2', c3⟩ := (f105_8).cells
            go_simp
            have vle106 : V.heap.size ≤ W104.heap.size := by have qz102 := z102.out; have qz103 := z103.out; have qz104 := z104.out; have qz105 := z105.out; omega
            have s106 := set_grownC W105 (W104.heap.size) 0 1 (.iface T1 x1) (.int .i64 (k1 : Int))
            have g106 : V.grownBy ((W105.setCell ⟨W104.heap.size, 0, none⟩ (.iface T1 x1)).setCell ⟨W104.heap.size, 1, none⟩ (.int .i64 (k1 : Int))) (some B) := setCell_grown (setCell_grown (g105) (.inr vle106) _) (.inr vle106) _
            have M106 : Memo ((W105.setCell ⟨W104.heap.size, 0, none⟩ (.iface T1 x1)).setCell ⟨W104.heap.size, 1, none⟩ (.int .i64 (k1 : Int))) B m104 := (M105).kept s106 (by intro e; have := Option.some.inj e; have qz102 := z102.out; have qz103 := z103.out; have qz104 := z104.out; have qz105 := z105.out; omega)
            have f106_8 := ((f105_8).set0 (.iface T1 x1)).set1 (.int .i64 (k1 : Int))
            have f106_9 := (f105_9).kept s106 (by intro e; have := Option.some.inj e; have qz102 := z102.out; have qz103 := z103.out; have qz104 := z104.out; have qz105 := z105.out; omega)
            refine hK _ _ g106 (fun _ => ?_)
            clear hK K
            go_simp
            refine wpAnyH_ready (rs := [11]) (by kernel_rfl) (by simp) ?_
            refine AllReadyH.cons rfl (fun K hK => ?_) AllReadyH.nil
            · go_simp
              obtain ⟨c0, c1', c2', c3⟩ := (f106_9).cells
              obtain ⟨b0, b1, b2, b3⟩ := (f105_9).cells
              have d1 : W104.heap.size ≠ V.heap.size := by have qz102 := z102.out; have qz103 := z103.out; have qz104 := z104.out; have qz105 := z105.out; omega
              have d2 : V.heap.size ≠ W104.heap.size := fun e => d1 e.symm
              go_simp
              have vle107 : V.heap.size ≤ V.heap.size := by have qz102 := z102.out; have qz103 := z103.out; have qz104 := z104.out; have qz105 := z105.out; omega
              have s107 := set_grownC ((W105.setCell ⟨W104.heap.size, 0, none⟩ (.iface T1 x1)).setCell ⟨W104.heap.size, 1, none⟩ (.int .i64 (k1 : Int))) (V.heap.size) 0 1 (.iface U1 y1) (.int .i64 (k2 : Int))
              have g107 : V.grownBy ((((W105.setCell ⟨W104.heap.size, 0, none⟩ (.iface T1 x1)).setCell ⟨W104.heap.size, 1, none⟩ (.int .i64 (k1 : Int))).setCell ⟨V.heap.size, 0, none⟩ (.iface U1 y1)).setCell ⟨V.heap.size, 1, none⟩ (.int .i64 (k2 : Int))) (some B) := setCell_grown (setCell_grown (g106) (.inr vle107) _) (.inr vle107) _
              have M107 : Memo ((((W105.setCell ⟨W104.heap.size, 0, none⟩ (.iface T1 x1)).setCell ⟨W104.heap.size, 1, none⟩ (.int .i64 (k1 : Int))).setCell ⟨V.heap.size, 0, none⟩ (.iface U1 y1)).setCell ⟨V.heap.size, 1, none⟩ (.int .i64 (k2 : Int))) B m104 := (M106).kept s107 (by intro e; have := Option.some.inj e; have qz102 := z102.out; have qz103 := z103.out; have qz104 := z104.out; have qz105 := z105.out; omega)
              have f107_9 := ((f106_9).set0 (.iface U1 y1)).set1 (.int .i64 (k2 : Int))
              have f107_8 := (f106_8).kept s107 (by intro e; have := Option.some.inj e; have qz102 := z102.out; have qz103 := z103.out; have qz104 := z104.out; have qz105 := z105.out; omega)
              refine hK _ _ g107 (fun _ => ?_)
              clear hK K
              go_simp
              refine wpAnyH_done (by kernel_rfl) ?_ _
              have fx := f107_8
              have fy := f107_9
              have gz := g107
              have Mz := M107
              have nz : m104 ≤ n + (c1 + c2) := by omega
              obtain ⟨Z, hZ⟩ : ∃ Z, Z = ((((W105.setCell ⟨W104.heap.size, 0, none⟩ (.iface T1 x1)).setCell ⟨W104.heap.size, 1, none⟩ (.int .i64 (k1 : Int))).setCell ⟨V.heap.size, 0, none⟩ (.iface U1 y1)).setCell ⟨V.heap.size, 1, none⟩ (.int .i64 (k2 : Int))) := ⟨_, rfl⟩
              rw [← hZ] at fx fy gz Mz ⊢
              have HZ := Lib.hid hZ
              clear hZ
              have rz := r0.kept gz (by intro e; have := Option.some.inj e; omega)
              obtain ⟨e0, e1, _, _⟩ := fx.cells
              obtain ⟨e2, e3, _, _⟩ := fy.cells
              obtain ⟨e4, e5, e6, e7⟩ := rz.cells
              go_wp2_with fail
              have sz := set_grownC Z W.heap.size 0 1 (.iface 112 (.agg #[.iface T1 x1, .iface U1 y1])) (.int .i64 ((k1 : Int) + (k2 : Int)))
              exact ret_simP ((rz.set0 _).set1 _) rfl rfl ⟨by rw [HS.out _ rfl], setCell_grown (setCell_grown (grown_trans2 gV gz) (.inr (Nat.le_refl _)) _) (.inr (Nat.le_refl _)) _, m104, nz, Mz.kept sz (by intro e; have := Option.some.inj e; omega)⟩
      · go_simp
        obtain ⟨W108, e108⟩ : ∃ W', W' = W103.alloc (.cells #[.nilIface, .int .i64 0] 73) := ⟨_, rfl⟩
        have g108 : V.grownBy W108 (some B) := by rw [e108]; exact grown_alloc (g103) _
        have M108 : Memo W108 B m103 := by rw [e108]; exact (M103).kept (World.grownBy_alloc _ _ none) (by simp)
        have f108_8 : Lies W108 W103.heap.size #[.nilIface, .int .i64 0] 73 := by rw [e108]; exact Lies.new W103 _ _
        have f108_9 : Lies W108 V.heap.size #[.nilIface, .int .i64 0] 73 := by rw [e108]; exact Lies.alloc f103_9 _
        have z108 := Lib.hid (show W108.heap.size = W103.heap.size + 1 by rw [e108]; simp)
        rw [← e108]
        clear e108
        refine hK _ _ g108 (fun _ => ?_)
        clear hK K
        go_simp
        refine wpAnyH_ready (rs := [7]) (by kernel_rfl) (by simp) ?_
        refine AllReadyH.cons rfl (fun K hK => ?_) AllReadyH.nil
        · go_simp
          go_wp2_with (go_at_call 64; refine (IB _ m103 g108 M108 (by omega)).mono ?_; rintro e W109 ⟨rfl, h109, m109, hm109, M109⟩; unfold simV; rw [hq])
          have g109 := grown_trans2 (g108) h109
          have f109_8 := Lies.kept f108_8 h109 (by intro e; have := Option.some.inj e; have qz102 := z102.out; have qz103 := z103.out; have qz108 := z108.out; omega)
          have f109_9 := Lies.kept f108_9 h109 (by intro e; have := Option.some.inj e; have qz102 := z102.out; have qz103 := z103.out; have qz108 := z108.out; omega)
          have z109 := Lib.hid (show W108.heap.size ≤ W109.heap.size from h109.size)
          refine hK _ _ g109 (fun _ => ?_)
          clear hK K h109
          go_simp
          have n109 : m109 ≤ n + c1 + c2 := by omega
          refine wpAnyH_ready (rs := [10]) (by kernel_rfl) (by simp) ?_
          refine AllReadyH.cons rfl (fun K hK => ?_) AllReadyH.nil
          · go_simp
            obtain ⟨c0, c1', c2', c3⟩ := (f109_8).cells
            go_simp
            have vle110 : V.heap.size ≤ W103.heap.size := by have qz102 := z102.out; have qz103 := z103.out; have qz108 := z108.out; have qz109 := z109.out; omega
            have s110 := set_grownC W109 (W103.heap.size) 0 1 (.iface T1 x1) (.int .i64 (k1 : Int))
            have g110 : V.grownBy ((W109.setCell ⟨W103.heap.size, 0, none⟩ (.iface T1 x1)).setCell ⟨W103.heap.size, 1, none⟩ (.int .i64 (k1 : Int))) (some B) := setCell_grown (setCell_grown (g109) (.inr vle110) _) (.inr vle110) _
            have M110 : Memo ((W109.setCell ⟨W103.heap.size, 0, none⟩ (.iface T1 x1)).setCell ⟨W103.heap.size, 1, none⟩ (.int .i64 (k1 : Int))) B m109 := (M109).kept s110 (by intro e; have := Option.some.inj e; have qz102 := z102.out; have qz103 := z103.out; have qz108 := z108.out; have qz109 := z109.out; omega)
            have f110_8 := ((f109_8).set0 (.iface T1 x1)).set1 (.int .i64 (k1 : Int))
            have f110_9 := (f109_9).kept s110 (by intro e; have := Option.some.inj e; have qz102 := z102.out; have qz103 := z103.out; have qz108 := z108.out; have qz109 := z109.out; omega)
            refine hK _ _ g110 (fun _ => ?_)
            clear hK K
            go_simp
            refine wpAnyH_ready (rs := [11]) (by kernel_rfl) (by simp) ?_
            refine AllReadyH.cons rfl (fun K hK => ?_) AllReadyH.nil
            · go_simp
              obtain ⟨c0, c1', c2', c3⟩ := (f110_9).cells
              obtain ⟨b0, b1, b2, b3⟩ := (f109_9).cells
              have d1 : W103.heap.size ≠ V.heap.size := by have qz102 := z102.out; have qz103 := z103.out; have qz108 := z108.out; have qz109 := z109.out; omega
              have d2 : V.heap.size ≠ W103.heap.size := fun e => d1 e.symm
              go_simp
              have vle111 : V.heap.size ≤ V.heap.size := by have qz102 := z102.out; have qz103 := z103.out; have qz108 := z108.out; have qz109 := z109.out; omega
              have s111 := set_grownC ((W109.setCell ⟨W103.heap.size, 0, none⟩ (.iface T1 x1)).setCell ⟨W103.heap.size, 1, none⟩ (.int .i64 (k1 : Int))) (V.heap.size) 0 1 (.iface U1 y1) (.int .i64 (k2 : Int))
              have g111 : V.grownBy ((((W109.setCell ⟨W103.heap.size, 0, none⟩ (.iface T1 x1)).setCell ⟨W103.heap.size, 1, none⟩ (.int .i64 (k1 : Int))).setCell ⟨V.heap.size, 0, none⟩ (.iface U1 y1)).setCell ⟨V.heap.size, 1, none⟩ (.int .i64 (k2 : Int))) (some B) := setCell_grown (setCell_grown (g110) (.inr vle111) _) (.inr vle111) _
              have M111 : Memo ((((W109.setCell ⟨W103.heap.size, 0, none⟩ (.iface T1 x1)).setCell ⟨W103.heap.size, 1, none⟩ (.int .i64 (k1 : Int))).setCell ⟨V.heap.size, 0, none⟩ (.iface U1 y1)).setCell ⟨V.heap.size, 1, none⟩ (.int .i64 (k2 : Int))) B m109 := (M110).kept s111 (by intro e; have := Option.some.inj e; have qz102 := z102.out; have qz103 := z103.out; have qz108 := z108.out; have qz109 := z109.out; omega)
              have f111_9 := ((f110_9).set0 (.iface U1 y1)).set1 (.int .i64 (k2 : Int))
              have f111_8 := (f110_8).kept s111 (by intro e; have := Option.some.inj e; have qz102 := z102.out; have qz103 := z103.out; have qz108 := z108.out; have qz109 := z109.out; omega)
              refine hK _ _ g111 (fun _ => ?_)
              clear hK K
              go_simp
              refine wpAnyH_done (by kernel_rfl) ?_ _
              have fx := f111_8
              have fy := f111_9
              have gz := g111
              have Mz := M111
              have nz : m109 ≤ n + (c1 + c2) := by omega
              obtain ⟨Z, hZ⟩ : ∃ Z, Z = ((((W109.setCell ⟨W103.heap.size, 0, none⟩ (.iface T1 x1)).setCell ⟨W103.heap.size, 1, none⟩ (.int .i64 (k1 : Int))).setCell ⟨V.heap.size, 0, none⟩ (.iface U1 y1)).setCell ⟨V.heap.size, 1, none⟩ (.int .i64 (k2 : Int))) := ⟨_, rfl⟩
              rw [← hZ] at fx fy gz Mz ⊢
              have HZ := Lib.hid hZ
              clear hZ
              have rz := r0.kept gz (by intro e; have := Option.some.inj e; omega)
              obtain ⟨e0, e1, _, _⟩ := fx.cells
              obtain ⟨e2, e3, _, _⟩ := fy.cells
              obtain ⟨e4, e5, e6, e7⟩ := rz.cells
              go_wp2_with fail
              have sz := set_grownC Z W.heap.size 0 1 (.iface 112 (.agg #[.iface T1 x1, .iface U1 y1])) (.int .i64 ((k1 : Int) + (k2 : Int)))
              exact ret_simP ((rz.set0 _).set1 _) rfl rfl ⟨by rw [HS.out _ rfl], setCell_grown (setCell_grown (grown_trans2 gV gz) (.inr (Nat.le_refl _)) _) (.inr (Nat.le_refl _)) _, m109, nz, Mz.kept sz (by intro e; have := Option.some.inj e; omega)⟩
    · go_simp
      obtain ⟨W112, e112⟩ : ∃ W', W' = W102.alloc (.cells #[.nilIface, .int .i64 0] 73) := ⟨_, rfl⟩
      have g112 : V.grownBy W112 (some B) := by rw [e112]; exact grown_alloc (g102) _
      have M112 : Memo W112 B n := by rw [e112]; exact (M102).kept (World.grownBy_alloc _ _ none) (by simp)
      have f112_8 : Lies W112 W102.heap.size #[.nilIface, .int .i64 0] 73 := by rw [e112]; exact Lies.new W102 _ _
      have f112_9 : Lies W112 V.heap.size #[.nilIface, .int .i64 0] 73 := by rw [e112]; exact Lies.alloc f102_9 _
      have z112 := Lib.hid (show W112.heap.size = W102.heap.size + 1 by rw [e112]; simp)
      rw [← e112]
      clear e112
      refine hK _ _ g112 (fun _ => ?_)
      clear hK K
      go_simp
      refine wpAnyH_ready (rs := [3]) (by kernel_rfl) (by simp) ?_
      refine AllReadyH.cons rfl (fun K hK => ?_) AllReadyH.nil
      · go_simp
        go_wp2_with (go_at_call 64; refine (IA _ n g112 M112 (by omega)).mono ?_; rintro e W113 ⟨rfl, h113, m113, hm113, M113⟩; unfold simV; rw [hp])
        have g113 := grown_trans2 (g112) h113
        have f113_8 := Lies.kept f112_8 h113 (by intro e; have := Option.some.inj e; have qz102 := z102.out; have qz112 := z112.out; omega)
        have f113_9 := Lies.kept f112_9 h113 (by intro e; have := Option.some.inj e; have qz102 := z102.out; have qz112 := z112.out; omega)
        have z113 := Lib.hid (show W112.heap.size ≤ W113.heap.size from h113.size)
        refine hK _ _ g113 (fun _ => ?_)
        clear hK K h113
        go_simp
        have n113 : m113 ≤ n + c1 := by omega
        refine wpAnyH_ready (rs := [7]) (by kernel_rfl) (by simp) ?_
        refine AllReadyH.cons rfl (fun K hK => ?_) AllReadyH.nil
        · go_simp
          go_wp2_with (go_at_call 64; refine (IB _ m113 g113 M113 (by omega)).mono ?_; rintro e W114 ⟨rfl, h114, m114, hm114, M114⟩; unfold simV; rw [hq])
          have g114 := grown_trans2 (g113) h114
          have f114_8 := Lies.kept f113_8 h114 (by intro e; have := Option.some.inj e; have qz102 := z102.out; have qz112 := z112.out; have qz113 := z113.out; omega)
          have f114_9 := Lies.kept f113_9 h114 (by intro e; have := Option.some.inj e; have qz102 := z102.out; have qz112 := z112.out; have qz113 := z113.out; omega)
          have z114 := Lib.hid (show W113.heap.size ≤ W114.heap.size from h114.size)
          refine hK _ _ g114 (fun _ => ?_)
          clear hK K h114
          go_simp
          have n114 : m114 ≤ n + c1 + c2 := by omega
          refine wpAnyH_ready (rs := [10]) (by kernel_rfl) (by simp) ?_
          refine AllReadyH.cons rfl (fun K hK => ?_) AllReadyH.nil
          · go_simp
            obtain ⟨c0, c1', c2', c3⟩ := (f114_8).cells
            go_simp
            have vle115 : V.heap.size ≤ W102.heap.size := by have qz102 := z102.out; have qz112 := z112.out; have qz113 := z113.out; have qz114 := z114.out; omega
            have s115 := set_grownC W114 (W102.heap.size) 0 1 (.iface T1 x1) (.int .i64 (k1 : Int))
            have g115 : V.grownBy ((W114.setCell ⟨W102.heap.size, 0, none⟩ (.iface T1 x1)).setCell ⟨W102.heap.size, 1, none⟩ (.int .i64 (k1 : Int))) (some B) := setCell_grown (setCell_grown (g114) (.inr vle115) _) (.inr vle115) _
            have M115 : Memo ((W114.setCell ⟨W102.heap.size, 0, none⟩ (.iface T1 x1)).setCell ⟨W102.heap.size, 1, none⟩ (.int .i64 (k1 : Int))) B m114 := (M114).kept s115 (by intro e; have := Option.some.inj e; have qz102 := z102.out; have qz112 := z112.out; have qz113 := z113.out; have qz114 := z114.out; omega)
            have f115_8 := ((f114_8).set0 (.iface T1 x1)).set1 (.int .i64 (k1 : Int))
            have f115_9 := (f114_9).kept s115 (by intro e; have := Option.some.inj e; have qz102 := z102.out; have qz112 := z112.out; have qz113 := z113.out; have qz114 := z114.out; omega)
            refine hK _ _ g115 (fun _ => ?_)
            clear hK K
            go_simp
            refine wpAnyH_ready (rs := [11]) (by kernel_rfl) (by simp) ?_
            refine AllReadyH.cons rfl (fun K hK => ?_) AllReadyH.nil
            · go_simp
              obtain ⟨c0, c1', c2', c3⟩ := (f115_9).cells
              obtain ⟨b0, b1, b2, b3⟩ := (f114_9).cells
              have d1 : W102.heap.size ≠ V.heap.size := by have qz102 := z102.out; have qz112 := z112.out; have qz113 := z113.out; have qz114 := z114.out; omega
              have d2 : V.heap.size ≠ W102.heap.size := fun e => d1 e.symm
              go_simp
              have vle116 : V.heap.size ≤ V.heap.size := by have qz102 := z102.out; have qz112 := z112.out; have qz113 := z113.out; have qz114 := z114.out; omega
              have s116 := set_grownC ((W114.setCell ⟨W102.heap.size, 0, none⟩ (.iface T1 x1)).setCell ⟨W102.heap.size, 1, none⟩ (.int .i64 (k1 : Int))) (V.heap.size) 0 1 (.iface U1 y1) (.int .i64 (k2 : Int))
              have g116 : V.grownBy ((((W114.setCell ⟨W102.heap.size, 0, none⟩ (.iface T1 x1)).setCell ⟨W102.heap.size, 1, none⟩ (.int .i64 (k1 : Int))).setCell ⟨V.heap.size, 0, none⟩ (.iface U1 y1)).setCell ⟨V.heap.size, 1, none⟩ (.int .i64 (k2 : Int))) (some B) := setCell_grown (setCell_grown (g115) (.inr vle116) _) (.inr vle116) _
              have M116 : Memo ((((W114.setCell ⟨W102.heap.size, 0, none⟩ (.iface T1 x1)).setCell ⟨W102.heap.size, 1, none⟩ (.int .i64 (k1 : Int))).setCell ⟨V.heap.size, 0, none⟩ (.iface U1 y1)).setCell ⟨V.heap.size, 1, none⟩ (.int .i64 (k2 : Int))) B m114 := (M115).kept s116 (by intro e; have := Option.some.inj e; have qz102 := z102.out; have qz112 := z112.out; have qz113 := z113.out; have qz114 := z114.out; omega)
              have f116_9 := ((f115_9).set0 (.iface U1 y1)).set1 (.int .i64 (k2 : Int))
              have f116_8 := (f115_8).kept s116 (by intro e; have := Option.some.inj e; have qz102 := z102.out; have qz112 := z112.out; have qz113 := z113.out; have qz114 := z114.out; omega)
              refine hK _ _ g116 (fun _ => ?_)
              clear hK K
              go_simp
              refine wpAnyH_done (by kernel_rfl) ?_ _
              have fx := f116_8
              have fy := f116_9
              have gz := g116
              have Mz := M116
              have nz : m114 ≤ n + (c1 + c2) := by omega
              obtain ⟨Z, hZ⟩ : ∃ Z, Z = ((((W114.setCell ⟨W102.heap.size, 0, none⟩ (.iface T1 x1)).setCell ⟨W102.heap.size, 1, none⟩ (.int .i64 (k1 : Int))).setCell ⟨V.heap.size, 0, none⟩ (.iface U1 y1)).setCell ⟨V.heap.size, 1, none⟩ (.int .i64 (k2 : Int))) := ⟨_, rfl⟩
              rw [← hZ] at fx fy gz Mz ⊢
              have HZ := Lib.hid hZ
              clear hZ
              have rz := r0.kept gz (by intro e; have := Option.some.inj e; omega)
              obtain ⟨e0, e1, _, _⟩ := fx.cells
              obtain ⟨e2, e3, _, _⟩ := fy.cells
              obtain ⟨e4, e5, e6, e7⟩ := rz.cells
              go_wp2_with fail
              have sz := set_grownC Z W.heap.size 0 1 (.iface 112 (.agg #[.iface T1 x1, .iface U1 y1])) (.int .i64 ((k1 : Int) + (k2 : Int)))
              exact ret_simP ((rz.set0 _).set1 _) rfl rfl ⟨by rw [HS.out _ rfl], setCell_grown (setCell_grown (grown_trans2 gV gz) (.inr (Nat.le_refl _)) _) (.inr (Nat.le_refl _)) _, m114, nz, Mz.kept sz (by intro e; have := Option.some.inj e; omega)⟩
end Go.Proofs.YtgkgkaapjljpcaaDoor

