/- Chapter 11, the program: programs made simpler, and remembered: what was not remembered (wip/tools/mkZC.py). -/
import Derived.Test.YtgkgkaapjljpcaaDoorZC
namespace Go.Proofs.YtgkgkaapjljpcaaDoor
open Go.ChangeShapes Go.WideShapes Go.ChangeAt Go.RowKit Go.Shelf
attribute [local go_sem] Oper.semAt_some
set_option maxRecDepth 100000

set_option maxHeartbeats 4000000 in
theorem simp_stop (nd mid : Node) (hok : nd.ok) (h60 : nd.text.length ≤ 60) (hmok : mid.ok) (hm60 : mid.text.length ≤ 60) (htop : topN mid = none) (k c : Nat) (hS : Sim nd mid k (c + 1)) (IH : PParts nd mid k c) (W : World) (B n N : Nat) (hL : Laid3 N W) (hN : N ≤ B) (hM : Memo W B n) (hn : n + (c + 1) ≤ 8000000)
    (hMiss : ∀ W' : World, Below W.heap.size W W' → (Instr.lookup 99 (.map (some B)) (.string ⟨nd.text.toArray⟩) true).run Tryd.prog W' = .ok (.tuple #[.agg #[.nilIface, .int .i64 0], .bool false]) W') :
   Calls Tryd.prog 64 #[.map (some B), nodeV nd] W (PRes B n (c + 1) mid k W) := by
  have ht := ptext nd hok (by omega)
  have hm := meth_text nd hok
  have hcf := call_text nd hok
  rw [nodeV_eq nd hok]
  obtain ⟨T1, x1, hv1⟩ := nodeV_iface mid
  have hbA : Below W.heap.size W (W.alloc (.cells #[.nilIface, .int .i64 0] 73)) := (Below.refl _ W).alloc (Nat.le_refl _) _
  have hMl := hM.lt
  have hput := fun X m (h : Memo X B m) (hm : m ≤ 9000000) => h.put hm hok h60 hS
  go_enter Tryd.func64, Tryd.ntmps64
  go_wp2_with fail
  refine (ht _).mono ?_
  rintro e W1 ⟨rfl, hb1⟩
  have r1 := (Lies.new W #[.nilIface, .int .i64 0] 73).below hb1
  have hB1 := hbA.trans (hb1.mono hbA.size)
  have hl := hMiss W1 hB1
  have lr := r1.lt
  have hM1 := hM.below hB1
  have hL1 := hL.below hB1 (Nat.le_trans hN (Nat.le_of_lt hMl))
  clear hb1 hbA hMiss ht hcf hm
  obtain ⟨V, hV⟩ : ∃ V, V = W1.alloc (.cells #[.nilIface, .int .i64 0] 73) := ⟨_, rfl⟩
  have gV : W.grownBy V (some B) := by rw [hV]; exact grown_alloc (below_grown hB1 (some B)) _
  have r2 : Lies V W.heap.size #[.nilIface, .int .i64 0] 73 := by rw [hV]; exact r1.alloc _
  have hM2 : Memo V B n := by rw [hV]; exact hM1.kept (World.grownBy_alloc _ _ none) (by simp)
  have hL2 : Laid3 N V := by rw [hV]; exact hL1.grown (World.grownBy_alloc _ _ (some B)) hN
  have IH1 := IH V B n N hL2 hN hM2 (by omega)
  rw [nodeV_eq nd hok] at IH1
  clear IH hL1 hM1 r1 hL
  go_wp2_with fail
  rw [← hV]
  have HV := Lib.hid hV
  clear hV hl
  go_at_call 95
  refine IH1.mono ?_
  rintro e W2 ⟨rfl, g2, n2, hn2, hM3⟩
  unfold simV
  rw [hv1]
  have r3 := r2.kept g2 (by intro e; have := Option.some.inj e; omega)
  have hL3 := hL2.grown g2 hN
  have g3 := grown_trans2 gV g2
  obtain ⟨V3, hV3⟩ : ∃ V, V = W2.alloc (.cells #[.iface T1 x1, .int .i64 (k : Int)] 73) := ⟨_, rfl⟩
  have q3 : Lies V3 W2.heap.size #[.iface T1 x1, .int .i64 (k : Int)] 73 := by rw [hV3]; exact Lies.new _ _ _
  have r4 : Lies V3 W.heap.size #[.nilIface, .int .i64 0] 73 := by rw [hV3]; exact r3.alloc _
  have g4 : W.grownBy V3 (some B) := by rw [hV3]; exact grown_alloc g3 _
  have hM4 : Memo V3 B n2 := by rw [hV3]; exact hM3.kept (World.grownBy_alloc _ _ none) (by simp)
  have hL4 : Laid3 N V3 := by rw [hV3]; exact hL3.grown (World.grownBy_alloc _ _ (some B)) hN
  have lW : W.heap.size ≤ W2.heap.size := g3.size
  have lWs : W.heap.size < W2.heap.size := r3.lt
  clear r2 r3 hL2 hL3 IH1 g2 g3 hM2 hM3 gV hB1
  have ht1 := (ptop mid hmok (by omega) V3 hL4).mono fun e w' h => (topIs_iff _ _ e w').1 h
  rw [hv1] at ht1
  obtain ⟨d0, d1, _, _⟩ := q3.cells
  go_wp2_with fail
  rw [← hV3]
  have HV3 := Lib.hid hV3
  clear hV3
  go_at_call 51
  refine ht1.mono ?_
  rintro e W4 ⟨hb4, rfl⟩
  rw [htop]
  have r5 := r4.below hb4
  have q5 := q3.below hb4
  have g5 := grown_trans2 g4 (below_grown hb4 (some B))
  obtain ⟨W5, hput1, hM5, gp⟩ := hput W4 n2 (hM4.below hb4) (by omega)
  unfold simV at hput1
  rw [hv1] at hput1
  have q6 := q5.kept gp (by intro e; have := Option.some.inj e; omega)
  have r6 := r5.kept gp (by intro e; have := Option.some.inj e; omega)
  obtain ⟨d0, d1, _, _⟩ := q5.cells
  obtain ⟨d2, d3, _, _⟩ := q6.cells
  obtain ⟨c0, c1, f0, f1⟩ := r6.cells
  have HF := Lib.hid (And.intro r6 (And.intro hM5 (grown_trans2 g5 gp)))
  clear hb4 hput hM4 hL4 r4 q3 g4 ht1 q5 q6 r5 r6 hM5 g5 gp
  go_wp2_with fail
  obtain ⟨r6, hM5, g6⟩ := HF.out
  have s1 := set_grownC W5 W.heap.size 0 1 (.iface T1 x1) (.int .i64 (k : Int))
  refine ret_simS ((r6.set0 _).set1 _) rfl rfl ⟨by unfold simV; rw [hv1], setCell_grown (setCell_grown g6 (.inr (Nat.le_refl _)) _) (.inr (Nat.le_refl _)) _, n2 + 1, by omega, ?_⟩
  exact hM5.kept s1 (by intro e; have := Option.some.inj e; omega)
set_option maxHeartbeats 4000000 in
theorem simp_go (nd mid nn o : Node) (hok : nd.ok) (h60 : nd.text.length ≤ 60) (hmok : mid.ok) (hm60 : mid.text.length ≤ 60) (htop : topN mid = some nn) (k c k2 c2 : Nat) (hk : k ≤ 8000000) (hk2 : k2 ≤ 8000000) (hS : Sim nd o (k + 1 + k2) (c + c2 + 1)) (IH : PParts nd mid k c) (IH2 : PSim nn o k2 c2) (W : World) (B n N : Nat) (hL : Laid3 N W) (hN : N ≤ B) (hM : Memo W B n) (hn : n + (c + c2 + 1) ≤ 8000000)
    (hMiss : ∀ W' : World, Below W.heap.size W W' → (Instr.lookup 99 (.map (some B)) (.string ⟨nd.text.toArray⟩) true).run Tryd.prog W' = .ok (.tuple #[.agg #[.nilIface, .int .i64 0], .bool false]) W') :
   Calls Tryd.prog 64 #[.map (some B), nodeV nd] W (PRes B n (c + c2 + 1) o (k + 1 + k2) W) := by
  have ht := ptext nd hok (by omega)
  have hm := meth_text nd hok
  have hcf := call_text nd hok
  rw [nodeV_eq nd hok]
  obtain ⟨T1, x1, hv1⟩ := nodeV_iface mid
  have hbA : Below W.heap.size W (W.alloc (.cells #[.nilIface, .int .i64 0] 73)) := (Below.refl _ W).alloc (Nat.le_refl _) _
  have hMl := hM.lt
  have hput := fun X m (h : Memo X B m) (hm : m ≤ 9000000) => h.put hm hok h60 hS
  go_enter Tryd.func64, Tryd.ntmps64
  go_wp2_with fail
  refine (ht _).mono ?_
  rintro e W1 ⟨rfl, hb1⟩
  have r1 := (Lies.new W #[.nilIface, .int .i64 0] 73).below hb1
  have hB1 := hbA.trans (hb1.mono hbA.size)
  have hl := hMiss W1 hB1
  have lr := r1.lt
  have hM1 := hM.below hB1
  have hL1 := hL.below hB1 (Nat.le_trans hN (Nat.le_of_lt hMl))
  clear hb1 hbA hMiss ht hcf hm
  obtain ⟨V, hV⟩ : ∃ V, V = W1.alloc (.cells #[.nilIface, .int .i64 0] 73) := ⟨_, rfl⟩
  have gV : W.grownBy V (some B) := by rw [hV]; exact grown_alloc (below_grown hB1 (some B)) _
  have r2 : Lies V W.heap.size #[.nilIface, .int .i64 0] 73 := by rw [hV]; exact r1.alloc _
  have hM2 : Memo V B n := by rw [hV]; exact hM1.kept (World.grownBy_alloc _ _ none) (by simp)
  have hL2 : Laid3 N V := by rw [hV]; exact hL1.grown (World.grownBy_alloc _ _ (some B)) hN
  have IH1 := IH V B n N hL2 hN hM2 (by omega)
  rw [nodeV_eq nd hok] at IH1
  clear IH hL1 hM1 r1 hL
  go_wp2_with fail
  rw [← hV]
  have HV := Lib.hid hV
  clear hV hl
  go_at_call 95
  refine IH1.mono ?_
  rintro e W2 ⟨rfl, g2, n2, hn2, hM3⟩
  unfold simV
  rw [hv1]
  have r3 := r2.kept g2 (by intro e; have := Option.some.inj e; omega)
  have hL3 := hL2.grown g2 hN
  have g3 := grown_trans2 gV g2
  obtain ⟨V3, hV3⟩ : ∃ V, V = W2.alloc (.cells #[.iface T1 x1, .int .i64 (k : Int)] 73) := ⟨_, rfl⟩
  have q3 : Lies V3 W2.heap.size #[.iface T1 x1, .int .i64 (k : Int)] 73 := by rw [hV3]; exact Lies.new _ _ _
  have r4 : Lies V3 W.heap.size #[.nilIface, .int .i64 0] 73 := by rw [hV3]; exact r3.alloc _
  have g4 : W.grownBy V3 (some B) := by rw [hV3]; exact grown_alloc g3 _
  have hM4 : Memo V3 B n2 := by rw [hV3]; exact hM3.kept (World.grownBy_alloc _ _ none) (by simp)
  have hL4 : Laid3 N V3 := by rw [hV3]; exact hL3.grown (World.grownBy_alloc _ _ (some B)) hN
  have lW : W.heap.size ≤ W2.heap.size := g3.size
  have lWs : W.heap.size < W2.heap.size := r3.lt
  clear r2 r3 hL2 hL3 IH1 g2 g3 hM2 hM3 gV hB1
  have ht1 := (ptop mid hmok (by omega) V3 hL4).mono fun e w' h => (topIs_iff _ _ e w').1 h
  rw [hv1] at ht1
  obtain ⟨d0, d1, _, _⟩ := q3.cells
  go_wp2_with fail
  rw [← hV3]
  have HV3 := Lib.hid hV3
  clear hV3
  go_at_call 51
  refine ht1.mono ?_
  rintro e W4 ⟨hb4, rfl⟩
  rw [htop, show topV (some nn) = nodeV nn from rfl]
  obtain ⟨T2, x2, hv2⟩ := nodeV_iface nn
  obtain ⟨T3, x3, hv3⟩ := nodeV_iface o
  have r5 := r4.below hb4
  have q5 := q3.below hb4
  have g5 := grown_trans2 g4 (below_grown hb4 (some B))
  have IHn := IH2 W4 B n2 N (hL4.below hb4 (Nat.le_trans hN (by have := hM4.lt; omega))) hN (hM4.below hb4) (by omega)
  rw [hv2] at IHn ⊢
  clear hb4 hM4 hL4 r4 q3 g4 ht1 IH2
  obtain ⟨d0, d1, _, _⟩ := q5.cells
  go_wp2_with fail
  go_at_call 64
  refine IHn.mono ?_
  rintro e W5 ⟨rfl, g6, n3, hn3, hM6⟩
  unfold simV
  rw [hv3]
  have l5 := q5.lt
  have r6 := r5.kept g6 (by intro e; have := Option.some.inj e; omega)
  have q6 := q5.kept g6 (by intro e; have := Option.some.inj e; omega)
  have l5q := q6.lt
  have lr5 := r6.lt
  have g6' := grown_trans2 g5 g6
  clear r5 q5 g6 g5 IHn l5
  obtain ⟨d0, d1, d2, d3⟩ := q6.cells
  have kb : (k : Int) ≤ 8000000 := by omega
  have kb2 : (k2 : Int) ≤ 8000000 := by omega
  have ka : (0 : Int) ≤ (k : Int) := by omega
  have ka2 : (0 : Int) ≤ (k2 : Int) := by omega
  have q7 := (q6.set0 (.iface T3 x3)).set1 (.int .i64 ((k : Int) + 1 + (k2 : Int)))
  have s7 := set_grownC W5 W2.heap.size 0 1 (.iface T3 x3) (.int .i64 ((k : Int) + 1 + (k2 : Int)))
  have r7 := r6.kept s7 (by intro e; have := Option.some.inj e; omega)
  have hM7 := hM6.kept s7 (by intro e; have := Option.some.inj e; omega)
  have g7 : W.grownBy ((W5.setCell ⟨W2.heap.size, 0, none⟩ (.iface T3 x3)).setCell ⟨W2.heap.size, 1, none⟩ (.int .i64 ((k : Int) + 1 + (k2 : Int)))) (some B) := setCell_grown (setCell_grown g6' (.inr lW) _) (.inr lW) _
  have q8 := q7.alloc (.cells #[.iface T3 x3, .int .i64 (k2 : Int)] 73)
  have r8 := r7.alloc (.cells #[.iface T3 x3, .int .i64 (k2 : Int)] 73)
  have hM8 := hM7.kept (World.grownBy_alloc _ (.cells #[.iface T3 x3, .int .i64 (k2 : Int)] 73) none) (by simp)
  have g8 := grown_alloc g7 (.cells #[.iface T3 x3, .int .i64 (k2 : Int)] 73)
  clear q6 r6 hM6 g6' q7 s7 r7 hM7 g7
  obtain ⟨W9, hput1, hM9, gp⟩ := hput _ n3 hM8 (by omega)
  unfold simV at hput1
  rw [hv3, show ((k + 1 + k2 : Nat) : Int) = (k : Int) + 1 + (k2 : Int) by omega] at hput1
  have q9 := q8.kept gp (by intro e; have := Option.some.inj e; omega)
  have r9 := r8.kept gp (by intro e; have := Option.some.inj e; omega)
  obtain ⟨e0, e1, _, _⟩ := q8.cells
  obtain ⟨e2, e3, _, _⟩ := q9.cells
  obtain ⟨c0, c1, f0, f1⟩ := r9.cells
  have HF := Lib.hid (And.intro r9 (And.intro hM9 (grown_trans2 g8 gp)))
  clear hput q8 r8 hM8 g8 q9 r9 hM9 gp
  go_wp2_with fail
  obtain ⟨r9, hM9, g9⟩ := HF.out
  have s1 := set_grownC W9 W.heap.size 0 1 (.iface T3 x3) (.int .i64 ((k : Int) + 1 + (k2 : Int)))
  refine ret_simS ((r9.set0 _).set1 _) rfl rfl ⟨?_, setCell_grown (setCell_grown g9 (.inr (Nat.le_refl _)) _) (.inr (Nat.le_refl _)) _, n3 + 1, by omega, hM9.kept s1 (by intro e; have := Option.some.inj e; omega)⟩
  unfold simV
  rw [hv3, show ((k + 1 + k2 : Nat) : Int) = (k : Int) + 1 + (k2 : Int) by omega]
end Go.Proofs.YtgkgkaapjljpcaaDoor

