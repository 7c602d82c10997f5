/- Chapter 11, the program: programs made simpler, and remembered (wip/tools/mkZC.py). -/
import Derived.Test.YtgkgkaapjljpcaaDoorZI
import Derived.Test.YtgkgkaapjljpcaaDoorZM
import Derived.Test.YtgkgkaapjljpcaaDoorQB
import Derived.Test.YtgkgkaapjljpcaaDoorR2
namespace Go.Proofs.YtgkgkaapjljpcaaDoor
open Go.ChangeShapes Go.WideShapes Go.ChangeAt Go.RowKit Go.Shelf
attribute [local go_sem] Oper.semAt_some
set_option maxRecDepth 100000

theorem set_grownC (W : World) (g i j : Nat) (a b : Value) : W.grownBy ((W.setCell ⟨g, i, none⟩ a).setCell ⟨g, j, none⟩ b) (some g) :=
  ⟨rfl, rfl, rfl, by simp, fun k _ hk => (heap_setCell_other _ ⟨g, j, none⟩ k _ (fun e => hk (by simp [e]))).trans (heap_setCell_other W ⟨g, i, none⟩ k _ (fun e => hk (by simp [e])))⟩
def SmallR (r : Nat → Nat × Nat) : Prop := ∀ j, j < 9 → (r (2 ^ j)).1 < 512 ∧ (r (2 ^ j)).2 < 512
/-- What making a program simpler leaves (c: how many may be remembered more). -/
def PRes (B n c : Nat) (o : Node) (k : Nat) (W : World) (e : Ending) (w' : World) : Prop :=
  e = .returned (simV o k) ∧ W.grownBy w' (some B) ∧ ∃ n', n' ≤ n + c ∧ Memo w' B n'
def PSim (nd o : Node) (k c : Nat) : Prop := ∀ (W : World) (B n N : Nat), Laid3 N W → N ≤ B → Memo W B n → n + c ≤ 8000000 →
  Calls Tryd.prog 64 #[.map (some B), nodeV nd] W (PRes B n c o k W)
def PParts (nd mid : Node) (k c : Nat) : Prop := ∀ (W : World) (B n N : Nat), Laid3 N W → N ≤ B → Memo W B n → n + c ≤ 8000000 →
  Calls Tryd.prog 95 #[.map (some B), nodeV nd] W (PRes B n c mid k W)
theorem pres_mono {B n m c c' : Nat} {o : Node} {k : Nat} {W X : World} {e : Ending} {w' : World} (h : PRes B m c o k X e w') (hg : W.grownBy X (some B)) (hm : m + c ≤ n + c') : PRes B n c' o k W e w' := by
  obtain ⟨h1, h2, n', h3, h4⟩ := h
  exact ⟨h1, grown_trans2 hg h2, n', by omega, h4⟩
theorem ret_simS {Z : World} {a : Act} {v : Value} {k : Int} {g : Nat} {R : Ending → World → Prop} (hv : Lies Z g #[v, .int .i64 k] 73) (ha : a.tmps[4]?.getD undef = .pointer (some ⟨g, 0, none⟩)) (hdf : a.defers = [])
    (h : R (.returned (.agg #[v, .int .i64 k])) Z) : bodyPost Tryd.prog Tryd.f64 R Exit.ret a Z := by
  obtain ⟨c0, c1, _, _⟩ := hv.cells
  refine bodyPost_ret (v := .agg #[v, .int .i64 k]) ?_ hdf h
  simp [results, Tryd.results64, go_sem, ha, c0, c1]
theorem ret_simP {Z : World} {a : Act} {v : Value} {k : Int} {g : Nat} {R : Ending → World → Prop} (hv : Lies Z g #[v, .int .i64 k] 73) (ha : a.tmps[4]?.getD undef = .pointer (some ⟨g, 0, none⟩)) (hdf : a.defers = [])
    (h : R (.returned (.agg #[v, .int .i64 k])) Z) : bodyPost Tryd.prog Tryd.f95 R Exit.ret a Z := by
  obtain ⟨c0, c1, _, _⟩ := hv.cells
  refine bodyPost_ret (v := .agg #[v, .int .i64 k]) ?_ hdf h
  simp [results, Tryd.results95, go_sem, ha, c0, c1]

set_option maxHeartbeats 2000000 in
theorem parts_atom (a : List UInt8) : PParts (.atom a) (.atom a) 0 0 := by
  intro W B n N hL hN hM hn
  rw [show nodeV (.atom a) = .iface 133 (.string ⟨a.toArray⟩) from rfl]
  have t1 := as93_77 ⟨a.toArray⟩
  have t2 := as93_79 ⟨a.toArray⟩
  have t3 := as93_81 ⟨a.toArray⟩
  have hr : PRes B n 0 (.atom a) 0 W (.returned (.agg #[.iface 133 (.string ⟨a.toArray⟩), .int .i64 0])) (W.alloc (.cells #[.iface 133 (.string ⟨a.toArray⟩), .int .i64 0] 73)) :=
    ⟨rfl, World.grownBy_alloc _ _ _, n, Nat.le_refl _, hM.kept (World.grownBy_alloc W _ none) (by simp)⟩
  have HR := Lib.hid hr
  clear hr hM hL
  go_enter Tryd.func95, Tryd.ntmps95
  go_wp2_with fail
  exact ret_simP (Lies.new W _ _) rfl rfl HR.out
set_option maxHeartbeats 2000000 in
theorem parts_loop (p p' : Node) (k c : Nat) (IH : PSim p p' k c) : PParts (.loop p) (.loop p') k c := by
  intro W B n N hL hN hM hn
  rw [show nodeV (.loop p) = .iface 117 (.agg #[nodeV p]) from rfl]
  obtain ⟨T, x, hv⟩ := nodeV_iface p
  have hB := hM.lt
  obtain ⟨V, hV⟩ : ∃ V, V = (W.alloc (.cells #[.nilIface, .int .i64 0] 73)).alloc (.cells #[.iface T x] 117) := ⟨_, rfl⟩
  have gV : W.grownBy V (some B) := by rw [hV]; exact grown_trans2 (World.grownBy_alloc _ _ _) (World.grownBy_alloc _ _ _)
  have r0 : Lies V W.heap.size #[.nilIface, .int .i64 0] 73 := by rw [hV]; exact (Lies.new W _ _).alloc _
  have IH1 := IH V B n N (hL.grown gV hN) hN (by rw [hV]; exact (hM.kept (World.grownBy_alloc W _ none) (by simp)).kept (World.grownBy_alloc _ _ none) (by simp)) hn
  rw [hv] at IH1 ⊢
  have t1 := as81_77 (.iface T x)
  have t2 := as81_79 (.iface T x)
  have t3 := as81_81 (.iface T x)
  have H0 := Lib.hid (And.intro hL (And.intro hM hN))
  clear hL hM hN IH hv
  go_enter Tryd.func95, Tryd.ntmps95
  go_wp2_with fail
  rw [← hV]
  have HV := Lib.hid hV
  clear hV
  go_at_call 64
  refine IH1.mono ?_
  rintro e W1 ⟨rfl, g1, n1, hn1, hM1⟩
  obtain ⟨T1, x1, hv1⟩ := nodeV_iface p'
  unfold simV
  rw [hv1]
  have r1 := r0.kept g1 (by intro e; have := Option.some.inj e; omega)
  have lr := r1.lt
  have HM1 := Lib.hid (And.intro hM1 (And.intro g1 hn1))
  clear g1 hn1 hM1 r0
  obtain ⟨c0, c1, f0, f1⟩ := r1.cells
  go_wp2_with fail
  obtain ⟨hM1, g1, hn1⟩ := HM1.out
  have s1 := set_grownC W1 W.heap.size 0 1 (.iface 117 (.agg #[.iface T1 x1])) (.int .i64 (k : Int))
  refine ret_simP (((r1.set0 _).set1 _).alloc _) rfl rfl ⟨?_, grown_alloc (setCell_grown (setCell_grown (grown_trans2 gV g1) (.inr (Nat.le_refl _)) _) (.inr (Nat.le_refl _)) _) _, n1, hn1, ?_⟩
  · unfold simV
    rw [show nodeV (.loop p') = .iface 117 (.agg #[nodeV p']) from rfl, hv1]
  · exact (hM1.kept s1 (by intro e; have := Option.some.inj e; omega)).kept (World.grownBy_alloc _ _ none) (by simp)
set_option maxHeartbeats 2000000 in
theorem simp_hit (nd o : Node) (hok : nd.ok) (h60 : nd.text.length ≤ 60) (k c : Nat) (W : World) (B n : Nat) (hM : Memo W B n)
    (hH : ∀ W' : World, Below W.heap.size W W' → (Instr.lookup 99 (.map (some B)) (.string ⟨nd.text.toArray⟩) true).run Tryd.prog W' = .ok (.tuple #[simV o k, .bool true]) W') :
   Calls Tryd.prog 64 #[.map (some B), nodeV nd] W (PRes B n c o k W) := by
  have ht := ptext nd hok (by omega)
  have hm := meth_text nd hok
  have hcf := call_text nd hok
  rw [nodeV_eq nd hok]
  obtain ⟨T1, x1, hv1⟩ := nodeV_iface o
  have hbA : Below W.heap.size W (W.alloc (.cells #[.nilIface, .int .i64 0] 73)) := (Below.refl _ W).alloc (Nat.le_refl _) _
  have hMl := hM.lt
  go_enter Tryd.func64, Tryd.ntmps64
  go_wp2_with fail
  refine (ht _).mono ?_
  rintro e W1 ⟨rfl, hb1⟩
  have r1 := (Lies.new W #[.nilIface, .int .i64 0] 73).below hb1
  have hB1 := hbA.trans (hb1.mono hbA.size)
  have hl := hH W1 hB1
  unfold simV at hl
  rw [hv1] at hl
  have lr := r1.lt
  have HB := Lib.hid (And.intro hB1 hM)
  clear hb1 hB1 hbA hH ht hm hcf hM
  obtain ⟨c0, c1, f0, f1⟩ := r1.cells
  go_wp2_with fail
  obtain ⟨hB1, hM⟩ := HB.out
  have s1 := set_grownC W1 W.heap.size 0 1 (.iface T1 x1) (.int .i64 (k : Int))
  refine ret_simS (((r1.set0 _).set1 _).alloc _) rfl rfl ⟨by unfold simV; rw [hv1], grown_alloc (setCell_grown (setCell_grown (below_grown hB1 (some B)) (.inr (Nat.le_refl _)) _) (.inr (Nat.le_refl _)) _) _, n, Nat.le_add_right _ _, ?_⟩
  exact ((hM.below hB1).kept s1 (by intro e; have := Option.some.inj e; omega)).kept (World.grownBy_alloc _ _ none) (by simp)
/-- What is not remembered is not found. -/
theorem Memo.find {W : World} {B n : Nat} (h : Memo W B n) {nd o : Node} {k c : Nat} (hok : nd.ok) (h60 : nd.text.length ≤ 60) (hs : Sim nd o k c) :
    (∀ W', Below W.heap.size W W' → (Instr.lookup 99 (.map (some B)) (.string ⟨nd.text.toArray⟩) true).run Tryd.prog W' = .ok (.tuple #[simV o k, .bool true]) W') ∨
    (∀ W', Below W.heap.size W W' → (Instr.lookup 99 (.map (some B)) (.string ⟨nd.text.toArray⟩) true).run Tryd.prog W' = .ok (.tuple #[.agg #[.nilIface, .int .i64 0], .bool false]) W') := by
  obtain ⟨D, h1, h2⟩ := h
  cases hh : Maps.has D (.string nd.text) with
  | false =>
    refine .inr fun W' hb => ?_
    obtain ⟨v, ps, hrun, hv⟩ := (h1.kept (below_grown hb none) (by simp)).look_ok keyLaw memo_under (memo_zero W') (z := .agg #[.nilIface, .int .i64 0]) (zd := .held (.agg #[.nilIface, .int .i64 0])) (zp := []) rfl (memo_key h60)
    rw [hh] at hrun
    rw [Maps.atKey_of_not_has hh] at hv
    have : v = .agg #[.nilIface, .int .i64 0] := by
      have := congrArg (fun x => x.map Prod.fst) hv
      simp only [memoR, Option.map_some, Option.some.injEq, DataW.held.injEq] at this
      exact this
    rw [this] at hrun
    exact hrun
  | true =>
    refine .inl fun W' hb => ?_
    obtain ⟨v, ps, hrun, hv⟩ := (h1.kept (below_grown hb none) (by simp)).look_ok keyLaw memo_under (memo_zero W') (z := .agg #[.nilIface, .int .i64 0]) (zd := .held (.agg #[.nilIface, .int .i64 0])) (zp := []) rfl (memo_key h60)
    rw [hh] at hrun
    obtain ⟨nd', o', k', c', e1, hok', hs', hat⟩ := h2 _ hh
    obtain rfl : nd = nd' := text_inj hok hok' (by simpa using e1)
    obtain ⟨rfl, rfl, _⟩ := sim_det hs hs'
    rw [hat] at hv
    have : v = simV o' k' := by
      have := congrArg (fun x => x.map Prod.fst) hv
      simp only [memoR, Option.map_some, Option.some.injEq, DataW.held.injEq] at this
      exact this
    rw [this] at hrun
    exact hrun
end Go.Proofs.YtgkgkaapjljpcaaDoor

