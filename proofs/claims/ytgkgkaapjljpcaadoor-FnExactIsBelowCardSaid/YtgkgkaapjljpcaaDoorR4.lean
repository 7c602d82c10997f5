/- The program's running: a program from a set. -/
import Derived.Test.YtgkgkaapjljpcaaDoorR3
namespace Go.Proofs.YtgkgkaapjljpcaaDoor
open Go.ChangeShapes Go.WideShapes Go.ChangeAt Go.RowKit Go.Shelf
attribute [local go_sem] Oper.semAt_some
set_option maxRecDepth 100000

theorem run_small {nd : Node} (h : nd.ok) : ∀ m, m < 512 → Small (runR nd m) := run_lt nd h
theorem run_seq (p q : Node) (m : Nat) : runR (.pair 59 p q) m = ((runR q (runR p m).1).1, (runR p m).2 ||| (runR q (runR p m).1).2) := by rw [runR]; rfl
theorem run_choice (p q : Node) (m : Nat) : runR (.pair 124 p q) m = both2 (runR p m) (runR q m) := by rw [runR]; rfl
theorem run_loop (p : Node) (m : Nat) : runR (.loop p) m = iter (stepL (runR p)) 18 (m, 0) := by rw [runR]
/-- The answer of a program: its outcome in full. -/
def RunsTo (w : World) (x : Nat × Nat) (e : Ending) (w' : World) : Prop := e = .returned (.agg #[.int .i64 (x.1 : Int), .int .i64 (x.2 : Int)]) ∧ Below w.heap.size w w'

set_option maxHeartbeats 4000000 in
theorem run_atom (a : List UInt8) (hok : (Node.atom a).ok) (m : Nat) (hm : m < 512) (w : World) : Calls Tryd.prog 106 #[nodeV (.atom a), .int .i64 (m : Int)] w (RunsTo w (runR (.atom a) m)) := by
  have hm1 := meth_text (.atom a) hok
  have hcf := call_text (.atom a) hok
  unfold nodeT nodeX textFn at hm1
  unfold textFn nodeX at hcf
  unfold nodeV
  have t1 := as93_77 ⟨a.toArray⟩
  have t2 := as93_79 ⟨a.toArray⟩
  have t3 := as93_81 ⟨a.toArray⟩
  have hra : ∀ w, Calls Tryd.prog 126 #[.string ⟨a.toArray⟩, .int .i64 (m : Int)] w (RunsTo w (runR (.atom a) m)) := ra47 a hok m hm
  generalize runR (.atom a) m = x at hra ⊢
  go_enter Tryd.func106, Tryd.ntmps106
  go_wp2_with (first
    | (go_at_call 176; refine (text129 _ _).mono ?_; rintro e W1 ⟨rfl, rfl⟩)
    | (go_at_call 126; refine (hra _).mono ?_; rintro e W2 ⟨rfl, hb2⟩; have L := lies_kept hb2 (Lies.new w #[.int .i64 0, .int .i64 0] 61); obtain ⟨q0, q1, q2, q3⟩ := L.cells))
  have RS := (L.set0 (.int .i64 (x.1 : Int))).set1 (.int .i64 (x.2 : Int))
  obtain ⟨s0, s1, _, _⟩ := RS.cells
  have RB := ((((Below.refl _ w).alloc (Nat.le_refl _) _).trans (hb2.mono (by simp))).setCell (p := ⟨w.heap.size, 0, none⟩) (by simp) (.int .i64 (x.1 : Int))).setCell (p := ⟨w.heap.size, 1, none⟩) (by simp) (.int .i64 (x.2 : Int))
  clear q0 q1 q2 q3 L
  exact bodyPost_ret (v := .agg #[.int .i64 (x.1 : Int), .int .i64 (x.2 : Int)]) (by simp [results, Tryd.results106, go_sem, s0, s1]) rfl ⟨rfl, RB⟩

theorem clos46 (b : Nat) (p : Node) (hok : p.ok) (IH : ∀ (m : Nat), m < 512 → ∀ (w : World), Calls Tryd.prog 106 #[nodeV p, .int .i64 (m : Int)] w (RunsTo w (runR p m))) : Steps b (nodeT p) (nodeX p) (runR p) := by
  intro W m hm hc
  have H := IH m hm
  rw [nodeV_eq p hok] at H
  generalize runR p m = x at H ⊢
  have hc2 := cellAlloc (.cells #[.int .i64 0, .int .i64 0] 61) hc
  go_enter Tryd.func125, Tryd.ntmps125
  go_wp2_with (go_at_call 106; refine (H _).mono ?_; rintro e W2 ⟨rfl, hb2⟩; have L := lies_kept hb2 (Lies.new W #[.int .i64 0, .int .i64 0] 61); obtain ⟨q0, q1, q2, q3⟩ := L.cells)
  have RS := (L.set0 (.int .i64 (x.1 : Int))).set1 (.int .i64 (x.2 : Int))
  obtain ⟨s0, s1, _, _⟩ := RS.cells
  have RB := ((((Below.refl _ W).alloc (Nat.le_refl _) _).trans (hb2.mono (by simp))).setCell (p := ⟨W.heap.size, 0, none⟩) (by simp) (.int .i64 (x.1 : Int))).setCell (p := ⟨W.heap.size, 1, none⟩) (by simp) (.int .i64 (x.2 : Int))
  clear q0 q1 q2 q3 L
  exact bodyPost_ret (v := .agg #[.int .i64 (x.1 : Int), .int .i64 (x.2 : Int)]) (by simp [results, Tryd.results125, go_sem, s0, s1]) rfl ⟨rfl, RB⟩

set_option maxHeartbeats 4000000 in
theorem run_of_loop (p : Node) (hok : p.ok) (IH : ∀ (m : Nat), m < 512 → ∀ (w : World), Calls Tryd.prog 106 #[nodeV p, .int .i64 (m : Int)] w (RunsTo w (runR p m))) (m : Nat) (hm : m < 512) (w : World) :
    Calls Tryd.prog 106 #[nodeV (.loop p), .int .i64 (m : Int)] w (RunsTo w (runR (.loop p) m)) := by
  have hcl := fun b => clos46 b p hok IH
  have hsm := run_small hok
  rw [run_loop]
  unfold nodeV
  rw [nodeV_eq p hok]
  generalize runR p = r at hcl hsm ⊢
  have hcb : ((w.alloc (.cells #[.int .i64 0, .int .i64 0] 61)).alloc (.cells #[.iface (nodeT p) (nodeX p)] 117)).cell? ⟨w.heap.size + 1, 0, none⟩ = some (.iface (nodeT p) (nodeX p)) := by
    have h := (cellNew (w.alloc (.cells #[.int .i64 0, .int .i64 0] 61)) (.iface (nodeT p) (nodeX p)) 117).1
    rwa [World.size_alloc] at h
  have hrep : Calls Tryd.prog 124 #[.int .i64 (m : Int), .func (.func 125) #[] #[.pointer (some ⟨w.heap.size + 1, 0, none⟩)]] _ (RunsTo ((w.alloc (.cells #[.int .i64 0, .int .i64 0] 61)).alloc (.cells #[.iface (nodeT p) (nodeX p)] 117)) (iter (stepL r) 18 (m, 0))) := rep45 (w.heap.size + 1) (nodeT p) (nodeX p) r hsm (hcl _) m hm _ (by simp) hcb
  generalize iter (stepL r) 18 (m, 0) = x at hrep ⊢
  have t1 := as81_77 (.iface (nodeT p) (nodeX p))
  have t2 := as81_79 (.iface (nodeT p) (nodeX p))
  have t3 := as81_81 (.iface (nodeT p) (nodeX p))
  go_enter Tryd.func106, Tryd.ntmps106
  go_wp2_with (go_at_call 124; refine hrep.mono ?_; rintro e W2 ⟨rfl, hb2⟩; have L := lies_kept hb2 ((Lies.new w #[.int .i64 0, .int .i64 0] 61).alloc _); obtain ⟨q0, q1, q2, q3⟩ := L.cells)
  have RS := (L.set0 (.int .i64 (x.1 : Int))).set1 (.int .i64 (x.2 : Int))
  obtain ⟨s0, s1, _, _⟩ := RS.cells
  have RB := (((((Below.refl _ w).alloc (Nat.le_refl _) _).alloc (by simp) _).trans (hb2.mono (by simp; omega))).setCell (p := ⟨w.heap.size, 0, none⟩) (by simp) (.int .i64 (x.1 : Int))).setCell (p := ⟨w.heap.size, 1, none⟩) (by simp) (.int .i64 (x.2 : Int))
  clear q0 q1 q2 q3 L
  exact bodyPost_ret (v := .agg #[.int .i64 (x.1 : Int), .int .i64 (x.2 : Int)]) (by simp [results, Tryd.results106, go_sem, s0, s1]) rfl ⟨rfl, RB⟩

theorem with44s (a : Nat) (y : Nat × Nat) (ha : a < 512) (hy : Small y) (w : World) :
    Calls Tryd.prog 63 #[.agg #[.int .i64 0, .int .i64 (a : Int)], .agg #[.int .i64 (y.1 : Int), .int .i64 (y.2 : Int)]] w fun e w' => e = .returned (.agg #[.int .i64 (y.1 : Int), .int .i64 ((a ||| y.2 : Nat) : Int)]) ∧ Below w.heap.size w w' := by
  have h := with44x (0, a) y ⟨(show (0 : Nat) < 512 by decide), ha⟩ hy w
  dsimp only at h
  rw [Nat.zero_or] at h
  exact h
theorem three_then {V W : World} {a b c : Addr} {u v x : Value} {G : Prop} (hb : Below V.heap.size V W) (h : V.cell? a = some u) (k : V.cell? b = some v) (l : V.cell? c = some x) (f : W.cell? a = some u → W.cell? b = some v → W.cell? c = some x → G) : G := f (keepCell hb h) (keepCell hb k) (keepCell hb l)

theorem three_set {W : World} {a b c : Addr} {u v x p q : Value} {g : Nat} (ha : a.block ≠ g) (hb : b.block ≠ g) (hc : c.block ≠ g) (h : W.cell? a = some u) (k : W.cell? b = some v) (l : W.cell? c = some x) :
    ((W.setCell ⟨g, 0, none⟩ p).setCell ⟨g, 1, none⟩ q).cell? a = some u ∧ ((W.setCell ⟨g, 0, none⟩ p).setCell ⟨g, 1, none⟩ q).cell? b = some v ∧ ((W.setCell ⟨g, 0, none⟩ p).setCell ⟨g, 1, none⟩ q).cell? c = some x :=
  ⟨(two_set ha hb h k).1, (two_set ha hb h k).2, (two_set ha hc h l).2⟩

set_option maxHeartbeats 4000000 in
theorem run_of_seq (p q : Node) (hp : p.ok) (hq : q.ok) (IH1 : ∀ (m : Nat), m < 512 → ∀ (w : World), Calls Tryd.prog 106 #[nodeV p, .int .i64 (m : Int)] w (RunsTo w (runR p m)))
    (IH2 : ∀ (m : Nat), m < 512 → ∀ (w : World), Calls Tryd.prog 106 #[nodeV q, .int .i64 (m : Int)] w (RunsTo w (runR q m))) (m : Nat) (hm : m < 512) (w : World) :
    Calls Tryd.prog 106 #[nodeV (.pair 59 p q), .int .i64 (m : Int)] w (RunsTo w (runR (.pair 59 p q) m)) := by
  have H1 := IH1 m hm
  have hx := run_small hp m hm
  have H2 := IH2 (runR p m).1 hx.1
  have hy := run_small hq (runR p m).1 hx.1
  rw [run_seq, nodeV_seq]
  rw [nodeV_eq p hp] at H1 ⊢
  rw [nodeV_eq q hq] at H2 ⊢
  generalize runR q (runR p m).1 = y at H2 hy ⊢
  generalize runR p m = x at H1 hx H2 ⊢
  have t1 := as77_77 (.iface (nodeT p) (nodeX p)) (.iface (nodeT q) (nodeX q))
  go_enter Tryd.func106, Tryd.ntmps106
  go_wp2_with (go_at_call 106; refine (H1 _).mono ?_; rintro e W1 ⟨rfl, hb1⟩)
  have L0 := (lies_kept hb1 ((Lies.new w #[.int .i64 0, .int .i64 0] 61).alloc (.cells #[.iface (nodeT p) (nodeX p), .iface (nodeT q) (nodeX q)] 107))).alloc (.cells #[.int .i64 (x.1 : Int), .int .i64 (x.2 : Int)] 61)
  have LP := (lies_kept hb1 (Lies.new (w.alloc (.cells #[.int .i64 0, .int .i64 0] 61)) #[.iface (nodeT p) (nodeX p), .iface (nodeT q) (nodeX q)] 107)).alloc (.cells #[.int .i64 (x.1 : Int), .int .i64 (x.2 : Int)] 61)
  have LX := Lies.new W1 #[.int .i64 (x.1 : Int), .int .i64 (x.2 : Int)] 61
  rw [World.size_alloc] at LP
  have hs1 := hb1.size
  simp only [World.size_alloc] at hs1
  have hA : Below w.heap.size w (W1.alloc (.cells #[.int .i64 (x.1 : Int), .int .i64 (x.2 : Int)] 61)) := ((((Below.refl _ w).alloc (Nat.le_refl _) _).alloc (by simp) _).trans (hb1.mono (by simp; omega))).alloc (by omega) _
  generalize W1.alloc (.cells #[.int .i64 (x.1 : Int), .int .i64 (x.2 : Int)] 61) = V at L0 LP LX hA ⊢
  clear hb1 H1
  generalize W1.heap.size = g at LX hs1 ⊢
  obtain ⟨c0, c1, _, _⟩ := LX.cells
  obtain ⟨_, c2, _, _⟩ := LP.cells
  have HV := Lib.hid (And.intro hA (below_self_grown V none))
  clear LX LP hA
  go_region_held3 (fun w' => w'.cell? ⟨g, 0, none⟩ = some (.int .i64 (x.1 : Int)) ∧ w'.cell? ⟨g, 1, none⟩ = some (.int .i64 (x.2 : Int)) ∧ w'.cell? ⟨w.heap.size + 1, 1, none⟩ = some (.iface (nodeT q) (nodeX q)))
    (first | exact ⟨c0, c1, c2⟩ | exact ⟨d0, d1, d2⟩ | exact ⟨e0, e1, e2⟩ | exact three_set (Nat.ne_of_gt (Nat.lt_of_lt_of_le (Nat.lt_succ_self _) (Nat.le_trans (Nat.le_succ _) hs1))) (Nat.ne_of_gt (Nat.lt_of_lt_of_le (Nat.lt_succ_self _) (Nat.le_trans (Nat.le_succ _) hs1))) (Nat.succ_ne_self _) e0 e1 e2 | go_keep)
    (first
      | (go_at_call 106; refine (H2 _).mono ?_; rintro e W2 ⟨rfl, hb2⟩; have L2 := lies_kept hb2 L0; refine three_then (a := ⟨g, 0, none⟩) (b := ⟨g, 1, none⟩) (c := ⟨w.heap.size + 1, 1, none⟩) (u := .int .i64 (x.1 : Int)) (v := .int .i64 (x.2 : Int)) (x := .iface (nodeT q) (nodeX q)) hb2 ?_ ?_ ?_ ?_; exact c0; exact c1; exact c2; intro d0 d1 d2)
      | (go_at_call 63; refine (with44s x.2 y hx.2 hy _).mono ?_; rintro e W3 ⟨rfl, hb3⟩; have L3 := lies_kept hb3 L2; obtain ⟨q0, q1, q2, q3⟩ := L3.cells; refine three_then (a := ⟨g, 0, none⟩) (b := ⟨g, 1, none⟩) (c := ⟨w.heap.size + 1, 1, none⟩) (u := .int .i64 (x.1 : Int)) (v := .int .i64 (x.2 : Int)) (x := .iface (nodeT q) (nodeX q)) hb3 ?_ ?_ ?_ ?_; exact d0; exact d1; exact d2; intro e0 e1 e2))
  have hB3 : Below w.heap.size w W3 := (HV.out.1.drew.trans (hb2.mono HV.out.1.size)).trans (hb3.mono (Nat.le_trans HV.out.1.size hb2.size))
  have RS := (L3.set0 (.int .i64 (y.1 : Int))).set1 (.int .i64 ((x.2 ||| y.2 : Nat) : Int))
  obtain ⟨s0, s1, _, _⟩ := RS.cells
  have RB := (hB3.setCell (p := ⟨w.heap.size, 0, none⟩) (by simp) (.int .i64 (y.1 : Int))).setCell (p := ⟨w.heap.size, 1, none⟩) (by simp) (.int .i64 ((x.2 ||| y.2 : Nat) : Int))
  clear q0 q1 q2 q3 L3 L2 L0 hB3 hb2 hb3 HV c0 c1 c2 d0 d1 d2 e0 e1 e2 RS
  go_wp2
  exact bodyPost_ret (v := .agg #[.int .i64 (y.1 : Int), .int .i64 ((x.2 ||| y.2 : Nat) : Int)]) (by simp [results, Tryd.results106, go_sem, s0, s1]) rfl ⟨rfl, RB⟩

set_option maxHeartbeats 4000000 in
theorem run_of_choice (p q : Node) (hp : p.ok) (hq : q.ok) (IH1 : ∀ (m : Nat), m < 512 → ∀ (w : World), Calls Tryd.prog 106 #[nodeV p, .int .i64 (m : Int)] w (RunsTo w (runR p m)))
    (IH2 : ∀ (m : Nat), m < 512 → ∀ (w : World), Calls Tryd.prog 106 #[nodeV q, .int .i64 (m : Int)] w (RunsTo w (runR q m))) (m : Nat) (hm : m < 512) (w : World) :
    Calls Tryd.prog 106 #[nodeV (.pair 124 p q), .int .i64 (m : Int)] w (RunsTo w (runR (.pair 124 p q) m)) := by
  have H1 := IH1 m hm
  have hx := run_small hp m hm
  have H2 := IH2 m hm
  have hy := run_small hq m hm
  rw [run_choice, nodeV_choice]
  rw [nodeV_eq p hp] at H1 ⊢
  rw [nodeV_eq q hq] at H2 ⊢
  generalize runR q m = y at H2 hy ⊢
  generalize runR p m = x at H1 hx ⊢
  have t1 := as79_77 (.iface (nodeT p) (nodeX p)) (.iface (nodeT q) (nodeX q))
  have t2 := as79_79 (.iface (nodeT p) (nodeX p)) (.iface (nodeT q) (nodeX q))
  have L0 := (Lies.new w #[.int .i64 0, .int .i64 0] 61).alloc (.cells #[.iface (nodeT p) (nodeX p), .iface (nodeT q) (nodeX q)] 112)
  have LP := Lies.new (w.alloc (.cells #[.int .i64 0, .int .i64 0] 61)) #[.iface (nodeT p) (nodeX p), .iface (nodeT q) (nodeX q)] 112
  rw [World.size_alloc] at LP
  have hA : Below w.heap.size w ((w.alloc (.cells #[.int .i64 0, .int .i64 0] 61)).alloc (.cells #[.iface (nodeT p) (nodeX p), .iface (nodeT q) (nodeX q)] 112)) := ((Below.refl _ w).alloc (Nat.le_refl _) _).alloc (by simp) _
  go_enter Tryd.func106, Tryd.ntmps106
  go_wp2_with fail
  generalize (w.alloc (.cells #[.int .i64 0, .int .i64 0] 61)).alloc (.cells #[.iface (nodeT p) (nodeX p), .iface (nodeT q) (nodeX q)] 112) = V at L0 LP hA ⊢
  obtain ⟨c0, c1, _, _⟩ := LP.cells
  have HV := Lib.hid hA
  clear LP hA
  go_region_held3 (fun w' => w'.cell? ⟨w.heap.size + 1, 0, none⟩ = some (.iface (nodeT p) (nodeX p)) ∧ w'.cell? ⟨w.heap.size + 1, 1, none⟩ = some (.iface (nodeT q) (nodeX q)))
    (first | exact ⟨c0, c1⟩ | exact ⟨d0, d1⟩ | exact ⟨e0, e1⟩ | exact ⟨f0, f1⟩ | exact ⟨g0, g1⟩ | exact two_set (Nat.succ_ne_self _) (Nat.succ_ne_self _) g0 g1 | go_keep)
    (first
      | (go_at_call_of 106 (Value.iface (nodeT q) (nodeX q)); refine (H2 _).mono ?_; rintro e W2 ⟨rfl, hb2⟩; have LF := lies_kept hb2 LA; refine two_then (a := ⟨w.heap.size + 1, 0, none⟩) (b := ⟨w.heap.size + 1, 1, none⟩) (u := .iface (nodeT p) (nodeX p)) (v := .iface (nodeT q) (nodeX q)) hb2 ?_ ?_ ?_; exact d0; exact d1; intro f0 f1)
      | (go_at_call_of 106 (Value.iface (nodeT p) (nodeX p)); refine (H1 _).mono ?_; rintro e W1 ⟨rfl, hb1⟩; have LF := lies_kept hb1 LB; refine two_then (a := ⟨w.heap.size + 1, 0, none⟩) (b := ⟨w.heap.size + 1, 1, none⟩) (u := .iface (nodeT p) (nodeX p)) (v := .iface (nodeT q) (nodeX q)) hb1 ?_ ?_ ?_; exact e0; exact e1; intro f0 f1)
      | (go_at_call_of 106 (Value.iface (nodeT p) (nodeX p)); refine (H1 _).mono ?_; rintro e W1 ⟨rfl, hb1⟩; have LA := lies_kept hb1 L0; refine two_then (a := ⟨w.heap.size + 1, 0, none⟩) (b := ⟨w.heap.size + 1, 1, none⟩) (u := .iface (nodeT p) (nodeX p)) (v := .iface (nodeT q) (nodeX q)) hb1 ?_ ?_ ?_; exact c0; exact c1; intro d0 d1)
      | (go_at_call_of 106 (Value.iface (nodeT q) (nodeX q)); refine (H2 _).mono ?_; rintro e W2 ⟨rfl, hb2⟩; have LB := lies_kept hb2 L0; refine two_then (a := ⟨w.heap.size + 1, 0, none⟩) (b := ⟨w.heap.size + 1, 1, none⟩) (u := .iface (nodeT p) (nodeX p)) (v := .iface (nodeT q) (nodeX q)) hb2 ?_ ?_ ?_; exact c0; exact c1; intro e0 e1)
      | (go_at_call 63; refine (with44x x y hx hy _).mono ?_; rintro e W3 ⟨rfl, hb3⟩; have L3 := lies_kept hb3 LF; obtain ⟨q0, q1, q2, q3⟩ := L3.cells; refine two_then (a := ⟨w.heap.size + 1, 0, none⟩) (b := ⟨w.heap.size + 1, 1, none⟩) (u := .iface (nodeT p) (nodeX p)) (v := .iface (nodeT q) (nodeX q)) hb3 ?_ ?_ ?_; exact f0; exact f1; intro g0 g1))
  all_goals
    have hA := HV.out
    have hB3 : Below w.heap.size w W3 := by
      first
        | exact ((hA.drew.trans (hb1.mono hA.size)).trans (hb2.mono (Nat.le_trans hA.size hb1.size))).trans (hb3.mono (Nat.le_trans hA.size (Nat.le_trans hb1.size hb2.size)))
        | exact ((hA.drew.trans (hb2.mono hA.size)).trans (hb1.mono (Nat.le_trans hA.size hb2.size))).trans (hb3.mono (Nat.le_trans hA.size (Nat.le_trans hb2.size hb1.size)))
    have RS := (L3.set0 (.int .i64 ((x.1 ||| y.1 : Nat) : Int))).set1 (.int .i64 ((x.2 ||| y.2 : Nat) : Int))
    obtain ⟨s0, s1, _, _⟩ := RS.cells
    have RB := (hB3.setCell (p := ⟨w.heap.size, 0, none⟩) (by simp) (.int .i64 ((x.1 ||| y.1 : Nat) : Int))).setCell (p := ⟨w.heap.size, 1, none⟩) (by simp) (.int .i64 ((x.2 ||| y.2 : Nat) : Int))
    clear q0 q1 q2 q3 L3 hB3 hA g0 g1 f0 f1
    go_wp2
    exact bodyPost_ret (v := .agg #[.int .i64 ((x.1 ||| y.1 : Nat) : Int), .int .i64 ((x.2 ||| y.2 : Nat) : Int)]) (by simp [results, Tryd.results106, go_sem, s0, s1]) rfl ⟨rfl, RB⟩

/-- **WHAT A PROGRAM REACHES FROM A SET.** -/
theorem prun27 : ∀ (nd : Node), nd.ok → ∀ (m : Nat), m < 512 → ∀ (w : World), Calls Tryd.prog 106 #[nodeV nd, .int .i64 (m : Int)] w (RunsTo w (runR nd m))
  | .atom a, hok, m, hm, w => run_atom a hok m hm w
  | .loop p, hok, m, hm, w => run_of_loop p hok (prun27 p hok) m hm w
  | .pair k p q, hok, m, hm, w => by
    obtain ⟨rfl | rfl, hp, hq⟩ := hok
    · exact run_of_seq p q hp hq (prun27 p hp) (prun27 q hq) m hm w
    · exact run_of_choice p q hp hq (prun27 p hp) (prun27 q hq) m hm w
end Go.Proofs.YtgkgkaapjljpcaaDoor

