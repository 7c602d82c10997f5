/- The program's running: steps done any number of times, a program from a set. -/
import Derived.Test.YtgkgkaapjljpcaaDoorR2
import Derived.Test.YtgkgkaapjljpcaaDoorNA
namespace Go.Proofs.YtgkgkaapjljpcaaDoor
open Go.ChangeShapes Go.WideShapes Go.ChangeAt Go.RowKit Go.Shelf
attribute [local go_sem] Oper.semAt_some
set_option maxRecDepth 100000

theorem eqOut (a b c e : Int) (w : World) : (Op.equalIn 10000 61 (.agg #[.int .i64 a, .int .i64 b]) (.agg #[.int .i64 c, .int .i64 e])).run Tryd.prog w = .ok (a == c && b == e) w := by
  rw [show (10000 : Nat) = 9999 + 1 from rfl, run_equalIn_struct w 9999 61 _ _ (by kernel_rfl) (by kernel_rfl)]
  have hl : (Tryd.prog.fieldsOf 61).toList = [⟨"ok", 59, 0, false, "", "loop.example/surelywrong/impl", 0⟩, ⟨"failed", 59, 1, false, "", "loop.example/surelywrong/impl", 8⟩] := by kernel_rfl
  have u3 : ∀ (x y : Int) (w : World), (Op.equalIn 9999 59 (.int .i64 x) (.int .i64 y)).run Tryd.prog w = .ok (x == y) w := fun x y w => run_equalIn_int w 9998 59 .i64 .i64 x y Tryd.underlying59
  have p0 : ∀ (x y : Int) (w : World), (part 59 #[.int .i64 x, .int .i64 y] 0).run Tryd.prog w = .ok (.int .i64 x) w := fun x y w => by kernel_rfl
  have p1 : ∀ (x y : Int) (w : World), (part 59 #[.int .i64 x, .int .i64 y] 1).run Tryd.prog w = .ok (.int .i64 y) w := fun x y w => by kernel_rfl
  rw [hl]
  have n1 : "ok" ≠ "_" := by decide
  have n2 : "failed" ≠ "_" := by decide
  simp only [Op.eqFields, if_pos n1, if_pos n2, Sem.run_bind, p0, u3, Result.andThen_ok]
  cases h : (a == c) <;> cases h' : (b == e) <;> simp [p1, u3, h']

/-- Outcomes are the same, or not. -/
theorem same_out (x y : Nat × Nat) : (((x.1 : Int) == (y.1 : Int)) && ((x.2 : Int) == (y.2 : Int))) = decide (x = y) := by
  rw [Bool.eq_iff_iff]
  simp only [Bool.and_eq_true, beq_iff_eq, decide_eq_true_eq]
  constructor
  · rintro ⟨h1, h2⟩; exact Prod.ext (by omega) (by omega)
  · rintro rfl; exact ⟨rfl, rfl⟩
theorem eqOutV (x y : Nat × Nat) (w : World) : (Op.equalIn 10000 61 (.agg #[.int .i64 (x.1 : Int), .int .i64 (x.2 : Int)]) (.agg #[.int .i64 (y.1 : Int), .int .i64 (y.2 : Int)])).run Tryd.prog w = .ok (decide (x = y)) w := by
  rw [eqOut, same_out]

theorem lt_cell {W : World} {a : Addr} {v : Value} (h : W.cell? a = some v) : a.block < W.heap.size := by
  by_cases hlt : a.block < W.heap.size
  · exact hlt
  · exfalso
    have hn : W.heap[a.block]? = none := Array.getElem?_eq_none (by omega)
    unfold World.cell? at h
    rw [hn] at h
    simp at h
theorem keepCell {V W : World} {a : Addr} {v : Value} (hb : Below V.heap.size V W) (h : V.cell? a = some v) : W.cell? a = some v := (hb.cell (p := a) (lt_cell h)).trans h
theorem two_set {W : World} {a b : Addr} {u v p q : Value} {g : Nat} (ha : a.block ≠ g) (hb : b.block ≠ g) (h : W.cell? a = some u) (k : W.cell? b = some v) :
    ((W.setCell ⟨g, 0, none⟩ p).setCell ⟨g, 1, none⟩ q).cell? a = some u ∧ ((W.setCell ⟨g, 0, none⟩ p).setCell ⟨g, 1, none⟩ q).cell? b = some v := by
  have e : ∀ c : Addr, c.block ≠ g → ((W.setCell ⟨g, 0, none⟩ p).setCell ⟨g, 1, none⟩ q).cell? c = W.cell? c := fun c hc =>
    (World.cell?_of_block (heap_setCell_other _ _ c.block _ hc)).trans (World.cell?_of_block (heap_setCell_other _ _ c.block _ hc))
  exact ⟨(e a ha).trans h, (e b hb).trans k⟩
theorem two_then {V W : World} {a b : Addr} {u v : Value} {G : Prop} (hb : Below V.heap.size V W) (h : V.cell? a = some u) (k : V.cell? b = some v) (f : W.cell? a = some u → W.cell? b = some v → G) : G := f (keepCell hb h) (keepCell hb k)
theorem two_kept {V W : World} {a b : Addr} {u v : Value} (hb : Below V.heap.size V W) (h : V.cell? a = some u) (k : V.cell? b = some v) : W.cell? a = some u ∧ W.cell? b = some v := ⟨keepCell hb h, keepCell hb k⟩
/-- Outcomes joined, told in full. -/
theorem with44x (x y : Nat × Nat) (hx : Small x) (hy : Small y) (w : World) :
    Calls Tryd.prog 63 #[.agg #[.int .i64 (x.1 : Int), .int .i64 (x.2 : Int)], .agg #[.int .i64 (y.1 : Int), .int .i64 (y.2 : Int)]] w fun e w' => e = .returned (.agg #[.int .i64 ((x.1 ||| y.1 : Nat) : Int), .int .i64 ((x.2 ||| y.2 : Nat) : Int)]) ∧ Below w.heap.size w w' := with44 x y hx hy w
theorem lies_kept {X W : World} {b : Nat} {cs : Array Value} {t : TypeId} (hb : Below X.heap.size X W) (h : Lies X b cs t) : Lies W b cs t := h.below hb
theorem drewG {A B : World} {r : Option Nat} (h : A.grownBy B r) : A.grownBy B.drew r := ⟨h.os, h.tape, h.output, h.size, h.block⟩
theorem World_grown_alloc {A B : World} {r : Option Nat} (h : A.grownBy B r) (o : Obj) : A.grownBy (B.alloc o) r := by
  have := World.grownBy_alloc B o none
  exact ⟨this.os.trans h.os, this.tape.trans h.tape, this.output.trans h.output, Nat.le_trans h.size this.size, fun b hb hr => (this.block b (Nat.lt_of_lt_of_le hb h.size) (by simp)).trans (h.block b hb hr)⟩
/-- In a round, behind the step: the new outcome at g, the old one, the result's place. -/
structure Rnd (w Y : World) (g : Nat) (x y : Nat × Nat) : Prop where
  new : Lies Y g #[.int .i64 (y.1 : Int), .int .i64 (y.2 : Int)] 61
  old : Lies Y (w.heap.size + 1) #[.int .i64 (x.1 : Int), .int .i64 (x.2 : Int)] 61
  res : Lies Y w.heap.size #[.int .i64 0, .int .i64 0] 61
  below : Below w.heap.size w Y
  apart : w.heap.size + 1 < g
theorem rnd_new {w W : World} {x : Nat × Nat} (y : Nat × Nat) (h1 : Lies W w.heap.size (cells2 (0, 0)) 61) (h2 : Lies W (w.heap.size + 1) (cells2 x) 61) (h3 : Below w.heap.size w W) :
    Rnd w (W.alloc (.cells #[.int .i64 (y.1 : Int), .int .i64 (y.2 : Int)] 61)) W.heap.size x y :=
  ⟨Lies.new _ _ _, h2.alloc _, h1.alloc _, h3.alloc h3.size _, h2.lt⟩
theorem rnd_set {w W : World} {g : Nat} {u v : Value} {x : Nat × Nat} (h : Lies W g #[u, v] 61) (y : Nat × Nat) (h1 : Lies W w.heap.size (cells2 (0, 0)) 61) (h2 : Lies W (w.heap.size + 1) (cells2 x) 61) (h3 : Below w.heap.size w W) (hg : w.heap.size + 1 < g) :
    Rnd w ((W.setCell ⟨g, 0, none⟩ (.int .i64 (y.1 : Int))).setCell ⟨g, 1, none⟩ (.int .i64 (y.2 : Int))) g x y :=
  ⟨(h.set0 _).set1 _, (h2.other (by omega) _ _).other (by omega) _ _, (h1.other (by omega) _ _).other (by omega) _ _, (h3.setCell (p := ⟨g, 0, none⟩) (by simp; omega) _).setCell (p := ⟨g, 1, none⟩) (by simp; omega) _, hg⟩
theorem readOut_lies {W : World} {b : Nat} {x : Nat × Nat} {t : TypeId} (h : Lies W b (cells2 x) t) : readOut W b = x := by
  obtain ⟨c0, c1, _, _⟩ := Lies.cells (x := .int .i64 (x.1 : Int)) (y := .int .i64 (x.2 : Int)) h
  unfold readOut
  rw [c0, c1]
  rfl
/-- What is asked of a step: in whatever world its block lies, it answers as r. -/
def Steps (b : Nat) (T : TypeId) (v : Value) (r : Nat → Nat × Nat) : Prop := ∀ (W : World) (m : Nat), m < 512 → W.cell? ⟨b, 0, none⟩ = some (.iface T v) →
  Calls Tryd.prog 125 #[.int .i64 (m : Int), .pointer (some ⟨b, 0, none⟩)] W fun e W' => e = .returned (.agg #[.int .i64 ((r m).1 : Int), .int .i64 ((r m).2 : Int)]) ∧ Below W.heap.size W W'

set_option maxHeartbeats 2000000 in
theorem rep45 (b : Nat) (T : TypeId) (v : Value) (r : Nat → Nat × Nat) (hr : ∀ m, m < 512 → Small (r m)) (hs : Steps b T v r) (m : Nat) (hm : m < 512) (w : World) (hb : b < w.heap.size) (hc : w.cell? ⟨b, 0, none⟩ = some (.iface T v)) :
    Calls Tryd.prog 124 #[.int .i64 (m : Int), .func (.func 125) #[] #[.pointer (some ⟨b, 0, none⟩)]] w fun e W' => e = .returned (outV (iter (stepL r) 18 (m, 0))) ∧ Below w.heap.size w W' := by
  go_enter Tryd.func124, Tryd.ntmps124
  go_wp2_with fail
  go_loopw [] (fun wr => ∃ n x, x = iter (stepL r) n (m, 0) ∧ Small x ∧ Lies wr w.heap.size (cells2 (0, 0)) 61 ∧ Lies wr (w.heap.size + 1) (cells2 x) 61 ∧ Below w.heap.size w wr) (fun wr => 18 - cnt2 (readOut wr (w.heap.size + 1)))
  case atStart =>
    refine ⟨0, (m, 0), rfl, ⟨hm, show (0 : Nat) < 512 by decide⟩, (Lies.new _ _ _).alloc _, ?_, ((Below.refl _ _).alloc (Nat.le_refl _) _).alloc (by simp) _⟩
    have h := Lies.new (w.alloc (.cells #[.int .i64 0, .int .i64 0] 61)) #[.int .i64 (m : Int), .int .i64 0] 61
    rwa [World.size_alloc] at h
  case round =>
    obtain ⟨n, x, hxe, hx, hZ, hX, hB⟩ := hrel
    have HX := Lib.hid hxe
    clear hxe
    have hcb := (hB.cell (p := ⟨b, 0, none⟩) hb).trans hc
    obtain ⟨x0, x1, f0, f1⟩ := Lies.cells (x := .int .i64 (x.1 : Int)) (y := .int .i64 (x.2 : Int)) hX
    have hrx := hr x.1 hx.1
    go_wp2_with fail
    go_region_held3? (fun w' => w'.cell? ⟨w.heap.size + 1, 0, none⟩ = some (.int .i64 (x.1 : Int)) ∧ w'.cell? ⟨w.heap.size + 1, 1, none⟩ = some (.int .i64 (x.2 : Int)))
      (first | exact ⟨x0, x1⟩ | exact ⟨y0, y1⟩ | exact ⟨z0, z1⟩ | exact two_set (Nat.ne_of_lt (lt_cell x0)) (Nat.ne_of_lt (lt_cell x1)) z0 z1 | exact two_set (Nat.ne_of_lt (lt_cell y0)) (Nat.ne_of_lt (lt_cell y1)) z0 z1 | go_keep)
      (first
        | (go_at_call 125; refine (hs _ x.1 hx.1 ?_).mono ?_; exact hcb; rintro e W2 ⟨rfl, hb2⟩; refine two_then (a := ⟨w.heap.size + 1, 0, none⟩) (b := ⟨w.heap.size + 1, 1, none⟩) (u := .int .i64 (x.1 : Int)) (v := .int .i64 (x.2 : Int)) hb2 ?_ ?_ ?_; exact x0; exact x1; intro y0 y1)
        | (go_at_call 125; refine (hs _ x.1 hx.1 ?_).mono ?_; exact cellAlloc _ hcb; rintro e W2 ⟨rfl, hb2⟩; refine two_then (a := ⟨w.heap.size + 1, 0, none⟩) (b := ⟨w.heap.size + 1, 1, none⟩) (u := .int .i64 (x.1 : Int)) (v := .int .i64 (x.2 : Int)) hb2 ?_ ?_ ?_; exact cellAlloc _ x0; exact cellAlloc _ x1; intro y0 y1; have hN := lies_kept hb2 (Lies.new wr #[.int .i64 0, .int .i64 0] 61))
        | (go_at_call 63; refine (with44x x (r x.1) hx hrx _).mono ?_; rintro e W3 ⟨rfl, hb3⟩; have hM := lies_kept hb3 hN; obtain ⟨n0, n1, n2, n3⟩ := hM.cells; refine two_then (a := ⟨w.heap.size + 1, 0, none⟩) (b := ⟨w.heap.size + 1, 1, none⟩) (u := .int .i64 (x.1 : Int)) (v := .int .i64 (x.2 : Int)) hb3 ?_ ?_ ?_; exact y0; exact y1; intro z0 z1)
        | (go_at_call 63; refine (with44x x (r x.1) hx hrx _).mono ?_; rintro e W3 ⟨rfl, hb3⟩; refine two_then (a := ⟨w.heap.size + 1, 0, none⟩) (b := ⟨w.heap.size + 1, 1, none⟩) (u := .int .i64 (x.1 : Int)) (v := .int .i64 (x.2 : Int)) hb3 ?_ ?_ ?_; exact y0; exact y1; intro z0 z1)
        | (go_at_call 63; refine (with44x x (r x.1) hx hrx _).mono ?_; rintro e W3 ⟨rfl, hb3⟩; have hM := lies_kept hb3 (Lies.new W2 #[.int .i64 0, .int .i64 0] 61); obtain ⟨n0, n1, n2, n3⟩ := hM.cells; refine two_then (a := ⟨w.heap.size + 1, 0, none⟩) (b := ⟨w.heap.size + 1, 1, none⟩) (u := .int .i64 (x.1 : Int)) (v := .int .i64 (x.2 : Int)) hb3 ?_ ?_ ?_; exact cellAlloc _ y0; exact cellAlloc _ y1; intro z0 z1))
    all_goals
      have hG : wr.grownBy W3 none := by
        first
          | exact grown_trans_b (grown_trans_b (drewG (below_self_grown wr none)) hb2) hb3
          | exact grown_trans_b (World_grown_alloc (grown_trans_b (drewG (below_self_grown wr none)) hb2) _) hb3
          | exact grown_trans_b (grown_trans_b (drewG (World.grownBy_alloc wr _ none)) hb2) hb3
      have a1 := hZ.kept hG (by simp)
      have a2 := hX.kept hG (by simp)
      have a3 : Below w.heap.size w W3 := hB.grown hG hB.size (fun i e => by cases e)
      have hrn := a2.lt
      obtain ⟨y1, hy1⟩ : ∃ y1, y1 = x.1 ||| (r x.1).1 := ⟨_, rfl⟩
      obtain ⟨y2, hy2⟩ : ∃ y2, y2 = x.2 ||| (r x.1).2 := ⟨_, rfl⟩
      have hst : stepL r x = (y1, y2) := by rw [hy1, hy2]; rfl
      rw [← hy1, ← hy2]
      clear hy1 hy2
      have hS := step_lt hr hx
      rw [hst] at hS
      have HS := Lib.hid (And.intro hst hS)
      clear hst hS
    · have R := rnd_new (y1, y2) a1 a2 a3
      dsimp only at R
      generalize W3.alloc (.cells #[.int .i64 (y1 : Int), .int .i64 (y2 : Int)] 61) = Y at R ⊢
      generalize W3.heap.size = g at R ⊢
      clear hb2 hb3 a1 a2 a3 hG
      obtain ⟨n0, n1, _, _⟩ := R.new.cells
      obtain ⟨o0, o1, o2, o3⟩ := R.old.cells
      obtain ⟨q0, q1, q2, q3⟩ := R.res.cells
      by_cases heq : (y1, y2) = x
      · have hE : ∀ W, (Op.equalIn 10000 61 (.agg #[.int .i64 (y1 : Int), .int .i64 (y2 : Int)]) (.agg #[.int .i64 (x.1 : Int), .int .i64 (x.2 : Int)])).run Tryd.prog W = .ok true W := fun W => by have := eqOutV (y1, y2) x W; rwa [decide_eq_true heq] at this
        have HQ := Lib.hid heq
        clear heq
        have HR := Lib.hid R
        clear R
        go_wp2
        have R := HR.out
        have RS := (R.res.set0 (.int .i64 (x.1 : Int))).set1 (.int .i64 (x.2 : Int))
        obtain ⟨s0, s1, _, _⟩ := RS.cells
        have RB := (R.below.setCell (p := ⟨w.heap.size, 0, none⟩) (by simp) (.int .i64 (x.1 : Int))).setCell (p := ⟨w.heap.size, 1, none⟩) (by simp) (.int .i64 (x.2 : Int))
        have hfin : x = iter (stepL r) 18 (m, 0) := by
          have hst := HS.out.1
          rw [HQ.out] at hst
          rw [HX.out] at hst ⊢
          exact fix_end hr ⟨hm, (show (0 : Nat) < 512 by decide)⟩ hst
        rw [← hfin]
        clear q0 q1 q2 q3 o0 o1 o2 o3 n0 n1 hE
        exact bodyPost_ret (v := outV x) (by simp [results, Tryd.results124, outV, go_sem, s0, s1]) rfl ⟨rfl, RB⟩
      · have hE : ∀ W, (Op.equalIn 10000 61 (.agg #[.int .i64 (y1 : Int), .int .i64 (y2 : Int)]) (.agg #[.int .i64 (x.1 : Int), .int .i64 (x.2 : Int)])).run Tryd.prog W = .ok false W := fun W => by have := eqOutV (y1, y2) x W; rwa [decide_eq_false heq] at this
        have HQ := Lib.hid heq
        clear heq
        have HR := Lib.hid R
        clear R
        go_wp2
        go_roundw
        case rel =>
          have R := HR.out
          refine ⟨n + 1, (y1, y2), ?_, HS.out.2, (R.res.other (by omega) _ _).other (by omega) _ _, (R.old.set0 _).set1 _, (R.below.setCell (p := ⟨w.heap.size + 1, 0, none⟩) (by simp) _).setCell (p := ⟨w.heap.size + 1, 1, none⟩) (by simp) _⟩
          rw [iter_succ, ← HX.out]
          exact HS.out.1.symm
        case measure =>
          have R := HR.out
          rw [readOut_lies hX, readOut_lies (x := (y1, y2)) ((R.old.set0 _).set1 _)]
          have h1 := step_grows hr hx (by rw [HS.out.1]; exact HQ.out)
          rw [HS.out.1] at h1
          have h2 := cnt2_le (y1, y2)
          omega
    · have R := rnd_set hM (y1, y2) a1 a2 a3 (lt_cell y0)
      dsimp only at R
      generalize (W3.setCell ⟨W2.heap.size, 0, none⟩ (.int .i64 (y1 : Int))).setCell ⟨W2.heap.size, 1, none⟩ (.int .i64 (y2 : Int)) = Y at R ⊢
      clear hM
      generalize W2.heap.size = g at R ⊢
      clear hb2 hb3 a1 a2 a3 hG
      obtain ⟨n0, n1, _, _⟩ := R.new.cells
      obtain ⟨o0, o1, o2, o3⟩ := R.old.cells
      obtain ⟨q0, q1, q2, q3⟩ := R.res.cells
      by_cases heq : (y1, y2) = x
      · have hE : ∀ W, (Op.equalIn 10000 61 (.agg #[.int .i64 (y1 : Int), .int .i64 (y2 : Int)]) (.agg #[.int .i64 (x.1 : Int), .int .i64 (x.2 : Int)])).run Tryd.prog W = .ok true W := fun W => by have := eqOutV (y1, y2) x W; rwa [decide_eq_true heq] at this
        have HQ := Lib.hid heq
        clear heq
        have HR := Lib.hid R
        clear R
        go_wp2
        have R := HR.out
        have RS := (R.res.set0 (.int .i64 (x.1 : Int))).set1 (.int .i64 (x.2 : Int))
        obtain ⟨s0, s1, _, _⟩ := RS.cells
        have RB := (R.below.setCell (p := ⟨w.heap.size, 0, none⟩) (by simp) (.int .i64 (x.1 : Int))).setCell (p := ⟨w.heap.size, 1, none⟩) (by simp) (.int .i64 (x.2 : Int))
        have hfin : x = iter (stepL r) 18 (m, 0) := by
          have hst := HS.out.1
          rw [HQ.out] at hst
          rw [HX.out] at hst ⊢
          exact fix_end hr ⟨hm, (show (0 : Nat) < 512 by decide)⟩ hst
        rw [← hfin]
        clear q0 q1 q2 q3 o0 o1 o2 o3 n0 n1 hE
        exact bodyPost_ret (v := outV x) (by simp [results, Tryd.results124, outV, go_sem, s0, s1]) rfl ⟨rfl, RB⟩
      · have hE : ∀ W, (Op.equalIn 10000 61 (.agg #[.int .i64 (y1 : Int), .int .i64 (y2 : Int)]) (.agg #[.int .i64 (x.1 : Int), .int .i64 (x.2 : Int)])).run Tryd.prog W = .ok false W := fun W => by have := eqOutV (y1, y2) x W; rwa [decide_eq_false heq] at this
        have HQ := Lib.hid heq
        clear heq
        have HR := Lib.hid R
        clear R
        go_wp2
        go_roundw
        case rel =>
          have R := HR.out
          refine ⟨n + 1, (y1, y2), ?_, HS.out.2, (R.res.other (by omega) _ _).other (by omega) _ _, (R.old.set0 _).set1 _, (R.below.setCell (p := ⟨w.heap.size + 1, 0, none⟩) (by simp) _).setCell (p := ⟨w.heap.size + 1, 1, none⟩) (by simp) _⟩
          rw [iter_succ, ← HX.out]
          exact HS.out.1.symm
        case measure =>
          have R := HR.out
          rw [readOut_lies hX, readOut_lies (x := (y1, y2)) ((R.old.set0 _).set1 _)]
          have h1 := step_grows hr hx (by rw [HS.out.1]; exact HQ.out)
          rw [HS.out.1] at h1
          have h2 := cnt2_le (y1, y2)
          omega
    · have R := rnd_set hM (y1, y2) a1 a2 a3 (lt_cell x0)
      dsimp only at R
      generalize (W3.setCell ⟨wr.heap.size, 0, none⟩ (.int .i64 (y1 : Int))).setCell ⟨wr.heap.size, 1, none⟩ (.int .i64 (y2 : Int)) = Y at R ⊢
      clear hM
      generalize wr.heap.size = g at R ⊢
      clear hb2 hb3 a1 a2 a3 hG
      obtain ⟨n0, n1, _, _⟩ := R.new.cells
      obtain ⟨o0, o1, o2, o3⟩ := R.old.cells
      obtain ⟨q0, q1, q2, q3⟩ := R.res.cells
      by_cases heq : (y1, y2) = x
      · have hE : ∀ W, (Op.equalIn 10000 61 (.agg #[.int .i64 (y1 : Int), .int .i64 (y2 : Int)]) (.agg #[.int .i64 (x.1 : Int), .int .i64 (x.2 : Int)])).run Tryd.prog W = .ok true W := fun W => by have := eqOutV (y1, y2) x W; rwa [decide_eq_true heq] at this
        have HQ := Lib.hid heq
        clear heq
        have HR := Lib.hid R
        clear R
        go_wp2
        have R := HR.out
        have RS := (R.res.set0 (.int .i64 (x.1 : Int))).set1 (.int .i64 (x.2 : Int))
        obtain ⟨s0, s1, _, _⟩ := RS.cells
        have RB := (R.below.setCell (p := ⟨w.heap.size, 0, none⟩) (by simp) (.int .i64 (x.1 : Int))).setCell (p := ⟨w.heap.size, 1, none⟩) (by simp) (.int .i64 (x.2 : Int))
        have hfin : x = iter (stepL r) 18 (m, 0) := by
          have hst := HS.out.1
          rw [HQ.out] at hst
          rw [HX.out] at hst ⊢
          exact fix_end hr ⟨hm, (show (0 : Nat) < 512 by decide)⟩ hst
        rw [← hfin]
        clear q0 q1 q2 q3 o0 o1 o2 o3 n0 n1 hE
        exact bodyPost_ret (v := outV x) (by simp [results, Tryd.results124, outV, go_sem, s0, s1]) rfl ⟨rfl, RB⟩
      · have hE : ∀ W, (Op.equalIn 10000 61 (.agg #[.int .i64 (y1 : Int), .int .i64 (y2 : Int)]) (.agg #[.int .i64 (x.1 : Int), .int .i64 (x.2 : Int)])).run Tryd.prog W = .ok false W := fun W => by have := eqOutV (y1, y2) x W; rwa [decide_eq_false heq] at this
        have HQ := Lib.hid heq
        clear heq
        have HR := Lib.hid R
        clear R
        go_wp2
        go_roundw
        case rel =>
          have R := HR.out
          refine ⟨n + 1, (y1, y2), ?_, HS.out.2, (R.res.other (by omega) _ _).other (by omega) _ _, (R.old.set0 _).set1 _, (R.below.setCell (p := ⟨w.heap.size + 1, 0, none⟩) (by simp) _).setCell (p := ⟨w.heap.size + 1, 1, none⟩) (by simp) _⟩
          rw [iter_succ, ← HX.out]
          exact HS.out.1.symm
        case measure =>
          have R := HR.out
          rw [readOut_lies hX, readOut_lies (x := (y1, y2)) ((R.old.set0 _).set1 _)]
          have h1 := step_grows hr hx (by rw [HS.out.1]; exact HQ.out)
          rw [HS.out.1] at h1
          have h2 := cnt2_le (y1, y2)
          omega
end Go.Proofs.YtgkgkaapjljpcaaDoor

