/- The model's running: loops; whatever program. -/
import Derived.Test.YtgkgkaapjljpcaaDoorM4
namespace Go.Proofs.YtgkgkaapjljpcaaDoor
open Go.ChangeShapes Go.WideShapes Go.ChangeAt Go.RowKit Go.Shelf
attribute [local go_sem] Oper.semAt_some
set_option maxRecDepth 100000

/-- In a round of the model's loop: the new outcome, the old one, the result's place, the program's variable. -/
structure Tail (W Y : World) (g11 : Nat) (x z : Nat × Nat) (box : Array Value) : Prop where
  new : Lies Y g11 #[.int .i64 (z.1 : Int), .int .i64 (z.2 : Int)] 56
  old : Lies Y (W.heap.size + 1 + 1) #[.int .i64 (x.1 : Int), .int .i64 (x.2 : Int)] 56
  res : Lies Y (W.heap.size + 1) #[.int .i64 0, .int .i64 0] 56
  box : Lies Y W.heap.size box 52
  below : Below W.heap.size W Y
  apart : W.heap.size + 1 + 1 < g11
theorem tail_new {W Y : World} {g10 : Nat} {x y z : Nat × Nat} {box : Array Value} (R : Seq2 W Y g10 (W.heap.size + 1 + 1) x y) (B : Lies Y W.heap.size box 52) :
    Tail W (Y.alloc (.cells #[.int .i64 (z.1 : Int), .int .i64 (z.2 : Int)] 56)) Y.heap.size x z box :=
  ⟨Lies.new _ _ _, R.old.alloc _, R.res.alloc _, B.alloc _, R.below.alloc R.below.size _, R.old.lt⟩

set_option maxHeartbeats 8000000 in
theorem mrun_loop (p : Node) (hp : p.ok) (IH : MRuns p) : MRuns (.loop p) := by
  intro W lo hi k s ad n cap m h hhi hm
  obtain ⟨rfl, rfl, rfl, g, rfl, hg1, hg2, k1, s1, ad1, n1, cap1, c0, c1, c2, hnp⟩ := h
  have hr := run_small hp
  have H1 := fun W' j hj h h2 => IH W' lo hi k1 s1 ad1 n1 cap1 j h h2 hj
  rw [run_loop]
  generalize runR p = r at H1 hr ⊢
  have hgW : g < W.heap.size := Nat.lt_of_lt_of_le hg2 hhi
  have hA : Below W.heap.size W (((W.alloc (.cells #[.int .u8 123, .string ⟨#[]⟩, .slice (some ⟨g, 0, none⟩) 1 cap] 52)).alloc (.cells #[.int .i64 0, .int .i64 0] 56)).alloc (.cells #[.int .i64 (m : Int), .int .i64 0] 56)) := (((Below.refl _ W).alloc (Nat.le_refl _) _).alloc (by simp) _).alloc (by simp; omega) _
  have B0 : Lies ((W.alloc (.cells #[.int .u8 123, .string ⟨#[]⟩, .slice (some ⟨g, 0, none⟩) 1 cap] 52)).alloc (.cells #[.int .i64 0, .int .i64 0] 56)) W.heap.size #[.int .u8 123, .string ⟨#[]⟩, .slice (some ⟨g, 0, none⟩) 1 cap] 52 := (Lies.new W _ _).alloc _
  have B1 := B0.alloc (.cells #[.int .i64 (m : Int), .int .i64 0] 56)
  have L1 := (lies_new2 W (.cells #[.int .u8 123, .string ⟨#[]⟩, .slice (some ⟨g, 0, none⟩) 1 cap] 52) #[.int .i64 0, .int .i64 0] 56).alloc (.cells #[.int .i64 (m : Int), .int .i64 0] 56)
  have X1 := lies_new2 (W.alloc (.cells #[.int .u8 123, .string ⟨#[]⟩, .slice (some ⟨g, 0, none⟩) 1 cap] 52)) (.cells #[.int .i64 0, .int .i64 0] 56) #[.int .i64 (m : Int), .int .i64 0] 56
  rw [World.size_alloc] at X1
  go_enter Tryd.func43, Tryd.ntmps43
  go_wp2_with fail
  have Lst := (And.intro B1 (And.intro L1 (And.intro X1 hA)))
  clear B0 B1 L1 X1 hA
  go_loopw [] (fun wr => ∃ j x, x = iter (stepL r) j (m, 0) ∧ Small x ∧ Lies wr W.heap.size #[.int .u8 123, .string ⟨#[]⟩, .slice (some ⟨g, 0, none⟩) 1 cap] 52 ∧ Lies wr (W.heap.size + 1) #[.int .i64 0, .int .i64 0] 56 ∧ Lies wr (W.heap.size + 1 + 1) (cells2 x) 56 ∧ Below W.heap.size W wr) (fun wr => 18 - cnt2 (readOut wr (W.heap.size + 1 + 1)))
  case atStart => exact ⟨0, (m, 0), rfl, ⟨hm, show (0 : Nat) < 512 by decide⟩, Lst.1, Lst.2.1, Lst.2.2.1, Lst.2.2.2⟩
  case round =>
    obtain ⟨j, x, hxe, hx, hBX, hZ, hX, hB⟩ := hrel
    have HX := Lib.hid hxe
    clear hxe Lst
    have S1 : _ ∧ _ ∧ _ ∧ _ ∧ _ := ⟨hBX.third, (hB.cell (p := ⟨g, 0, none⟩) hgW).trans c0, (hB.cell (p := ⟨g, 1, none⟩) hgW).trans c1, (hB.cell (p := ⟨g, 2, none⟩) hgW).trans c2, (Lies.cells (x := .int .i64 (x.1 : Int)) (y := .int .i64 (x.2 : Int)) hX).1⟩
    obtain ⟨a1, a2, a3, a4, a5⟩ := S1
    have S1 := And.intro a1 (And.intro a2 (And.intro a3 (And.intro a4 a5)))
    have NQ1 := hnp.below hB hhi
    have hh1 : hi ≤ wr.heap.size := Nat.le_trans hhi hB.size
    have NQa := NQ1.below ((Below.refl _ wr).alloc (Nat.le_refl _) (.cells #[.int .i64 0, .int .i64 0] 56)) hh1
    have hha : hi ≤ (wr.alloc (.cells #[.int .i64 0, .int .i64 0] 56)).heap.size := Nat.le_trans hh1 (by simp)
    have HN := Lib.hid (And.intro (And.intro NQ1 hh1) (And.intro NQa hha))
    clear NQ1 hh1 NQa hha
    have HH := fun W' h h2 => H1 W' x.1 hx.1 h h2
    obtain ⟨y, hy⟩ : ∃ y, y = r x.1 := ⟨_, rfl⟩
    rw [← hy] at HH
    have HY := Lib.hid hy
    clear hy
    have HL := Lib.hid (And.intro hBX (And.intro hZ hX))
    clear hBX hZ hX
    go_wp2_with fail
    go_region_held3 (fun w' => w'.cell? ⟨W.heap.size, 2, none⟩ = some (.slice (some ⟨g, 0, none⟩) 1 cap) ∧ w'.cell? ⟨g, 0, none⟩ = some (.int .u8 k1) ∧ w'.cell? ⟨g, 1, none⟩ = some (.string s1) ∧ w'.cell? ⟨g, 2, none⟩ = some (.slice ad1 n1 cap1) ∧ w'.cell? ⟨W.heap.size + 1 + 1, 0, none⟩ = some (.int .i64 (x.1 : Int)))
      (first | exact S1 | exact S2 | exact five_g (World.grownBy_alloc _ _ none) S1 | exact five_g (World.grownBy_alloc _ _ none) S2 | exact five_set S1 S2 | go_keep)
      (first
        | (go_at_call 43; refine (HH _ ?_ ?_).mono ?_; exact HN.out.1.1.drew; exact HN.out.1.2; rintro e W2 ⟨rfl, hb2⟩; have G2 := grown_trans_b (drewG (below_self_grown wr none)) hb2; have S2 := five_g G2 S1)
        | (go_at_call 43; refine (HH _ ?_ ?_).mono ?_; exact HN.out.2.1.drew; exact HN.out.2.2; rintro e W2 ⟨rfl, hb2⟩; have G2 := grown_trans_b (drewG (World.grownBy_alloc wr (.cells #[.int .i64 0, .int .i64 0] 56) none)) hb2; have S2 := five_g G2 S1; have hN := lies_kept hb2 (Lies.new wr #[.int .i64 0, .int .i64 0] 56); obtain ⟨n0, n1, n2, n3⟩ := hN.cells))
    all_goals
      have X2 := HL.out.2.2.kept G2 (by simp)
      have Z2 := HL.out.2.1.kept G2 (by simp)
      have B2 := HL.out.1.kept G2 (by simp)
      have hB2 : Below W.heap.size W W2 := hB.grown G2 hB.size (fun i e => by cases e)
    · have R := seq_new (x := x) (y := y) X2 Z2 hB2
      have BX := B2.alloc (.cells #[.int .i64 (y.1 : Int), .int .i64 (y.2 : Int)] 56)
      clear G2 hb2 S1 S2 X2 Z2 B2 hB2 a1 a2 a3 a4 a5
      generalize W2.alloc (.cells #[.int .i64 (y.1 : Int), .int .i64 (y.2 : Int)] 56) = Y at R BX ⊢
      generalize W2.heap.size = g10 at R ⊢
      have hS := step_lt hr hx
      have hst : stepL r x = (x.1 ||| y.1, x.2 ||| y.2) := by rw [HY.out]; rfl
      rw [hst] at hS
      have hrx : Small y := by rw [HY.out]; exact hr x.1 hx.1
      have hor1 := or_nat x.1 y.1 (by have := hx.1; omega) (by have := hrx.1; omega)
      have hor2 := or_nat x.2 y.2 (by have := hx.2; omega) (by have := hrx.2; omega)
      obtain ⟨x0, x1, _, _⟩ := R.old.cells
      obtain ⟨y0, y1, _, _⟩ := R.new.cells
      have HZ := Lib.hid (And.intro hst hS)
      clear hst hS hrx
      obtain ⟨z1, hz1⟩ : ∃ z1, z1 = x.1 ||| y.1 := ⟨_, rfl⟩
      obtain ⟨z2, hz2⟩ : ∃ z2, z2 = x.2 ||| y.2 := ⟨_, rfl⟩
      rw [← hz1, ← hz2] at HZ
      rw [← hz1] at hor1
      rw [← hz2] at hor2
      clear hz1 hz2
      have T := tail_new (z := (z1, z2)) R BX
      dsimp only at T
      have T' := Lib.hid T
      obtain ⟨t0, t1, _, _⟩ := T.new.cells
      obtain ⟨v0, v1, v2, v3⟩ := T.old.cells
      obtain ⟨q0, q1, q2, q3⟩ := T.res.cells
      clear T R BX
      by_cases heq : (z1, z2) = x
      · have hE : ∀ W, (Op.equalIn 10000 56 (.agg #[.int .i64 (z1 : Int), .int .i64 (z2 : Int)]) (.agg #[.int .i64 (x.1 : Int), .int .i64 (x.2 : Int)])).run Tryd.prog W = .ok true W := fun W => by have := eqModV (z1, z2) x W; rwa [decide_eq_true heq] at this
        have HQ := Lib.hid heq
        clear heq
        have OUT := Lib.hid (run_out (x := x) T'.out.res (Nat.le_succ _) T'.out.below)
        go_wp2_with fail
        obtain ⟨RS, RB⟩ := OUT.out
        obtain ⟨s0, s1, _, _⟩ := RS.cells
        have hfin : x = iter (stepL r) 18 (m, 0) := by
          have hst := HZ.out.1
          rw [HQ.out] at hst
          rw [HX.out] at hst ⊢
          exact fix_end hr ⟨hm, show (0 : Nat) < 512 by decide⟩ hst
        clear q0 q1 q2 q3 v0 v1 v2 v3 t0 t1 x0 x1 y0 y1 hE
        exact bodyPost_ret (v := .agg #[.int .i64 (x.1 : Int), .int .i64 (x.2 : Int)]) (by simp [results, Tryd.results43, go_sem, s0, s1]) rfl ⟨by rw [← hfin], RB⟩
      · have hE : ∀ W, (Op.equalIn 10000 56 (.agg #[.int .i64 (z1 : Int), .int .i64 (z2 : Int)]) (.agg #[.int .i64 (x.1 : Int), .int .i64 (x.2 : Int)])).run Tryd.prog W = .ok false W := fun W => by have := eqModV (z1, z2) x W; rwa [decide_eq_false heq] at this
        have HQ := Lib.hid heq
        clear heq
        go_wp2_with fail
        go_roundw
        case rel =>
          have T := T'.out
          refine ⟨j + 1, (z1, z2), ?_, HZ.out.2, (T.box.other (by omega) _ _).other (by omega) _ _, (T.res.other (by omega) _ _).other (by omega) _ _, (T.old.set0 _).set1 _, (T.below.setCell (p := ⟨W.heap.size + 1 + 1, 0, none⟩) (by simp; omega) _).setCell (p := ⟨W.heap.size + 1 + 1, 1, none⟩) (by simp; omega) _⟩
          rw [iter_succ, ← HX.out]
          exact HZ.out.1.symm
        case measure =>
          have T := T'.out
          rw [readOut_lies HL.out.2.2, readOut_lies (x := (z1, z2)) ((T.old.set0 _).set1 _)]
          have h1 := step_grows hr hx (by rw [HZ.out.1]; exact HQ.out)
          rw [HZ.out.1] at h1
          have h2 := cnt2_le (z1, z2)
          omega
    · have R := seq_set (x := x) (y := y) hN X2 Z2 hB2 (Nat.ne_of_lt HL.out.2.2.lt) (Nat.ne_of_lt HL.out.2.1.lt) hB.size
      have BX := (B2.other (Nat.ne_of_lt HL.out.1.lt) 0 (.int .i64 (y.1 : Int))).other (Nat.ne_of_lt HL.out.1.lt) 1 (.int .i64 (y.2 : Int))
      clear G2 hb2 S1 S2 X2 Z2 B2 hB2 a1 a2 a3 a4 a5 hN n0 n1 n2 n3
      generalize (W2.setCell ⟨wr.heap.size, 0, none⟩ (.int .i64 (y.1 : Int))).setCell ⟨wr.heap.size, 1, none⟩ (.int .i64 (y.2 : Int)) = Y at R BX ⊢
      generalize wr.heap.size = g10 at R ⊢
      have hS := step_lt hr hx
      have hst : stepL r x = (x.1 ||| y.1, x.2 ||| y.2) := by rw [HY.out]; rfl
      rw [hst] at hS
      have hrx : Small y := by rw [HY.out]; exact hr x.1 hx.1
      have hor1 := or_nat x.1 y.1 (by have := hx.1; omega) (by have := hrx.1; omega)
      have hor2 := or_nat x.2 y.2 (by have := hx.2; omega) (by have := hrx.2; omega)
      obtain ⟨x0, x1, _, _⟩ := R.old.cells
      obtain ⟨y0, y1, _, _⟩ := R.new.cells
      have HZ := Lib.hid (And.intro hst hS)
      clear hst hS hrx
      obtain ⟨z1, hz1⟩ : ∃ z1, z1 = x.1 ||| y.1 := ⟨_, rfl⟩
      obtain ⟨z2, hz2⟩ : ∃ z2, z2 = x.2 ||| y.2 := ⟨_, rfl⟩
      rw [← hz1, ← hz2] at HZ
      rw [← hz1] at hor1
      rw [← hz2] at hor2
      clear hz1 hz2
      have T := tail_new (z := (z1, z2)) R BX
      dsimp only at T
      have T' := Lib.hid T
      obtain ⟨t0, t1, _, _⟩ := T.new.cells
      obtain ⟨v0, v1, v2, v3⟩ := T.old.cells
      obtain ⟨q0, q1, q2, q3⟩ := T.res.cells
      clear T R BX
      by_cases heq : (z1, z2) = x
      · have hE : ∀ W, (Op.equalIn 10000 56 (.agg #[.int .i64 (z1 : Int), .int .i64 (z2 : Int)]) (.agg #[.int .i64 (x.1 : Int), .int .i64 (x.2 : Int)])).run Tryd.prog W = .ok true W := fun W => by have := eqModV (z1, z2) x W; rwa [decide_eq_true heq] at this
        have HQ := Lib.hid heq
        clear heq
        have OUT := Lib.hid (run_out (x := x) T'.out.res (Nat.le_succ _) T'.out.below)
        go_wp2_with fail
        obtain ⟨RS, RB⟩ := OUT.out
        obtain ⟨s0, s1, _, _⟩ := RS.cells
        have hfin : x = iter (stepL r) 18 (m, 0) := by
          have hst := HZ.out.1
          rw [HQ.out] at hst
          rw [HX.out] at hst ⊢
          exact fix_end hr ⟨hm, show (0 : Nat) < 512 by decide⟩ hst
        clear q0 q1 q2 q3 v0 v1 v2 v3 t0 t1 x0 x1 y0 y1 hE
        exact bodyPost_ret (v := .agg #[.int .i64 (x.1 : Int), .int .i64 (x.2 : Int)]) (by simp [results, Tryd.results43, go_sem, s0, s1]) rfl ⟨by rw [← hfin], RB⟩
      · have hE : ∀ W, (Op.equalIn 10000 56 (.agg #[.int .i64 (z1 : Int), .int .i64 (z2 : Int)]) (.agg #[.int .i64 (x.1 : Int), .int .i64 (x.2 : Int)])).run Tryd.prog W = .ok false W := fun W => by have := eqModV (z1, z2) x W; rwa [decide_eq_false heq] at this
        have HQ := Lib.hid heq
        clear heq
        go_wp2_with fail
        go_roundw
        case rel =>
          have T := T'.out
          refine ⟨j + 1, (z1, z2), ?_, HZ.out.2, (T.box.other (by omega) _ _).other (by omega) _ _, (T.res.other (by omega) _ _).other (by omega) _ _, (T.old.set0 _).set1 _, (T.below.setCell (p := ⟨W.heap.size + 1 + 1, 0, none⟩) (by simp; omega) _).setCell (p := ⟨W.heap.size + 1 + 1, 1, none⟩) (by simp; omega) _⟩
          rw [iter_succ, ← HX.out]
          exact HZ.out.1.symm
        case measure =>
          have T := T'.out
          rw [readOut_lies HL.out.2.2, readOut_lies (x := (z1, z2)) ((T.old.set0 _).set1 _)]
          have h1 := step_grows hr hx (by rw [HZ.out.1]; exact HQ.out)
          rw [HZ.out.1] at h1
          have h2 := cnt2_le (z1, z2)
          omega

/-- **WHAT THE MODEL SAYS A PROGRAM REACHES FROM A SET.** -/
theorem mrun23 : ∀ (nd : Node), nd.ok → MRuns nd
  | .atom a, hok => mrun_atom a hok
  | .loop p, hok => mrun_loop p hok (mrun23 p hok)
  | .pair k p q, hok => by
    obtain ⟨rfl | rfl, hp, hq⟩ := hok
    · exact mrun_seq p q hp hq (mrun23 p hp) (mrun23 q hq)
    · exact mrun_choice p q hp hq (mrun23 p hp) (mrun23 q hq)
end Go.Proofs.YtgkgkaapjljpcaaDoor

