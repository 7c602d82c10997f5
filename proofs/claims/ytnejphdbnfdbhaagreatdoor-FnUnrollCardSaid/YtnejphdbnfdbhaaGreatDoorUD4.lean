/- The visitor's loops. -/
import Derived.Test.YtnejphdbnfdbhaaGreatDoorUD1
import Derived.Test.YtnejphdbnfdbhaaGreatDoorUD2
import Derived.Test.YtnejphdbnfdbhaaGreatDoorUD3
namespace Go.Proofs.YtnejphdbnfdbhaaGreatDoor
open Go.ChangeShapes Go.WideShapes Go.ChangeAt Go.RowKit Go.Shelf
attribute [local go_sem] Oper.semAt_some
set_option maxRecDepth 100000

theorem aft_step (T : Nat) (p : Node) (y : Nat × Nat) : both2 (aft T p y) y = stepL (runT T p) y := by
  unfold aft stepL both2
  refine Prod.ext (Nat.or_comm _ _) ?_
  simp only
  apply Nat.eq_of_testBit_eq
  intro i
  simp only [Nat.testBit_or]
  cases y.2.testBit i <;> cases (runT T p y.1).2.testBit i <;> rfl
theorem aft_loop (T : Nat) (p : Node) (x : Nat × Nat) : aft T (.loop p) x = iter (stepL (runT T p)) T x := by
  unfold aft
  rw [runT_loop]
  exact (iter_loop (runT T p) T x.1 x.2).symm

theorem one_cell {W : World} {b : Nat} {v : Value} {t : TypeId} (h : Lies W b #[v] t) : W.cell? ⟨b, 0, none⟩ = some v := by
  unfold Lies at h
  simp [World.cell?, h]
set_option maxHeartbeats 4000000 in
theorem b_loop (T : Nat) (hT : T ≤ 12) (p : Node) (hp : p.ok) (HP : Visits T p) (b : Nat) (x : Nat × Nat) (W : World) (hx : Small x) (hB : Box W b T x) :
    Calls Tryz.prog 160 #[.pointer (some ⟨b, 0, none⟩), .agg #[.iface (nodeT p) (nodeX p)]] W (Left W b T (aft T (.loop p) x)) := by
  rw [aft_loop]
  have L0 := Lies.new W #[.iface (nodeT p) (nodeX p)] 124
  have hB1 := hB.alloc (.cells #[.iface (nodeT p) (nodeX p)] 124)
  have G1 := left_none (b := b) (World.grownBy_alloc W (.cells #[.iface (nodeT p) (nodeX p)] 124) none)
  have hne : b ≠ W.heap.size := Nat.ne_of_lt hB.lt
  obtain ⟨c0, c1, c2, f1, f2⟩ := hB1.cells
  have hT0 : (0 : Int) ≤ (T : Int) := by omega
  have hT12 : (T : Int) ≤ 12 := by omega
  go_enter Tryz.func160, Tryz.ntmps160
  go_wp2_with fail
  go_loopw [9] (fun i wr => ∃ (j : Nat) (y : Nat × Nat), j ≤ T ∧ i = .int .i64 (j : Int) ∧ y = iter (stepL (runT T p)) j x ∧ Small y ∧ Box wr b T y ∧ Lies wr W.heap.size #[.iface (nodeT p) (nodeX p)] 124 ∧ W.grownBy wr (some b)) (fun i _ => T - (intOf i).toNat)
  case atStart => exact ⟨0, x, by omega, rfl, rfl, hx, hB1, L0, G1⟩
  case round =>
    obtain ⟨j, y, hj, rfl, hye, hy, hBy, hL, hG⟩ := hrel
    clear c0 c1 c2 f1 f2 hB1 L0 G1 hB
    have HY := Lib.hid hye
    clear hye
    by_cases hlt : j < T
    · have H1 := HP b y
      rw [nodeV_eq p hp] at H1
      have hz := aft_small (T := T) hp hy
      have hst := aft_step T p y
      generalize aft T p y = z at H1 hz hst
      obtain ⟨c0, c1, c2, f1, f2⟩ := hBy.cells
      have BV := hBy.alloc (.cells #[.int .i64 (y.1 : Int), .int .i64 (y.2 : Int)] 64)
      have LV := hL.alloc (.cells #[.int .i64 (y.1 : Int), .int .i64 (y.2 : Int)] 64)
      have LY := Lies.new wr #[.int .i64 (y.1 : Int), .int .i64 (y.2 : Int)] 64
      have l0 := one_cell LV
      have hgb : b < wr.heap.size := hBy.lt
      go_wp2_with fail
      refine (H1 _ hy BV).mono ?_
      rintro e W1 ⟨rfl, hB2, G2⟩
      have LL := LV.kept G2 (by simp; exact fun h => hne h.symm)
      have LB := LY.kept G2 (by simp; exact fun h => absurd h (Nat.ne_of_gt hgb))
      have GG := left_trans (World_grown_alloc hG (.cells #[.int .i64 (y.1 : Int), .int .i64 (y.2 : Int)] 64)) G2
      clear c0 c1 c2 f1 f2 BV LV LY l0 hBy hL hG G2 H1
      generalize wr.heap.size = g at LB hgb ⊢
      obtain ⟨c0, c1, c2, f1, f2⟩ := hB2.cells
      obtain ⟨n0, n1, n2, n3⟩ := LB.cells
      have hor : ((z.1 ||| y.1, z.2 ||| y.2) : Nat × Nat) = stepL (runT T p) y := hst
      have hs : Small (z.1 ||| y.1, z.2 ||| y.2) := hz.or hy
      go_wp2_with fail
      go_region_with (go_at_call 75; refine (with44x z y hz hy _).mono ?_; rintro e W3 ⟨rfl, hb3⟩; have hB4 := hB2.drew.below hb3; obtain ⟨d0, d1, d2, g1, g2⟩ := hB4.cells)
      all_goals
        have g3 := drewG (below_self_grown W1 none)
        have g4 := grown_trans_b g3 hb3
        obtain ⟨RB, RG⟩ := left_put hB4 (left_trans GG (left_none g4)) (z.1 ||| y.1) (z.2 ||| y.2)
        have LB2 := ((LB.kept g4 (by simp)).other (Nat.ne_of_gt hgb) 1 (.int .i64 ((z.1 ||| y.1 : Nat) : Int))).other (Nat.ne_of_gt hgb) 2 (.int .i64 ((z.2 ||| y.2 : Nat) : Int))
        have LL2 := ((LL.kept g4 (by simp)).other (fun h => hne h.symm) 1 (.int .i64 ((z.1 ||| y.1 : Nat) : Int))).other (fun h => hne h.symm) 2 (.int .i64 ((z.2 ||| y.2 : Nat) : Int))
        clear c0 c1 c2 f1 f2 n0 n1 n2 n3 d0 d1 d2 g1 g2 hB4 hb3 hB2 LB LL GG g3 g4
        obtain ⟨v1, hv1⟩ : ∃ v, v = z.1 ||| y.1 := ⟨_, rfl⟩
        obtain ⟨v2, hv2⟩ : ∃ v, v = z.2 ||| y.2 := ⟨_, rfl⟩
        rw [← hv1, ← hv2] at hor hs RB RG LB2 LL2 ⊢
        generalize (W3.setCell ⟨b, 1, none⟩ (.int .i64 (v1 : Int))).setCell ⟨b, 2, none⟩ (.int .i64 (v2 : Int)) = Y at RB RG LB2 LL2 ⊢
        clear hv1 hv2 hz hst
        obtain ⟨c0, c1, c2, f1, f2⟩ := RB.cells
        obtain ⟨n0, n1, n2, n3⟩ := LB2.cells
        by_cases heq : (v1, v2) = y
        · have hE : ∀ W, (Op.equalIn 10000 64 (.agg #[.int .i64 (v1 : Int), .int .i64 (v2 : Int)]) (.agg #[.int .i64 (y.1 : Int), .int .i64 (y.2 : Int)])).run Tryz.prog W = .ok true W := fun W => by have := eqOutV (v1, v2) y W; rwa [decide_eq_true heq] at this
          have HQ := Lib.hid heq
          clear heq
          go_wp2_with fail
          go_region
          all_goals go_wp2_with fail
          all_goals
            go_end0
            have hfin : iter (stepL (runT T p)) T x = (v1, v2) := by
              have e0 := iter_add (stepL (runT T p)) j (T - j) x
              have e1 : stepL (runT T p) y = y := by rw [← hor]; exact HQ.out
              rw [show j + (T - j) = T by omega, ← HY.out, iter_fix e1 (T - j)] at e0
              rw [e0]
              exact HQ.out.symm
            rw [hfin]
            exact ⟨rfl, RB, drewG RG⟩
        · have hE : ∀ W, (Op.equalIn 10000 64 (.agg #[.int .i64 (v1 : Int), .int .i64 (v2 : Int)]) (.agg #[.int .i64 (y.1 : Int), .int .i64 (y.2 : Int)])).run Tryz.prog W = .ok false W := fun W => by have := eqOutV (v1, v2) y W; rwa [decide_eq_false heq] at this
          clear heq
          go_wp2_with fail
          go_region
          all_goals go_wp2_with fail
          all_goals go_roundw
          case rel =>
            refine ⟨j + 1, (v1, v2), by omega, by go_num, ?_, hs, RB, LL2, drewG RG⟩
            rw [iter_succ, ← HY.out]
            exact hor
          case measure => simp [intOf]; omega
    · obtain rfl : j = T := by omega
      go_wp2_with fail
      go_end0
      rw [← HY.out]
      exact ⟨rfl, hBy, hG⟩
/-- **WHAT A VISIT MAKES OF A RUN.** -/
theorem bvisit (T : Nat) (hT : T ≤ 12) : ∀ nd : Node, nd.ok → Visits T nd
  | .atom a, hok => bvis_atom T a (fun b x W hx hB => b_atom T a hok b x W hx hB)
  | .loop p, hok => bvis_loop T p hok (fun b x W hx hB => b_loop T hT p hok (bvisit T hT p hok) b x W hx hB)
  | .pair c p q, hok => by
    obtain ⟨rfl | rfl, hp, hq⟩ := hok
    · exact bvis_seq T p q hp hq (bvisit T hT p hp) (bvisit T hT q hq)
    · exact bvis_choice T p q hp hq (fun b x W hx hB => b_choice T p q hp hq (bvisit T hT p hp) (bvisit T hT q hq) b x W hx hB)
end Go.Proofs.YtnejphdbnfdbhaaGreatDoor

