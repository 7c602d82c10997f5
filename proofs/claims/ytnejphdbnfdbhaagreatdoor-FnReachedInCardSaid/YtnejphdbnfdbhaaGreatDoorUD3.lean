/- The visitor's choices. -/
import Derived.Test.YtnejphdbnfdbhaaGreatDoorUD0
namespace Go.Proofs.YtnejphdbnfdbhaaGreatDoor
open Go.ChangeShapes Go.WideShapes Go.ChangeAt Go.RowKit Go.Shelf
attribute [local go_sem] Oper.semAt_some
set_option maxRecDepth 100000

set_option maxHeartbeats 4000000 in
theorem b_choice (T : Nat) (p q : Node) (hp : p.ok) (hq : q.ok) (HP : Visits T p) (HQ : Visits T q) (b : Nat) (x : Nat × Nat) (W : World) (hx : Small x) (hB : Box W b T x) :
    Calls Tryz.prog 159 #[.pointer (some ⟨b, 0, none⟩), .agg #[.iface (nodeT p) (nodeX p), .iface (nodeT q) (nodeX q)]] W (Left W b T (aft T (.pair 124 p q) x)) := by
  have hy := aft_small (T := T) hp hx
  have H1 := HP b x
  have e1 : aft T (.pair 124 p q) x = both2 (aft T q (x.1, (aft T p x).2)) (aft T p x) := by
    unfold aft
    rw [runT_choice]
    unfold both2
    refine Prod.ext (Nat.or_comm _ _) ?_
    simp only
    apply Nat.eq_of_testBit_eq
    intro i
    simp only [Nat.testBit_or]
    cases x.2.testBit i <;> cases (runT T p x.1).2.testBit i <;> cases (runT T q x.1).2.testBit i <;> rfl
  rw [e1]
  generalize aft T p x = y at H1 hy ⊢
  have H2 := HQ b (x.1, y.2)
  have hz := aft_small (T := T) hq (x := (x.1, y.2)) ⟨hx.1, hy.2⟩
  generalize aft T q (x.1, y.2) = z at H2 hz ⊢
  rw [nodeV_eq p hp] at H1
  rw [nodeV_eq q hq] at H2
  have L0 := Lies.new W #[.iface (nodeT p) (nodeX p), .iface (nodeT q) (nodeX q)] 122
  have hB1 := hB.alloc (.cells #[.iface (nodeT p) (nodeX p), .iface (nodeT q) (nodeX q)] 122)
  have G1 := left_none (b := b) (World.grownBy_alloc W (.cells #[.iface (nodeT p) (nodeX p), .iface (nodeT q) (nodeX q)] 122) none)
  have hne : b ≠ W.heap.size := Nat.ne_of_lt hB.lt
  obtain ⟨c0, c1, c2, f1, f2⟩ := hB1.cells
  go_enter Tryz.func159, Tryz.ntmps159
  go_wp2_with fail
  refine (H1 _ hx hB1).mono ?_
  rintro e W1 ⟨rfl, hB2, G2⟩
  have L1 := L0.kept G2 (by simp; exact fun h => hne h.symm)
  clear c0 c1 c2 f1 f2
  obtain ⟨c0, c1, c2, f1, f2⟩ := hB2.cells
  have hbs : b < W1.heap.size := hB2.lt
  have LV := (L1.other (fun h => hne h.symm) 1 (.int .i64 (x.1 : Int))).alloc (.cells #[.int .i64 (y.1 : Int), .int .i64 (y.2 : Int)] 64)
  have LL := Lies.new (W1.setCell ⟨b, 1, none⟩ (.int .i64 (x.1 : Int))) #[.int .i64 (y.1 : Int), .int .i64 (y.2 : Int)] 64
  rw [show (W1.setCell ⟨b, 1, none⟩ (.int .i64 (x.1 : Int))).heap.size = W1.heap.size by simp] at LL
  have BV := (hB2.set1 x.1).alloc (.cells #[.int .i64 (y.1 : Int), .int .i64 (y.2 : Int)] 64)
  have GV := World_grown_alloc (grown_set (below_self_grown W1 (some b)) (o := 1) (.int .i64 (x.1 : Int))) (.cells #[.int .i64 (y.1 : Int), .int .i64 (y.2 : Int)] 64)
  obtain ⟨_, l1, _, _⟩ := LV.cells
  go_wp2_with fail
  refine (H2 _ ⟨hx.1, hy.2⟩ BV).mono ?_
  rintro e W2 ⟨rfl, hB3, G3⟩
  have LL2 := LL.kept G3 (by simp; exact fun h => absurd h (Nat.ne_of_gt hbs))
  clear c0 c1 c2 f1 f2 l1
  obtain ⟨c0, c1, c2, f1, f2⟩ := hB3.cells
  obtain ⟨n0, n1, n2, n3⟩ := LL2.cells
  have GG := left_trans (left_trans (left_trans G1 G2) GV) G3
  clear hB1 hB2 L0 L1 LV LL BV GV G1 G2 G3 H1 H2
  generalize W1.heap.size = g at n0 n1 n2 n3 LL2 hbs ⊢
  go_wp2_with fail
  go_region_with (go_at_call 75; refine (with44x z y hz hy _).mono ?_; rintro e W3 ⟨rfl, hb3⟩; have hB4 := hB3.drew.below hb3; obtain ⟨d0, d1, d2, g1, g2⟩ := hB4.cells)
  all_goals go_wp2_with fail
  all_goals
    obtain ⟨RB, RG⟩ := left_put hB4 (left_trans GG (left_none (grown_trans_b (drewG (below_self_grown W2 none)) hb3))) (z.1 ||| y.1) (z.2 ||| y.2)
    go_end0
    exact ⟨rfl, RB, RG⟩
end Go.Proofs.YtnejphdbnfdbhaaGreatDoor

