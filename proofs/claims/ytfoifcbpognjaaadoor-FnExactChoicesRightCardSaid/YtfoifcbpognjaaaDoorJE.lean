/- Chapter 10, the model: an atom of a run. -/
import Derived.Test.YtfoifcbpognjaaaDoorJD
import Derived.Test.YtfoifcbpognjaaaDoorM3
import Derived.Deep.RegionLaw
namespace Go.Proofs.YtfoifcbpognjaaaDoor
open Go.ChangeShapes Go.WideShapes Go.ChangeAt Go.RowKit Go.Shelf
attribute [local go_sem] Oper.semAt_some
attribute [local go_sem ↓ 10000] held10
set_option maxRecDepth 100000

/-- An append whose run is known, as one step of a region that draws. -/
theorem step_app_run {P : Program} {ops : Array Oper} {o : Oper} {a : Act} {w w' : World} {K : Act → World → Prop} {Q : Exit → Act → World → Prop} {E : Prop} {v' : Value}
    (hg : o.guard = none) (s x : Operand) (t : TypeId) (hop : o.op = Op.call { callee := Callee.builtin Builtin.append, args := #[s, x], argTypes := #[t, t] })
    {sv xv : Value} (hs : a.eval s = sv) (hx : a.eval x = xv) (hrun : (heldApp10 #[t, t] o.type #[sv, xv]).run P w = .ok v' w') (hK : K (a.put o.dst v') w') :
    if Region.wanted o (yielded ops a.tmps) = true then Oper.wp P o a w K Q else E := by
  have hw : Region.wanted o (yielded ops a.tmps) = true := by simp [Region.wanted, hg]
  rw [if_pos hw]
  unfold heldApp10 at hrun
  unfold Oper.wp
  simp [execOp, hop, resolve, invoke, builtin, hs, hx, hrun, Result.andThen]
  exact hK
theorem IRow.sl {W : World} {B : Nat} {v : Value} {zs : List Int} (h : IRow W B v zs) : ∃ a c, v = .slice a zs.length c := by
  rcases h.cases with ⟨rfl, rfl⟩ | ⟨g, cap, rfl, _⟩
  · exact ⟨_, _, rfl⟩
  · exact ⟨_, _, rfl⟩
theorem errI_t : errI true = 1 := rfl
/-- '!' fails in the state in which it stands. -/
theorem atom_r_bang {cs : List UInt8} {m n : Nat} {W : World} {rb B : Nat} {r : R10} {tv : Value} (hn : r.st = n) (hn8 : (n : Int) ≤ 8) (hsh : wrap64 (2 ^ n) = (m : Int)) (hst : r.stuck = false)
    (hR : RnAt W rb ⟨cs.toArray⟩ r tv) (hI : IRow W B tv r.tr) (hB : B ≤ W.heap.size) (hlen : r.tr.length ≤ 1000000) :
    Calls Tryd.prog 28 #[.pointer (some ⟨rb, 0, none⟩), .string ⟨#[33]⟩] W (Ran cs rb B tv.ownBlock (atom10 cs [33] r) W) := by
  have n0 : (0 : Int) ≤ (n : Int) := by omega
  have HA := fun w => atom_bang m w
  unfold outV at HA
  obtain ⟨c0, c1, c2, c3, c4, c5⟩ := hR.cells
  rw [hn] at c2
  go_enter Tryd.func28, Tryd.ntmps28
  go_wp2_with fail
  go_at_call 37
  refine (HA _).mono ?_
  rintro e W1 ⟨rfl, b1⟩
  have hR1 := hR.kept b1
  have hI1 := hI.below b1
  have A2 : Below W1.heap.size W1 (W1.alloc (.cells #[.int .i64 0, .int .i64 (m : Int)] 80)) := (Below.refl _ _).alloc (Nat.le_refl _) _
  have hR2 := hR1.kept A2
  have hI2 := hI1.below A2
  obtain ⟨a0, a1, a2, a3, a4, a5⟩ := hR2.cells
  obtain ⟨f1, f2, f3, f4, f5⟩ := hR2.frozen
  rw [hn] at a2
  rw [hst] at a4
  clear c0 c1 c2 c3 c4 c5
  have hR3 := hR2.set3 true
  rw [errI_t] at hR3
  have hI3 : IRow ((W1.alloc (.cells #[.int .i64 0, .int .i64 (m : Int)] 80)).setCell ⟨rb, 3, none⟩ (.int .i64 1)) B tv r.tr := hI2.kept (row := some rb) ⟨rfl, rfl, rfl, by simp [World.setCell], fun k _ hk => Below.heap_setCell _ _ _ _ (fun e => hk (by simp [e]))⟩ (.inr (hR2.apart hI2))
  have HF3 := Lib.hid ((foot_below rb tv.ownBlock (b1.trans (A2.mono b1.size))).trans (foot_set rb 3 tv.ownBlock _ (.int .i64 1)))
  have HB3 := Lib.hid (show B ≤ ((W1.alloc (.cells #[.int .i64 0, .int .i64 (m : Int)] 80)).setCell ⟨rb, 3, none⟩ (.int .i64 1)).heap.size by have := b1.size; simp [World.setCell]; omega)
  go_wp2_with fail
  generalize ((W1.alloc (.cells #[.int .i64 0, .int .i64 (m : Int)] 80)).setCell ⟨rb, 3, none⟩ (.int .i64 1)) = W3 at *
  obtain ⟨g0, g1, g2, g3, g4, g5⟩ := hR3.cells
  obtain ⟨k1, k2, k3, k4, k5⟩ := hR3.frozen
  clear a0 a1 a2 a3 a4 a5 f1 f2 f3 f4 f5
  obtain ⟨v', w1, hr, hq, hq5, hqI, hqF⟩ := tr_app (W := W3.drew) hR3 hI3 hlen HB3.out n
  obtain ⟨oa, oc, hv'⟩ := hqI.sl
  rw [show (r.tr ++ [(n : Int)]).length = r.tr.length + 1 by simp] at hv'
  subst hv'
  obtain ⟨p0, p1, p2, p3, p4, p5⟩ := hq.cells
  obtain ⟨l1, l2, l3, l4, l5⟩ := hq.frozen
  obtain ⟨ta, tc, ht⟩ := hI3.sl
  subst ht
  have hr2 : (heldApp10 #[25, 25] 25 #[.slice ta r.tr.length tc, .slice (some ⟨W3.heap.size, 0, none⟩) 1 1]).run Tryd.prog (W3.alloc (.cells #[.int .i64 (n : Int)] 3)).drew = .ok (.slice oa (r.tr.length + 1) oc) w1 := hr
  have A4 : Below W3.heap.size W3 (W3.alloc (.cells #[.int .i64 (n : Int)] 3)) := (Below.refl _ _).alloc (Nat.le_refl _) _
  obtain ⟨s0, s1, s2, s3, s4, s5⟩ := (hR3.kept A4).cells
  clear hr
  have e33 : atom10 cs [33] r = ⟨r.pos, r.st, true, r.stuck, r.tr ++ [(n : Int)]⟩ := by unfold atom10; rw [if_pos rfl, hn]
  rw [e33]
  clear e33
  go_region_law (refine step_app_run rfl (.tmp 65) (.tmp 70) 25 rfl (by first | rfl | simp [Act.eval, Act.put]) (by first | rfl | simp [Act.eval, Act.put]) hr2 ?_)
  all_goals
    go_end0
    exact ⟨rfl, _, hq5, hqI, (HF3.out.trans (foot_below rb _ (Below.refl _ W3).drew)).trans hqF⟩
end Go.Proofs.YtfoifcbpognjaaaDoor

