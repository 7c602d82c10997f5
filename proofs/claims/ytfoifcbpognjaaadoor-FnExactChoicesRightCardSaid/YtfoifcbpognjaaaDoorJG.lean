/- Chapter 10, the model: an atom of a run that takes a choice. -/
import Derived.Test.YtfoifcbpognjaaaDoorJF
namespace Go.Proofs.YtfoifcbpognjaaaDoor
open Go.ChangeShapes Go.WideShapes Go.ChangeAt Go.RowKit Go.Shelf
attribute [local go_sem] Oper.semAt_some
attribute [local go_sem ↓ 10000] held10
set_option maxRecDepth 100000

set_option maxHeartbeats 2000000 in
theorem atom_r_any {cs : List UInt8} {t : ByteArray} {m n x0 k : Nat} {f f0 f1 f2 : Fin 9} {c : UInt8} {W : World} {rb B : Nat} {r : R10} {tv : Value} (hn : r.st = n) (hn8 : (n : Int) ≤ 8) (hsh : wrap64 (2 ^ n) = (m : Int)) (hx0 : ((x0 : Int) == 0) = false) (hq1 : (t.toList == [33]) = false) (hq2 : ((t.extract 1 t.size).toList == [63]) = true) (hz1 : (1 : Int) ≤ (t.size : Int))
    (HA : ∀ w, Calls Tryd.prog 37 #[.string t, .int .i64 (m : Int)] w fun e w' => e = .returned (outV (x0, 0)) ∧ Below w.heap.size w w') (hst : r.stuck = false) (hl : upTo (x0 : Int) 9 = [f0, f1, f2])
    (hcs : cs.length ≤ 9000000) (hp : r.pos ≤ cs.length) (htk : took cs [48, 49, 50] r = (⟨r.pos + 1, r.st, r.err, r.stuck, r.tr⟩, c)) (hc3 : (c = 48 ∧ k = 0) ∨ (c = 49 ∧ k = 1) ∨ (c = 50 ∧ k = 2)) (hk : [f0, f1, f2][k]? = some f)
    (hR : RnAt W rb ⟨cs.toArray⟩ r tv) (hI : IRow W B tv r.tr) (hB : B ≤ W.heap.size) (hlen : r.tr.length ≤ 1000000) :
    Calls Tryd.prog 28 #[.pointer (some ⟨rb, 0, none⟩), .string t] W (Ran cs rb B tv.ownBlock ((⟨r.pos + 1, r.st, r.err, r.stuck, r.tr⟩ : R10).goto f.val) W) := by
  have n0 : (0 : Int) ≤ (n : Int) := by omega
  unfold outV at HA
  have HS := st35 (x0 : Int)
  rw [hl] at HS
  obtain ⟨c0, c1, c2, c3, c4, c5⟩ := hR.cells
  rw [hn] at c2
  rcases hc3 with ⟨rfl, rfl⟩ | ⟨rfl, rfl⟩ | ⟨rfl, rfl⟩ <;>
  · go_enter Tryd.func28, Tryd.ntmps28
    go_wp2_with fail
    go_at_call 37
    refine (HA _).mono ?_
    rintro e W1 ⟨rfl, b1⟩
    have hR1 := hR.kept b1
    have hI1 := hI.below b1
    have A2 : Below W1.heap.size W1 (W1.alloc (.cells #[.int .i64 (x0 : Int), .int .i64 0] 80)) := (Below.refl _ _).alloc (Nat.le_refl _) _
    have L2 := Lies.new W1 #[.int .i64 (x0 : Int), .int .i64 0] 80
    have hR2 := hR1.kept A2
    have hI2 := hI1.below A2
    have HF2 := Lib.hid ((foot_below rb tv.ownBlock (b1.trans (A2.mono b1.size))))
    have hrlt := hR1.lt
    have HT := mtake cs [48, 49, 50] hcs (by decide) rb r tv hp _ hR2
    rw [htk] at HT
    clear c0 c1 c2 c3 c4 c5
    go_wp2_with fail
    generalize (W1.alloc (.cells #[.int .i64 (x0 : Int), .int .i64 0] 80)) = W2 at *
    go_at_call 29
    refine HT.mono ?_
    rintro e W2' ⟨rfl, hR2', hG2⟩
    have hI2' := hI2.kept hG2 (.inr (hR2.apart hI2))
    have L3 := L2.kept hG2 (by simp; omega)
    obtain ⟨o0, o1, _, _⟩ := L3.cells
    obtain ⟨a0, a1, a2, a3, a4, a5⟩ := hR2'.cells
    rw [hst] at a4
    have HF2' := Lib.hid (HF2.out.trans (foot_grown tv.ownBlock hG2))
    go_wp2_with fail
    go_at_call 38
    refine (HS _).mono ?_
    rintro e W3 ⟨v, rfl, ho, b3⟩
    obtain ⟨a, cap, rfl, hcs9⟩ := holds_at ho
    obtain ⟨g, rfl, hg1, hg2, hgc⟩ := hcs9 _ f hk
    have hR3 := hR2'.kept b3
    have hI3 := hI2'.below b3
    have hlt := hR2'.lt
    have hgr : g ≠ rb := by omega
    have hR4 := hR3.set2 f.val
    have hI4 := hI3.kept (W' := W3.setCell ⟨rb, 2, none⟩ (.int .i64 (f.val : Int))) (row := some rb) ⟨rfl, rfl, rfl, by simp [World.setCell], fun k _ hk => Below.heap_setCell _ _ _ _ (fun e => hk (by simp [e]))⟩ (.inr (hR3.apart hI3))
    have HF4 := Lib.hid ((HF2'.out.trans (foot_below rb tv.ownBlock b3)).trans (foot_set rb 2 tv.ownBlock W3 (.int .i64 (f.val : Int))))
    have HB4 := Lib.hid (show B ≤ (W3.setCell ⟨rb, 2, none⟩ (.int .i64 (f.val : Int))).heap.size by have := HF4.out.size; omega)
    obtain ⟨d0, d1, d2, d3, d4, d5⟩ := hR3.cells
    obtain ⟨e1, e2, e3, e4, e5⟩ := hR3.frozen
    obtain ⟨g0, g1, g2, g3, g4, g5⟩ := hR4.cells
    obtain ⟨k1, k2, k3, k4, k5⟩ := hR4.frozen
    simp only [hst] at d4 g4
    clear a0 a1 a2 a3 a4 a5 hcs9 ho hg1 hg2 hlt o0 o1 L3 L2
    go_wp2_with fail
    clear hgc d0 d1 d2 d3 d4 d5 e1 e2 e3 e4 e5
    generalize (W3.setCell ⟨rb, 2, none⟩ (.int .i64 (f.val : Int))) = W4 at *
    generalize hfn : f.val = n4 at *
    obtain ⟨v', w1, hr, hq, hq5, hqI, hqF⟩ := tr_app (W := W4.drew) hR4 hI4 hlen HB4.out n4
    obtain ⟨oa, oc, hv'⟩ := hqI.sl
    rw [show (r.tr ++ [(n4 : Int)]).length = r.tr.length + 1 by simp] at hv'
    subst hv'
    obtain ⟨p0, p1, p2, p3, p4, p5⟩ := hq.cells
    obtain ⟨l1, l2, l3, l4, l5⟩ := hq.frozen
    obtain ⟨ta, tc, ht⟩ := hI4.sl
    subst ht
    have hr2 : (heldApp10 #[25, 25] 25 #[.slice ta r.tr.length tc, .slice (some ⟨W4.heap.size, 0, none⟩) 1 1]).run Tryd.prog (W4.alloc (.cells #[.int .i64 (n4 : Int)] 3)).drew = .ok (.slice oa (r.tr.length + 1) oc) w1 := hr
    have A4 : Below W4.heap.size W4 (W4.alloc (.cells #[.int .i64 (n4 : Int)] 3)) := (Below.refl _ _).alloc (Nat.le_refl _) _
    obtain ⟨s0, s1, s2, s3, s4, s5⟩ := (hR4.kept A4).cells
    clear hr hR hI hR1 hI1 hR2 hI2 hR3 hI3 HF2 HF2' hI2' hR2' HT
    go_region_law (refine step_app_run rfl (.tmp 65) (.tmp 70) 25 rfl (by first | rfl | simp [Act.eval, Act.put]) (by first | rfl | simp [Act.eval, Act.put]) hr2 ?_)
    all_goals
      go_end0
      exact ⟨rfl, _, hq5, hqI, (HF4.out.trans (foot_below rb _ (Below.refl _ W4).drew)).trans hqF⟩
end Go.Proofs.YtfoifcbpognjaaaDoor

