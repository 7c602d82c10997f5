/- Chapter 10, the model: an atom of a run that lacks a choice. -/
import Derived.Test.YtfoifcbpognjaaaDoorJF
namespace Go.Proofs.YtfoifcbpognjaaaDoor
open Go.ChangeShapes Go.WideShapes Go.ChangeAt Go.RowKit Go.Shelf
attribute [local go_sem] Oper.semAt_some
attribute [local go_sem ↓ 10000] held10
set_option maxRecDepth 100000

set_option maxHeartbeats 2000000 in
theorem atom_r_none {cs : List UInt8} {t : ByteArray} {m n x0 : Nat} {W : World} {rb B : Nat} {r : R10} {tv : Value} (hn : r.st = n) (hn8 : (n : Int) ≤ 8) (hsh : wrap64 (2 ^ n) = (m : Int)) (hx0 : ((x0 : Int) == 0) = false) (hq1 : (t.toList == [33]) = false) (hq2 : ((t.extract 1 t.size).toList == [63]) = true) (hz1 : (1 : Int) ≤ (t.size : Int))
    (HA : ∀ w, Calls Tryd.prog 37 #[.string t, .int .i64 (m : Int)] w fun e w' => e = .returned (outV (x0, 0)) ∧ Below w.heap.size w w')
    (hcs : cs.length ≤ 9000000) (hp : r.pos ≤ cs.length) (htk : took cs [48, 49, 50] r = (⟨r.pos, r.st, r.err, true, r.tr⟩, 0))
    (hR : RnAt W rb ⟨cs.toArray⟩ r tv) (hI : IRow W B tv r.tr) :
    Calls Tryd.prog 28 #[.pointer (some ⟨rb, 0, none⟩), .string t] W (Ran cs rb B tv.ownBlock ⟨r.pos, r.st, r.err, true, r.tr⟩ W) := by
  have n0 : (0 : Int) ≤ (n : Int) := by omega
  unfold outV at HA
  obtain ⟨c0, c1, c2, c3, c4, c5⟩ := hR.cells
  rw [hn] at c2
  · go_enter Tryd.func28, Tryd.ntmps28
    go_wp2_with fail
    go_at_call 37
    refine (HA _).mono ?_
    rintro e W1 ⟨rfl, b1⟩
    have hR1 := hR.kept b1
    have hI1 := hI.below b1
    have A2 : Below W1.heap.size W1 (W1.alloc (.cells #[.int .i64 (x0 : Int), .int .i64 0] 80)) := (Below.refl _ _).alloc (Nat.le_refl _) _
    have L2 := Lies.new W1 #[.int .i64 (x0 : Int), .int .i64 0] 80
    have hR2 := hR1.kept A2
    have hI2 := hI1.below A2
    have HF2 := Lib.hid ((foot_below rb tv.ownBlock (b1.trans (A2.mono b1.size))))
    have hrlt := hR1.lt
    have HT := mtake cs [48, 49, 50] hcs (by decide) rb r tv hp _ hR2
    rw [htk] at HT
    clear c0 c1 c2 c3 c4 c5
    go_wp2_with fail
    generalize (W1.alloc (.cells #[.int .i64 (x0 : Int), .int .i64 0] 80)) = W2 at *
    go_at_call 29
    refine HT.mono ?_
    rintro e W2' ⟨rfl, hR2', hG2⟩
    obtain ⟨a0, a1, a2, a3, a4, a5⟩ := hR2'.cells
    go_wp2_with fail
    refine bodyPost_ret (results_none rfl _ _ _) rfl ?_
    exact ⟨rfl, tv, hR2', hI2.kept hG2 (.inr (hR2.apart hI2)), HF2.out.trans (foot_grown tv.ownBlock hG2)⟩
end Go.Proofs.YtfoifcbpognjaaaDoor

