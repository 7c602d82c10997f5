/- The model's running with loops that are gone through at most so many times: loops; whatever program. -/
import Derived.Test.YtnejphdbnfdbhaaDoorUB
namespace Go.Proofs.YtnejphdbnfdbhaaDoor
open Go.ChangeShapes Go.WideShapes Go.ChangeAt Go.RowKit Go.Shelf
attribute [local go_sem] Oper.semAt_some
set_option maxRecDepth 100000

theorem seqM_small {r : Nat → Nat × Nat} (hr : ∀ m, m < 512 → (r m).1 < 512 ∧ (r m).2 < 512) {m : Nat} (hm : m < 512) : ∀ i, Small (seqM r m i).1 ∧ (seqM r m i).2 < 512
  | 0 => ⟨⟨hm, show (0 : Nat) < 512 by decide⟩, hm⟩
  | i + 1 => by
    obtain ⟨h1, h2⟩ := seqM_small hr hm i
    exact ⟨⟨or_lt h1.1 (hr _ h2).1, or_lt h1.2 (hr _ h2).2⟩, (hr _ h2).1⟩
set_option maxHeartbeats 2000000 in
theorem nrun_loop (T : Nat) (hT : T ≤ 12) (p : Node) (hp : p.ok) (IH : NRuns T p) : NRuns T (.loop p) := by
  intro W lo hi k s ad n cap m h hhi hm
  obtain ⟨rfl, rfl, rfl, g, rfl, hg1, hg2, k1, s1, ad1, n1, cap1, c0, c1, c2, hnp⟩ := h
  have hr := runT_lt T p hp
  have H1 := fun W' j hj h h2 => IH W' lo hi k1 s1 ad1 n1 cap1 j h h2 hj
  have hseq := fun i => seqM_small hr hm i
  rw [runT_loop, ← (seqM_iter (runT_or T p) m T).1]
  generalize runT T p = r at H1 hr hseq ⊢
  have hgW : g < W.heap.size := Nat.lt_of_lt_of_le hg2 hhi
  have hA : Below W.heap.size W (((W.alloc (.cells #[.int .u8 123, .string ⟨#[]⟩, .slice (some ⟨g, 0, none⟩) 1 cap] 35)).alloc (.cells #[.int .i64 0, .int .i64 0] 41)).alloc (.cells #[.int .i64 (m : Int), .int .i64 0] 41)) := (((Below.refl _ W).alloc (Nat.le_refl _) _).alloc (by simp) _).alloc (by simp; omega) _
  have B0 : Lies ((W.alloc (.cells #[.int .u8 123, .string ⟨#[]⟩, .slice (some ⟨g, 0, none⟩) 1 cap] 35)).alloc (.cells #[.int .i64 0, .int .i64 0] 41)) W.heap.size #[.int .u8 123, .string ⟨#[]⟩, .slice (some ⟨g, 0, none⟩) 1 cap] 35 := (Lies.new W _ _).alloc _
  have B1 := B0.alloc (.cells #[.int .i64 (m : Int), .int .i64 0] 41)
  have L1 := (lies_new2 W (.cells #[.int .u8 123, .string ⟨#[]⟩, .slice (some ⟨g, 0, none⟩) 1 cap] 35) #[.int .i64 0, .int .i64 0] 41).alloc (.cells #[.int .i64 (m : Int), .int .i64 0] 41)
  have X1 := lies_new2 (W.alloc (.cells #[.int .u8 123, .string ⟨#[]⟩, .slice (some ⟨g, 0, none⟩) 1 cap] 35)) (.cells #[.int .i64 0, .int .i64 0] 41) #[.int .i64 (m : Int), .int .i64 0] 41
  rw [World.size_alloc] at X1
  go_enter Tryd.func21, Tryd.ntmps21
  go_wp2_with fail
  have Lst := (And.intro B1 (And.intro L1 (And.intro X1 hA)))
  clear B0 B1 L1 X1 hA
  go_loopw [1, 76] (fun f i wr => ∃ (j : Nat), j ≤ T ∧ i = .int .i64 (j : Int) ∧ f = .int .i64 ((seqM r m j).2 : Int) ∧ Lies wr W.heap.size #[.int .u8 123, .string ⟨#[]⟩, .slice (some ⟨g, 0, none⟩) 1 cap] 35 ∧ Lies wr (W.heap.size + 1) #[.int .i64 0, .int .i64 0] 41 ∧ Lies wr (W.heap.size + 1 + 1) (cells2 (seqM r m j).1) 41 ∧ Below W.heap.size W wr) (fun _ i _ => T - (intOf i).toNat)
  case atStart => exact ⟨0, by omega, rfl, rfl, Lst.1, Lst.2.1, Lst.2.2.1, Lst.2.2.2⟩
  case round =>
    obtain ⟨j, hj, rfl, rfl, hBX, hZ, hX, hB⟩ := hrel
    clear Lst
    obtain ⟨hx, hf⟩ := hseq j
    have e1 : (seqM r m (j + 1)).1 = both2 (seqM r m j).1 (r (seqM r m j).2) := rfl
    have e2 : (seqM r m (j + 1)).2 = (r (seqM r m j).2).1 := rfl
    have hfin : j = T → (seqM r m T).1 = (seqM r m j).1 := fun h => by rw [h]
    generalize (seqM r m j).1 = x at hx hX e1 hfin
    generalize (seqM r m j).2 = f at hf e1 e2 ⊢
    by_cases hlt : j < T
    · have hy := hr f hf
      have b2 := hBX.third
      have d0 := (hB.cell (p := ⟨g, 0, none⟩) hgW).trans c0
      have d1 := (hB.cell (p := ⟨g, 1, none⟩) hgW).trans c1
      have d2 := (hB.cell (p := ⟨g, 2, none⟩) hgW).trans c2
      have HH := H1 wr f hf (hnp.below hB hhi) (Nat.le_trans hhi hB.size)
      generalize r f = y at HH e1 e2 hy
      go_wp2_with fail
      refine HH.mono ?_
      rintro e W2 ⟨rfl, hb2⟩
      have BX := (lies_kept hb2 hBX).alloc (.cells #[.int .i64 (y.1 : Int), .int .i64 (y.2 : Int)] 41)
      have ZX := (lies_kept hb2 hZ).alloc (.cells #[.int .i64 (y.1 : Int), .int .i64 (y.2 : Int)] 41)
      have XX := (lies_kept hb2 hX).alloc (.cells #[.int .i64 (y.1 : Int), .int .i64 (y.2 : Int)] 41)
      have YX := Lies.new W2 #[.int .i64 (y.1 : Int), .int .i64 (y.2 : Int)] 41
      have hB2 := (hB.trans (hb2.mono hB.size)).alloc (Nat.le_trans hB.size hb2.size) (.cells #[.int .i64 (y.1 : Int), .int .i64 (y.2 : Int)] 41)
      have hlt2 : W.heap.size + 1 + 1 < W2.heap.size := Nat.lt_of_lt_of_le hX.lt hb2.size
      clear d0 d1 d2 b2 hb2 hBX hZ hX HH
      have hor1 := or_nat x.1 y.1 (by have := hx.1; omega) (by have := hy.1; omega)
      have hor2 := or_nat x.2 y.2 (by have := hx.2; omega) (by have := hy.2; omega)
      obtain ⟨x0, x1, x2, x3⟩ := Lies.cells (x := .int .i64 (x.1 : Int)) (y := .int .i64 (x.2 : Int)) XX
      obtain ⟨y0, y1, _, _⟩ := YX.cells
      have hgt : W.heap.size + 1 + 1 < W2.heap.size := hlt2
      have YX2 := (YX.other (Nat.ne_of_gt hgt) 0 (.int .i64 ((x.1 ||| y.1 : Nat) : Int))).other (Nat.ne_of_gt hgt) 1 (.int .i64 ((x.2 ||| y.2 : Nat) : Int))
      have XX2 := (Lies.set0 (x := .int .i64 (x.1 : Int)) (y := .int .i64 (x.2 : Int)) XX (.int .i64 ((x.1 ||| y.1 : Nat) : Int))).set1 (.int .i64 ((x.2 ||| y.2 : Nat) : Int))
      have hB3 := (hB2.setCell (p := ⟨W.heap.size + 1 + 1, 0, none⟩) (by simp; omega) (.int .i64 ((x.1 ||| y.1 : Nat) : Int))).setCell (p := ⟨W.heap.size + 1 + 1, 1, none⟩) (by simp; omega) (.int .i64 ((x.2 ||| y.2 : Nat) : Int))
      obtain ⟨z0, z1, _, _⟩ := YX2.cells
      have BX2 := (BX.other (show W.heap.size ≠ W.heap.size + 1 + 1 by omega) 0 (.int .i64 ((x.1 ||| y.1 : Nat) : Int))).other (show W.heap.size ≠ W.heap.size + 1 + 1 by omega) 1 (.int .i64 ((x.2 ||| y.2 : Nat) : Int))
      have ZX2 := (ZX.other (show W.heap.size + 1 ≠ W.heap.size + 1 + 1 by omega) 0 (.int .i64 ((x.1 ||| y.1 : Nat) : Int))).other (show W.heap.size + 1 ≠ W.heap.size + 1 + 1 by omega) 1 (.int .i64 ((x.2 ||| y.2 : Nat) : Int))
      clear BX ZX YX XX hB2 hgt hlt2
      go_wp2_with fail
      go_roundw
      case rel =>
        refine ⟨j + 1, by omega, by go_num, by rw [e2], BX2, ZX2, ?_, hB3⟩
        rw [e1]
        exact XX2
      case measure => simp [intOf]; omega
    · have OUT := Lib.hid (run_out (x := x) hZ (Nat.le_succ _) hB)
      obtain ⟨x0, x1, _, _⟩ := Lies.cells (x := .int .i64 (x.1 : Int)) (y := .int .i64 (x.2 : Int)) hX
      obtain ⟨q0, q1, q2, q3⟩ := hZ.cells
      have hjT := hfin (by omega)
      obtain rfl : j = T := by omega
      go_wp2_with fail
      obtain ⟨RS, RB⟩ := OUT.out
      obtain ⟨s0, s1, _, _⟩ := RS.cells
      clear q0 q1 q2 q3 x0 x1 hjT hfin
      exact bodyPost_ret (v := .agg #[.int .i64 (x.1 : Int), .int .i64 (x.2 : Int)]) (by simp [results, Tryd.results21, go_sem, s0, s1]) rfl ⟨rfl, RB⟩
/-- **THE MODEL'S RUN WITH LOOPS THAT ARE GONE THROUGH AT MOST SO MANY TIMES.** -/
theorem nrun21 (T : Nat) (hT : T ≤ 12) : ∀ (nd : Node), nd.ok → NRuns T nd
  | .atom a, hok => nrun_atom T a hok
  | .loop p, hok => nrun_loop T hT p hok (nrun21 T hT p hok)
  | .pair k p q, hok => by
    obtain ⟨rfl | rfl, hp, hq⟩ := hok
    · exact nrun_seq T p q hp hq (nrun21 T hT p hp) (nrun21 T hT q hq)
    · exact nrun_choice T p q hp hq (nrun21 T hT p hp) (nrun21 T hT q hq)
end Go.Proofs.YtnejphdbnfdbhaaDoor

