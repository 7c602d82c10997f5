/- The model's running with loops that are gone through at most so many times: all but loops. The model's running with loops that are gone through at most so many times: loops; whatever program. The model: what is reached with so many times; how many times are needed. The model: how often loops have to be gone through. The model: how often loops have to be gone through until a program fails. -/
import Derived.Test.YtnejphdbnfdbhaaGreatDoorM5
import Derived.Test.YtnejphdbnfdbhaaGreatDoorUA
import Derived.Test.YtnejphdbnfdbhaaGreatDoorM7
namespace Go.Proofs.YtnejphdbnfdbhaaGreatDoor
open Go.ChangeShapes Go.WideShapes Go.ChangeAt Go.RowKit Go.Shelf
attribute [local go_sem] Oper.semAt_some
set_option maxRecDepth 100000

def NRuns (T : Nat) (nd : Node) : Prop := ∀ (W : World) (lo hi : Nat) (k : Int) (s : ByteArray) (ad : Option Addr) (n cap m : Nat), NodeIs W lo hi nd k s ad n cap → hi ≤ W.heap.size → m < 512 →
  Calls Tryz.prog 46 #[.agg #[.int .u8 k, .string s, .slice ad n cap], .int .i64 (m : Int), .int .i64 (T : Int)] W (RunsTo W (runT T nd m))

set_option maxHeartbeats 4000000 in
theorem nrun_atom (T : Nat) (a : List UInt8) (hok : (Node.atom a).ok) : NRuns T (.atom a) := by
  intro W lo hi k s ad n cap m h hhi hm
  obtain ⟨rfl, rfl, rfl⟩ := h
  have hra := matom40 a hok m hm
  have eR : runT T (.atom a) m = runR (.atom a) m := by unfold runT runR; rfl
  rw [eR]
  generalize runR (.atom a) m = x at hra ⊢
  have L0 := lies_new2 W (.cells #[.int .u8 97, .string ⟨a.toArray⟩, .slice ad 0 cap] 69) #[.int .i64 0, .int .i64 0] 75
  have hA : Below W.heap.size W ((W.alloc (.cells #[.int .u8 97, .string ⟨a.toArray⟩, .slice ad 0 cap] 69)).alloc (.cells #[.int .i64 0, .int .i64 0] 75)) := ((Below.refl _ W).alloc (Nat.le_refl _) _).alloc (by simp) _
  go_enter Tryz.func46, Tryz.ntmps46
  go_wp2_with (go_at_call 73; refine (hra _).mono ?_; rintro e W2 ⟨rfl, hb2⟩; have L := lies_kept hb2 L0; obtain ⟨q0, q1, q2, q3⟩ := L.cells)
  obtain ⟨RS, RB⟩ := run_out (x := x) L (Nat.le_succ _) (hA.trans (hb2.mono hA.size))
  obtain ⟨s0, s1, _, _⟩ := RS.cells
  clear q0 q1 q2 q3 L RS
  exact bodyPost_ret (v := .agg #[.int .i64 (x.1 : Int), .int .i64 (x.2 : Int)]) (by simp [results, Tryz.results46, go_sem, s0, s1]) rfl ⟨rfl, RB⟩

set_option maxHeartbeats 4000000 in
theorem nrun_choice (T : Nat) (p q : Node) (hp : p.ok) (hq : q.ok) (IH1 : NRuns T p) (IH2 : NRuns T q) : NRuns T (.pair 124 p q) := by
  intro W lo hi k s ad n cap m h hhi hm
  obtain ⟨rfl, rfl, rfl, g, rfl, hg1, hg2, k1, s1, ad1, n1, cap1, k2, s2, ad2, n2, cap2, ⟨c0, c1, c2⟩, ⟨c3, c4, c5⟩, hnp, hnq⟩ := h
  have hx := runT_lt T p hp m hm
  have hy := runT_lt T q hq m hm
  have H1 := fun W' h => IH1 W' lo hi k1 s1 ad1 n1 cap1 m h
  have H2 := fun W' h => IH2 W' lo hi k2 s2 ad2 n2 cap2 m h
  rw [runT_choice]
  generalize runT T p m = x at H1 hx ⊢
  generalize runT T q m = y at H2 hy ⊢
  have hor1 := or_nat x.1 y.1 (by have := hx.1; omega) (by have := hy.1; omega)
  have hor2 := or_nat x.2 y.2 (by have := hx.2; omega) (by have := hy.2; omega)
  have hgW : g < W.heap.size := Nat.lt_of_lt_of_le hg2 hhi
  show Calls Tryz.prog 46 #[.agg #[.int .u8 124, .string ⟨#[]⟩, .slice (some ⟨g, 0, none⟩) 2 cap], .int .i64 (m : Int), .int .i64 (T : Int)] W _
  have hA : Below W.heap.size W ((W.alloc (.cells #[.int .u8 124, .string ⟨#[]⟩, .slice (some ⟨g, 0, none⟩) 2 cap] 69)).alloc (.cells #[.int .i64 0, .int .i64 0] 75)) := ((Below.refl _ W).alloc (Nat.le_refl _) _).alloc (by simp) _
  have B0 : Lies ((W.alloc (.cells #[.int .u8 124, .string ⟨#[]⟩, .slice (some ⟨g, 0, none⟩) 2 cap] 69)).alloc (.cells #[.int .i64 0, .int .i64 0] 75)) W.heap.size #[.int .u8 124, .string ⟨#[]⟩, .slice (some ⟨g, 0, none⟩) 2 cap] 69 := (Lies.new W _ _).alloc _
  have L0 := lies_new2 W (.cells #[.int .u8 124, .string ⟨#[]⟩, .slice (some ⟨g, 0, none⟩) 2 cap] 69) #[.int .i64 0, .int .i64 0] 75
  go_enter Tryz.func46, Tryz.ntmps46
  go_wp2_with fail
  generalize (W.alloc (.cells #[.int .u8 124, .string ⟨#[]⟩, .slice (some ⟨g, 0, none⟩) 2 cap] 69)).alloc (.cells #[.int .i64 0, .int .i64 0] 75) = V at hA B0 L0 ⊢
  have NP := hnp.below hA hhi
  have NQ := hnq.below hA hhi
  have hhV : hi ≤ V.heap.size := Nat.le_trans hhi hA.size
  refine (H1 V NP hhV hm).mono ?_
  rintro e W1 ⟨rfl, hb1⟩
  have e3 := cellAlloc (.cells #[.int .i64 (x.1 : Int), .int .i64 (x.2 : Int)] 75) (keepCell hb1 (keepCell hA c3))
  have e4 := cellAlloc (.cells #[.int .i64 (x.1 : Int), .int .i64 (x.2 : Int)] 75) (keepCell hb1 (keepCell hA c4))
  have e5 := cellAlloc (.cells #[.int .i64 (x.1 : Int), .int .i64 (x.2 : Int)] 75) (keepCell hb1 (keepCell hA c5))
  have hal : Below W1.heap.size W1 (W1.alloc (.cells #[.int .i64 (x.1 : Int), .int .i64 (x.2 : Int)] 75)) := (Below.refl _ _).alloc (Nat.le_refl _) _
  have NQ1 := (NQ.below hb1 hhV).below hal (Nat.le_trans hhV hb1.size)
  have B1 := (lies_kept hb1 B0).alloc (.cells #[.int .i64 (x.1 : Int), .int .i64 (x.2 : Int)] 75)
  have L1 := (lies_kept hb1 L0).alloc (.cells #[.int .i64 (x.1 : Int), .int .i64 (x.2 : Int)] 75)
  have LX := Lies.new W1 #[.int .i64 (x.1 : Int), .int .i64 (x.2 : Int)] 75
  have hh1 : hi ≤ (W1.alloc (.cells #[.int .i64 (x.1 : Int), .int .i64 (x.2 : Int)] 75)).heap.size := Nat.le_trans (Nat.le_trans hhV hb1.size) hal.size
  have hA1 := (hA.trans (hb1.mono hA.size)).trans (hal.mono (Nat.le_trans hA.size hb1.size))
  have b2 := B1.third
  go_wp2_with fail
  refine (H2 _ NQ1 hh1 hm).mono ?_
  rintro e W2 ⟨rfl, hb2⟩
  have L2 := (lies_kept hb2 L1).alloc (.cells #[.int .i64 (y.1 : Int), .int .i64 (y.2 : Int)] 75)
  have LX2 := (lies_kept hb2 LX).alloc (.cells #[.int .i64 (y.1 : Int), .int .i64 (y.2 : Int)] 75)
  have LY := Lies.new W2 #[.int .i64 (y.1 : Int), .int .i64 (y.2 : Int)] 75
  have hA2 := (hA1.trans (hb2.mono hA1.size)).alloc (Nat.le_trans hA1.size hb2.size) (.cells #[.int .i64 (y.1 : Int), .int .i64 (y.2 : Int)] 75)
  have OUT := run_out (x := (x.1 ||| y.1, x.2 ||| y.2)) L2 (Nat.le_succ _) hA2
  dsimp only at OUT
  have OUT := Lib.hid OUT
  obtain ⟨x0, x1, _, _⟩ := LX2.cells
  obtain ⟨y0, y1, _, _⟩ := LY.cells
  obtain ⟨q0, q1, q2, q3⟩ := L2.cells
  clear e3 e4 e5 b2 B1 L1 LX hA1 hA2 L2 LX2 LY c0 c1 c2 c3 c4 c5 hb1 hb2 NQ1 NP NQ B0 L0
  go_wp2_with fail
  obtain ⟨RS, RB⟩ := OUT.out
  obtain ⟨s0, s1, _, _⟩ := RS.cells
  exact bodyPost_ret (v := .agg #[.int .i64 ((x.1 ||| y.1 : Nat) : Int), .int .i64 ((x.2 ||| y.2 : Nat) : Int)]) (by simp [results, Tryz.results46, go_sem, s0, s1]) rfl ⟨rfl, RB⟩

set_option maxHeartbeats 4000000 in
theorem nrun_seq (T : Nat) (p q : Node) (hp : p.ok) (hq : q.ok) (IH1 : NRuns T p) (IH2 : NRuns T q) : NRuns T (.pair 59 p q) := by
  intro W lo hi k s ad n cap m h hhi hm
  obtain ⟨rfl, rfl, rfl, g, rfl, hg1, hg2, k1, s1, ad1, n1, cap1, k2, s2, ad2, n2, cap2, ⟨c0, c1, c2⟩, ⟨c3, c4, c5⟩, hnp, hnq⟩ := h
  have hx := runT_lt T p hp m hm
  have hy := runT_lt T q hq (runT T p m).1 hx.1
  have H1 := fun W' h => IH1 W' lo hi k1 s1 ad1 n1 cap1 m h
  have H2 := fun W' h => IH2 W' lo hi k2 s2 ad2 n2 cap2 (runT T p m).1 h
  rw [runT_seq]
  generalize runT T q (runT T p m).1 = y at H2 hy ⊢
  generalize runT T p m = x at H1 hx H2 ⊢
  have hor2 := or_nat x.2 y.2 (by have := hx.2; omega) (by have := hy.2; omega)
  have hgW : g < W.heap.size := Nat.lt_of_lt_of_le hg2 hhi
  show Calls Tryz.prog 46 #[.agg #[.int .u8 59, .string ⟨#[]⟩, .slice (some ⟨g, 0, none⟩) 2 cap], .int .i64 (m : Int), .int .i64 (T : Int)] W _
  have hA : Below W.heap.size W ((W.alloc (.cells #[.int .u8 59, .string ⟨#[]⟩, .slice (some ⟨g, 0, none⟩) 2 cap] 69)).alloc (.cells #[.int .i64 0, .int .i64 0] 75)) := ((Below.refl _ W).alloc (Nat.le_refl _) _).alloc (by simp) _
  have B0 : Lies ((W.alloc (.cells #[.int .u8 59, .string ⟨#[]⟩, .slice (some ⟨g, 0, none⟩) 2 cap] 69)).alloc (.cells #[.int .i64 0, .int .i64 0] 75)) W.heap.size #[.int .u8 59, .string ⟨#[]⟩, .slice (some ⟨g, 0, none⟩) 2 cap] 69 := (Lies.new W _ _).alloc _
  have L0 := lies_new2 W (.cells #[.int .u8 59, .string ⟨#[]⟩, .slice (some ⟨g, 0, none⟩) 2 cap] 69) #[.int .i64 0, .int .i64 0] 75
  go_enter Tryz.func46, Tryz.ntmps46
  go_wp2_with fail
  generalize (W.alloc (.cells #[.int .u8 59, .string ⟨#[]⟩, .slice (some ⟨g, 0, none⟩) 2 cap] 69)).alloc (.cells #[.int .i64 0, .int .i64 0] 75) = V at hA B0 L0 ⊢
  have NP := hnp.below hA hhi
  have NQ := hnq.below hA hhi
  have hhV : hi ≤ V.heap.size := Nat.le_trans hhi hA.size
  refine (H1 V NP hhV hm).mono ?_
  rintro e W1 ⟨rfl, hb1⟩
  have hal : Below W1.heap.size W1 (W1.alloc (.cells #[.int .i64 (x.1 : Int), .int .i64 (x.2 : Int)] 75)) := (Below.refl _ _).alloc (Nat.le_refl _) _
  have NQ1 := (NQ.below hb1 hhV).below hal (Nat.le_trans hhV hb1.size)
  have B1 := (lies_kept hb1 B0).alloc (.cells #[.int .i64 (x.1 : Int), .int .i64 (x.2 : Int)] 75)
  have L1 := (lies_kept hb1 L0).alloc (.cells #[.int .i64 (x.1 : Int), .int .i64 (x.2 : Int)] 75)
  have LX := Lies.new W1 #[.int .i64 (x.1 : Int), .int .i64 (x.2 : Int)] 75
  have hh1 : hi ≤ (W1.alloc (.cells #[.int .i64 (x.1 : Int), .int .i64 (x.2 : Int)] 75)).heap.size := Nat.le_trans (Nat.le_trans hhV hb1.size) hal.size
  have hA1 := (hA.trans (hb1.mono hA.size)).trans (hal.mono (Nat.le_trans hA.size hb1.size))
  have S1 : _ ∧ _ ∧ _ ∧ _ ∧ _ := ⟨B1.third, cellAlloc (.cells #[.int .i64 (x.1 : Int), .int .i64 (x.2 : Int)] 75) (keepCell hb1 (keepCell hA c3)), cellAlloc (.cells #[.int .i64 (x.1 : Int), .int .i64 (x.2 : Int)] 75) (keepCell hb1 (keepCell hA c4)), cellAlloc (.cells #[.int .i64 (x.1 : Int), .int .i64 (x.2 : Int)] 75) (keepCell hb1 (keepCell hA c5)), LX.cells.1⟩
  have HS := Lib.hid S1
  clear S1 c0 c1 c2 c3 c4 c5 B0 B1 NP NQ hnp hnq hal H1
  go_wp2_with fail
  generalize W1.alloc (.cells #[.int .i64 (x.1 : Int), .int .i64 (x.2 : Int)] 75) = V1 at NQ1 L1 LX hh1 hA1 HS ⊢
  generalize W1.heap.size = g5 at LX HS ⊢
  have S1 := HS.out
  obtain ⟨a1, a2, a3, a4, a5⟩ := HS.out
  have NQa := NQ1.below ((Below.refl _ V1).alloc (Nat.le_refl _) (.cells #[.int .i64 0, .int .i64 0] 75)) hh1
  have hha : hi ≤ (V1.alloc (.cells #[.int .i64 0, .int .i64 0] 75)).heap.size := Nat.le_trans hh1 (by simp)
  clear HS hb1 hA L0
  have HN := Lib.hid (And.intro (And.intro NQ1 hh1) (And.intro NQa hha))
  clear NQ1 hh1 NQa hha
  go_region_held3 (fun w' => w'.cell? ⟨W.heap.size, 2, none⟩ = some (.slice (some ⟨g, 0, none⟩) 2 cap) ∧ w'.cell? ⟨g, 3, none⟩ = some (.int .u8 k2) ∧ w'.cell? ⟨g, 4, none⟩ = some (.string s2) ∧ w'.cell? ⟨g, 5, none⟩ = some (.slice ad2 n2 cap2) ∧ w'.cell? ⟨g5, 0, none⟩ = some (.int .i64 (x.1 : Int)))
    (first | exact S1 | exact S2 | exact five_g (World.grownBy_alloc _ _ none) S1 | exact five_g (World.grownBy_alloc _ _ none) S2 | exact five_set S1 S2 | go_keep)
    (first
      | (go_at_call 46; refine (H2 _ ?_ ?_ hx.1).mono ?_; exact HN.out.1.1.drew; exact HN.out.1.2; rintro e W2 ⟨rfl, hb2⟩; have G2 := grown_trans_b (drewG (below_self_grown V1 none)) hb2; have S2 := five_g G2 S1)
      | (go_at_call 46; refine (H2 _ ?_ ?_ hx.1).mono ?_; exact HN.out.2.1.drew; exact HN.out.2.2; rintro e W2 ⟨rfl, hb2⟩; have G2 := grown_trans_b (drewG (World.grownBy_alloc V1 (.cells #[.int .i64 0, .int .i64 0] 75) none)) hb2; have S2 := five_g G2 S1; have hN := lies_kept hb2 (Lies.new V1 #[.int .i64 0, .int .i64 0] 75); obtain ⟨n0, n1, n2, n3⟩ := hN.cells))
  all_goals
    have LX2 := LX.kept G2 (by simp)
    have L2 := L1.kept G2 (by simp)
    have hA2 : Below W.heap.size W W2 := hA1.grown G2 hA1.size (fun i e => by cases e)
  · have R := seq_new (y := y) LX2 L2 hA2
    generalize W2.alloc (.cells #[.int .i64 (y.1 : Int), .int .i64 (y.2 : Int)] 75) = Y at R ⊢
    generalize W2.heap.size = g6 at R ⊢
    have OUT := run_out (x := (y.1, x.2 ||| y.2)) R.res (Nat.le_succ _) R.below
    dsimp only at OUT
    have OUT := Lib.hid OUT
    obtain ⟨x0, x1, _, _⟩ := R.old.cells
    obtain ⟨y0, y1, _, _⟩ := R.new.cells
    obtain ⟨q0, q1, q2, q3⟩ := R.res.cells
    clear a1 a2 a3 a4 a5 S1 S2 LX2 L2 hA2 R G2 hb2 LX L1 hA1
    go_wp2_with fail
    obtain ⟨RS, RB⟩ := OUT.out
    obtain ⟨s0, s1, _, _⟩ := RS.cells
    exact bodyPost_ret (v := .agg #[.int .i64 (y.1 : Int), .int .i64 ((x.2 ||| y.2 : Nat) : Int)]) (by simp [results, Tryz.results46, go_sem, s0, s1]) rfl ⟨rfl, RB⟩
  · have R := seq_set (y := y) hN LX2 L2 hA2 (Nat.ne_of_lt LX.lt) (Nat.ne_of_lt L1.lt) hA1.size
    clear hN n0 n1 n2 n3
    generalize (W2.setCell ⟨V1.heap.size, 0, none⟩ (.int .i64 (y.1 : Int))).setCell ⟨V1.heap.size, 1, none⟩ (.int .i64 (y.2 : Int)) = Y at R ⊢
    generalize V1.heap.size = g6 at R ⊢
    have OUT := run_out (x := (y.1, x.2 ||| y.2)) R.res (Nat.le_succ _) R.below
    dsimp only at OUT
    have OUT := Lib.hid OUT
    obtain ⟨x0, x1, _, _⟩ := R.old.cells
    obtain ⟨y0, y1, _, _⟩ := R.new.cells
    obtain ⟨q0, q1, q2, q3⟩ := R.res.cells
    clear a1 a2 a3 a4 a5 S1 S2 LX2 L2 hA2 R G2 hb2 LX L1 hA1
    go_wp2_with fail
    obtain ⟨RS, RB⟩ := OUT.out
    obtain ⟨s0, s1, _, _⟩ := RS.cells
    exact bodyPost_ret (v := .agg #[.int .i64 (y.1 : Int), .int .i64 ((x.2 ||| y.2 : Nat) : Int)]) (by simp [results, Tryz.results46, go_sem, s0, s1]) rfl ⟨rfl, RB⟩
end Go.Proofs.YtnejphdbnfdbhaaGreatDoor

namespace Go.Proofs.YtnejphdbnfdbhaaGreatDoor
open Go.ChangeShapes Go.WideShapes Go.ChangeAt Go.RowKit Go.Shelf
attribute [local go_sem] Oper.semAt_some
set_option maxRecDepth 100000

theorem seqM_small {r : Nat → Nat × Nat} (hr : ∀ m, m < 512 → (r m).1 < 512 ∧ (r m).2 < 512) {m : Nat} (hm : m < 512) : ∀ i, Small (seqM r m i).1 ∧ (seqM r m i).2 < 512
  | 0 => ⟨⟨hm, show (0 : Nat) < 512 by decide⟩, hm⟩
  | i + 1 => by
    obtain ⟨h1, h2⟩ := seqM_small hr hm i
    exact ⟨⟨or_lt h1.1 (hr _ h2).1, or_lt h1.2 (hr _ h2).2⟩, (hr _ h2).1⟩
set_option maxHeartbeats 2000000 in
theorem nrun_loop (T : Nat) (hT : T ≤ 12) (p : Node) (hp : p.ok) (IH : NRuns T p) : NRuns T (.loop p) := by
  intro W lo hi k s ad n cap m h hhi hm
  obtain ⟨rfl, rfl, rfl, g, rfl, hg1, hg2, k1, s1, ad1, n1, cap1, c0, c1, c2, hnp⟩ := h
  have hr := runT_lt T p hp
  have H1 := fun W' j hj h h2 => IH W' lo hi k1 s1 ad1 n1 cap1 j h h2 hj
  have hseq := fun i => seqM_small hr hm i
  rw [runT_loop, ← (seqM_iter (runT_or T p) m T).1]
  generalize runT T p = r at H1 hr hseq ⊢
  have hgW : g < W.heap.size := Nat.lt_of_lt_of_le hg2 hhi
  have hA : Below W.heap.size W (((W.alloc (.cells #[.int .u8 123, .string ⟨#[]⟩, .slice (some ⟨g, 0, none⟩) 1 cap] 69)).alloc (.cells #[.int .i64 0, .int .i64 0] 75)).alloc (.cells #[.int .i64 (m : Int), .int .i64 0] 75)) := (((Below.refl _ W).alloc (Nat.le_refl _) _).alloc (by simp) _).alloc (by simp; omega) _
  have B0 : Lies ((W.alloc (.cells #[.int .u8 123, .string ⟨#[]⟩, .slice (some ⟨g, 0, none⟩) 1 cap] 69)).alloc (.cells #[.int .i64 0, .int .i64 0] 75)) W.heap.size #[.int .u8 123, .string ⟨#[]⟩, .slice (some ⟨g, 0, none⟩) 1 cap] 69 := (Lies.new W _ _).alloc _
  have B1 := B0.alloc (.cells #[.int .i64 (m : Int), .int .i64 0] 75)
  have L1 := (lies_new2 W (.cells #[.int .u8 123, .string ⟨#[]⟩, .slice (some ⟨g, 0, none⟩) 1 cap] 69) #[.int .i64 0, .int .i64 0] 75).alloc (.cells #[.int .i64 (m : Int), .int .i64 0] 75)
  have X1 := lies_new2 (W.alloc (.cells #[.int .u8 123, .string ⟨#[]⟩, .slice (some ⟨g, 0, none⟩) 1 cap] 69)) (.cells #[.int .i64 0, .int .i64 0] 75) #[.int .i64 (m : Int), .int .i64 0] 75
  rw [World.size_alloc] at X1
  go_enter Tryz.func46, Tryz.ntmps46
  go_wp2_with fail
  have Lst := (And.intro B1 (And.intro L1 (And.intro X1 hA)))
  clear B0 B1 L1 X1 hA
  go_loopw [1, 76] (fun f i wr => ∃ (j : Nat), j ≤ T ∧ i = .int .i64 (j : Int) ∧ f = .int .i64 ((seqM r m j).2 : Int) ∧ Lies wr W.heap.size #[.int .u8 123, .string ⟨#[]⟩, .slice (some ⟨g, 0, none⟩) 1 cap] 69 ∧ Lies wr (W.heap.size + 1) #[.int .i64 0, .int .i64 0] 75 ∧ Lies wr (W.heap.size + 1 + 1) (cells2 (seqM r m j).1) 75 ∧ Below W.heap.size W wr) (fun _ i _ => T - (intOf i).toNat)
  case atStart => exact ⟨0, by omega, rfl, rfl, Lst.1, Lst.2.1, Lst.2.2.1, Lst.2.2.2⟩
  case round =>
    obtain ⟨j, hj, rfl, rfl, hBX, hZ, hX, hB⟩ := hrel
    clear Lst
    obtain ⟨hx, hf⟩ := hseq j
    have e1 : (seqM r m (j + 1)).1 = both2 (seqM r m j).1 (r (seqM r m j).2) := rfl
    have e2 : (seqM r m (j + 1)).2 = (r (seqM r m j).2).1 := rfl
    have hfin : j = T → (seqM r m T).1 = (seqM r m j).1 := fun h => by rw [h]
    generalize (seqM r m j).1 = x at hx hX e1 hfin
    generalize (seqM r m j).2 = f at hf e1 e2 ⊢
    by_cases hlt : j < T
    · have hy := hr f hf
      have b2 := hBX.third
      have d0 := (hB.cell (p := ⟨g, 0, none⟩) hgW).trans c0
      have d1 := (hB.cell (p := ⟨g, 1, none⟩) hgW).trans c1
      have d2 := (hB.cell (p := ⟨g, 2, none⟩) hgW).trans c2
      have HH := H1 wr f hf (hnp.below hB hhi) (Nat.le_trans hhi hB.size)
      generalize r f = y at HH e1 e2 hy
      go_wp2_with fail
      refine HH.mono ?_
      rintro e W2 ⟨rfl, hb2⟩
      have BX := (lies_kept hb2 hBX).alloc (.cells #[.int .i64 (y.1 : Int), .int .i64 (y.2 : Int)] 75)
      have ZX := (lies_kept hb2 hZ).alloc (.cells #[.int .i64 (y.1 : Int), .int .i64 (y.2 : Int)] 75)
      have XX := (lies_kept hb2 hX).alloc (.cells #[.int .i64 (y.1 : Int), .int .i64 (y.2 : Int)] 75)
      have YX := Lies.new W2 #[.int .i64 (y.1 : Int), .int .i64 (y.2 : Int)] 75
      have hB2 := (hB.trans (hb2.mono hB.size)).alloc (Nat.le_trans hB.size hb2.size) (.cells #[.int .i64 (y.1 : Int), .int .i64 (y.2 : Int)] 75)
      have hlt2 : W.heap.size + 1 + 1 < W2.heap.size := Nat.lt_of_lt_of_le hX.lt hb2.size
      clear d0 d1 d2 b2 hb2 hBX hZ hX HH
      have hor1 := or_nat x.1 y.1 (by have := hx.1; omega) (by have := hy.1; omega)
      have hor2 := or_nat x.2 y.2 (by have := hx.2; omega) (by have := hy.2; omega)
      obtain ⟨x0, x1, x2, x3⟩ := Lies.cells (x := .int .i64 (x.1 : Int)) (y := .int .i64 (x.2 : Int)) XX
      obtain ⟨y0, y1, _, _⟩ := YX.cells
      have hgt : W.heap.size + 1 + 1 < W2.heap.size := hlt2
      have YX2 := (YX.other (Nat.ne_of_gt hgt) 0 (.int .i64 ((x.1 ||| y.1 : Nat) : Int))).other (Nat.ne_of_gt hgt) 1 (.int .i64 ((x.2 ||| y.2 : Nat) : Int))
      have XX2 := (Lies.set0 (x := .int .i64 (x.1 : Int)) (y := .int .i64 (x.2 : Int)) XX (.int .i64 ((x.1 ||| y.1 : Nat) : Int))).set1 (.int .i64 ((x.2 ||| y.2 : Nat) : Int))
      have hB3 := (hB2.setCell (p := ⟨W.heap.size + 1 + 1, 0, none⟩) (by simp; omega) (.int .i64 ((x.1 ||| y.1 : Nat) : Int))).setCell (p := ⟨W.heap.size + 1 + 1, 1, none⟩) (by simp; omega) (.int .i64 ((x.2 ||| y.2 : Nat) : Int))
      obtain ⟨z0, z1, _, _⟩ := YX2.cells
      have BX2 := (BX.other (show W.heap.size ≠ W.heap.size + 1 + 1 by omega) 0 (.int .i64 ((x.1 ||| y.1 : Nat) : Int))).other (show W.heap.size ≠ W.heap.size + 1 + 1 by omega) 1 (.int .i64 ((x.2 ||| y.2 : Nat) : Int))
      have ZX2 := (ZX.other (show W.heap.size + 1 ≠ W.heap.size + 1 + 1 by omega) 0 (.int .i64 ((x.1 ||| y.1 : Nat) : Int))).other (show W.heap.size + 1 ≠ W.heap.size + 1 + 1 by omega) 1 (.int .i64 ((x.2 ||| y.2 : Nat) : Int))
      clear BX ZX YX XX hB2 hgt hlt2
      go_wp2_with fail
      go_roundw
      case rel =>
        refine ⟨j + 1, by omega, by go_num, by rw [e2], BX2, ZX2, ?_, hB3⟩
        rw [e1]
        exact XX2
      case measure => simp [intOf]; omega
    · have OUT := Lib.hid (run_out (x := x) hZ (Nat.le_succ _) hB)
      obtain ⟨x0, x1, _, _⟩ := Lies.cells (x := .int .i64 (x.1 : Int)) (y := .int .i64 (x.2 : Int)) hX
      obtain ⟨q0, q1, q2, q3⟩ := hZ.cells
      have hjT := hfin (by omega)
      obtain rfl : j = T := by omega
      go_wp2_with fail
      obtain ⟨RS, RB⟩ := OUT.out
      obtain ⟨s0, s1, _, _⟩ := RS.cells
      clear q0 q1 q2 q3 x0 x1 hjT hfin
      exact bodyPost_ret (v := .agg #[.int .i64 (x.1 : Int), .int .i64 (x.2 : Int)]) (by simp [results, Tryz.results46, go_sem, s0, s1]) rfl ⟨rfl, RB⟩
/-- **THE MODEL'S RUN WITH LOOPS THAT ARE GONE THROUGH AT MOST SO MANY TIMES.** -/
theorem nrun21 (T : Nat) (hT : T ≤ 12) : ∀ (nd : Node), nd.ok → NRuns T nd
  | .atom a, hok => nrun_atom T a hok
  | .loop p, hok => nrun_loop T hT p hok (nrun21 T hT p hok)
  | .pair k p q, hok => by
    obtain ⟨rfl | rfl, hp, hq⟩ := hok
    · exact nrun_seq T p q hp hq (nrun21 T hT p hp) (nrun21 T hT q hq)
    · exact nrun_choice T p q hp hq (nrun21 T hT p hp) (nrun21 T hT q hq)
end Go.Proofs.YtnejphdbnfdbhaaGreatDoor

namespace Go.Proofs.YtnejphdbnfdbhaaGreatDoor
open Go.ChangeShapes Go.WideShapes Go.ChangeAt Go.RowKit Go.Shelf
attribute [local go_sem] Oper.semAt_some
set_option maxRecDepth 100000

theorem min_no {t : ByteArray} {s x k : Int} (h : inOk t s x k = false) : inN t s x k = 0 := by
  unfold inOk at h
  unfold inN
  split
  · rw [h]; rfl
  · rfl
theorem min_yes {t : ByteArray} {nd : Node} (hP : readP t.toList = some nd) {m : Nat} (hm : m < 512) {x : Int} (hx : x = 0 ∨ x = 1) {T : Nat} (hT : T ≤ 12) : inN t (m : Int) x (T : Int) = ((exitN x (runT T nd m) : Nat) : Int) ∧ inOk t (m : Int) x (T : Int) = true := by
  have hK : isK (T : Int) = true := inB_yes (by omega)
  unfold inN inOk
  rw [hP, (reach_ok hP hm hx).2, hK]
  exact ⟨rfl, rfl⟩
set_option maxHeartbeats 2000000 in
theorem mreachin (t : ByteArray) (ht : t.size ≤ 9000000) (s x k : Int) (w : World) :
    Calls Tryz.prog 9 #[.string t, .int .i64 s, .int .i64 x, .int .i64 k] w fun e w' => e = .returned (.tuple #[.int .i64 (inN t s x k), .bool (inOk t s x k)]) ∧ Below w.heap.size w w' := by
  have hask := masked21 t ht s x
  cases hb : reachB t s x with
  | false =>
    have h0 : inOk t s x k = false := by unfold inOk; rw [hb]; rfl
    rw [min_no h0, h0]
    rw [hb] at hask
    clear hb h0
    go_enter Tryz.func9, Tryz.ntmps9
    go_wp2_with (go_at_call 43; refine (hask _).mono ?_; rintro e W1 ⟨hb1, kk, s1, ad, n, cap, rfl, hnd⟩)
    go_ret2
    exact ⟨rfl, hb1.alloc hb1.size _⟩
  | true =>
    cases hK : isK k with
    | false =>
      have h0 : inOk t s x k = false := by unfold inOk; rw [hK, Bool.and_false]
      rw [min_no h0, h0]
      rw [hb] at hask
      have HK := Lib.hid hK
      clear hb h0 hK
      go_enter Tryz.func9, Tryz.ntmps9
      go_wp2_with (first
        | (go_at_call 43; refine (hask _).mono ?_; rintro e W1 ⟨hb1, kk, s1, ad, n, cap, rfl, hnd⟩)
        | (go_at_call 44; refine (inB40 _ _ _ _).mono ?_; rintro e w' ⟨rfl, rfl⟩; rw [show inB k 0 12 = false from HK.out]))
      go_ret2
      exact ⟨rfl, hb1.alloc hb1.size _⟩
    | true =>
      obtain ⟨nd, m, hP, hm, rfl, hx, hn⟩ := reach_true hb
      obtain ⟨T, hT, rfl⟩ : ∃ T : Nat, T ≤ 12 ∧ k = (T : Int) := by
        have := of_decide_eq_true hK
        exact ⟨k.toNat, by omega, by omega⟩
      rw [(min_yes hP hm hx hT).1, (min_yes hP hm hx hT).2]
      rw [hb] at hask
      obtain ⟨hok, _⟩ := readP_iff.1 hP
      have hrun := fun W lo hi k s ad n cap h h2 => nrun21 T hT nd hok W lo hi k s ad n cap m h h2 hm
      have hex := fun w => mexit22 (runT T nd m).1 (runT T nd m).2 x hx w
      have HP := Lib.hid hP
      have HK := Lib.hid hK
      clear hb hn hP hK
      generalize runT T nd m = o at hrun hex ⊢
      go_enter Tryz.func9, Tryz.ntmps9
      go_wp2_with (first
        | (go_at_call 43; refine (hask _).mono ?_; rintro e W1 ⟨hb1, k, s1, ad, n, cap, rfl, hnd⟩)
        | (go_at_call 44; refine (inB40 _ _ _ _).mono ?_; rintro e w' ⟨rfl, rfl⟩; rw [show inB (T : Int) 0 12 = true from HK.out]))
      have hN := (hnd nd HP.out).below ((Below.refl _ W1).alloc (Nat.le_refl _) (.cells #[.int .u8 k, .string s1, .slice ad n cap] 69)) (Nat.le_refl _)
      have H2 := hrun _ _ _ k s1 ad n cap hN (by simp)
      go_wp2_with (first
        | (go_at_call 46; refine H2.mono ?_; rintro e W2 ⟨rfl, hb2⟩)
        | (go_at_call 45; refine (hex _).mono ?_; rintro e W3 ⟨rfl, hb3⟩))
      go_ret2
      have h1 := hb1.alloc hb1.size (.cells #[.int .u8 k, .string s1, .slice ad n cap] 69)
      have h2 := h1.trans (hb2.mono h1.size)
      exact ⟨rfl, h2.trans (hb3.mono h2.size)⟩
end Go.Proofs.YtnejphdbnfdbhaaGreatDoor

namespace Go.Proofs.YtnejphdbnfdbhaaGreatDoor
open Go.ChangeShapes Go.WideShapes Go.ChangeAt Go.RowKit Go.Shelf
attribute [local go_sem] Oper.semAt_some
set_option maxRecDepth 100000

theorem and_all {a b : Nat} (hin : a ||| b = b) : (a &&& b = b) ↔ a = b := by
  constructor
  · intro h
    have h1 : a = a &&& b := by
      apply Nat.eq_of_testBit_eq
      intro i
      have h2 := congrArg (fun z => z.testBit i) hin
      simp only [Nat.testBit_or] at h2
      simp only [Nat.testBit_and]
      cases ha' : a.testBit i <;> cases hb' : b.testBit i <;> simp [ha', hb'] at h2 ⊢
    rw [h1, h]
  · rintro rfl
    exact Nat.and_self _
set_option maxHeartbeats 4000000 in
theorem mleast (nd : Node) (hok : nd.ok) (W : World) (lo hi : Nat) (k : Int) (s : ByteArray) (ad : Option Addr) (n cap m : Nat) (h : NodeIs W lo hi nd k s ad n cap) (hhi : hi ≤ W.heap.size) (hm : m < 512) (x : Int) (hx : x = 0 ∨ x = 1) :
    Calls Tryz.prog 49 #[.agg #[.int .u8 k, .string s, .slice ad n cap], .int .i64 (m : Int), .int .i64 x, .int .i64 (exitN x (runR nd m) : Int)] W fun e W' => e = .returned (.int .i64 ((forN nd x m : Nat) : Int)) ∧ Below W.heap.size W W' := by
  have hrun := fun T (hT : T ≤ 12) W lo hi k s ad n cap h h2 => nrun21 T hT nd hok W lo hi k s ad n cap m h h2 hm
  have hex := fun T w => mexit22 (runT T nd m).1 (runT T nd m).2 x hx w
  change ∀ T w, Calls _ _ _ w fun e w' => e = .returned (.int .i64 ((exitN x (runT T nd m) : Nat) : Int)) ∧ Below w.heap.size w w' at hex
  have hlt : ∀ T, exitN x (runT T nd m) < 512 := fun T => by unfold exitN; split <;> first | exact (runT_lt T nd hok m hm).2 | exact (runT_lt T nd hok m hm).1
  have hgl : exitN x (runR nd m) < 512 := by unfold exitN; split <;> first | exact (run_lt nd hok m hm).2 | exact (run_lt nd hok m hm).1
  have hin : ∀ T, (exitN x (runT T nd m) &&& exitN x (runR nd m) = exitN x (runR nd m)) ↔ allAt nd x m T = true := fun T => by
    rw [and_all (exit_in (runT_within T hok hm) x)]
    exact ⟨fun h => decide_eq_true h, fun h => of_decide_eq_true h⟩
  have h12 := all_twelve hok x hm
  have hand : ∀ T, bits .and .i64 ((exitN x (runT T nd m) : Nat) : Int) ((exitN x (runR nd m) : Nat) : Int) = ((exitN x (runT T nd m) &&& exitN x (runR nd m) : Nat) : Int) := fun T => and_nat _ _ (by have := hlt T; omega) (by omega)
  have hA : Below W.heap.size W (W.alloc (.cells #[.int .u8 k, .string s, .slice ad n cap] 69)) := (Below.refl _ W).alloc (Nat.le_refl _) _
  have X0 := Lies.new W #[.int .u8 k, .string s, .slice ad n cap] 69
  have N0 := h.below hA hhi
  have hh0 := Nat.le_trans hhi hA.size
  have hfor : ∀ t, t ≤ 12 → (∀ j, j < t → allAt nd x m j = false) → allAt nd x m t = true → forN nd x m = t := fun t ht hno hy => least_at 12 0 t (Nat.zero_le _) (by omega) (fun j _ hj => hno j hj) hy
  generalize exitN x (runR nd m) = goal at hgl hin hand ⊢
  go_enter Tryz.func49, Tryz.ntmps49
  go_wp2_with fail
  generalize W.alloc (.cells #[.int .u8 k, .string s, .slice ad n cap] 69) = V at hA X0 N0 hh0 ⊢
  generalize hg : W.heap.size = g at X0 ⊢
  have HG := Lib.hid hg
  clear hg
  go_loopw [9] (fun i wr => ∃ T : Nat, T ≤ 12 ∧ i = .int .i64 (T : Int) ∧ (∀ j, j < T → allAt nd x m j = false) ∧ Below V.heap.size V wr) (fun i _ => 13 - (intOf i).toNat)
  case atStart => exact ⟨0, by omega, rfl, fun j hj => by omega, Below.refl _ _⟩
  case round =>
    obtain ⟨T, hT, rfl, hno, hB⟩ := hrel
    have hT12 : (T : Int) ≤ 12 := by omega
    have hT0 : (0 : Int) ≤ (T : Int) := by omega
    have HNO := Lib.hid hno
    clear hno
    have X1 := lies_kept hB X0
    obtain ⟨c0, c1, c2, _⟩ := Var.cells X1
    have hr2 := hrun T hT wr _ _ k s ad n cap (N0.below hB hh0) (Nat.le_trans hh0 hB.size)
    have hex2 := hex T
    have hand2 := hand T
    have hin2 := hin T
    have hl2 := hlt T
    generalize exitN x (runT T nd m) = z at hex2 hand2 hin2 hl2
    generalize runT T nd m = o at hr2 hex2
    have hE : Below W.heap.size W V := hA
    cases hall : allAt nd x m T with
    | true =>
      have hz : z &&& goal = goal := hin2.2 hall
      rw [hz] at hand2
      have HR := Lib.hid (hfor T hT HNO.out hall)
      clear hall hin2 hz hin
      go_wp2_with (first
        | (go_at_call 46; refine hr2.mono ?_; rintro e W2 ⟨rfl, hb2⟩)
        | (go_at_call 45; refine (hex2 _).mono ?_; rintro e W3 ⟨rfl, hb3⟩))
      go_ret
      have h1 := hA.trans (hB.mono hA.size)
      have h2 := h1.trans (hb2.mono h1.size)
      exact ⟨by rw [HR.out]; rfl, by first | exact h2.trans (hb3.mono h2.size) | (rw [← HG.out]; exact h2.trans (hb3.mono h2.size))⟩
    | false =>
      have hz : ¬ (z &&& goal = goal) := fun h => by rw [hin2.1 h] at hall; cases hall
      have hzi : ¬ (((z &&& goal : Nat) : Int) = (goal : Int)) := by omega
      have hTne : T < 12 := by
        rcases Nat.lt_or_ge T 12 with h | h
        · exact h
        · have e : T = 12 := by omega
          rw [e, h12] at hall
          cases hall
      have HA := Lib.hid hall
      clear hall hin2 hz hin
      generalize z &&& goal = zz at hand2 hzi
      go_wp2_with (first
        | (go_at_call 46; refine hr2.mono ?_; rintro e W2 ⟨rfl, hb2⟩)
        | (go_at_call 45; refine (hex2 _).mono ?_; rintro e W3 ⟨rfl, hb3⟩))
      go_roundw
      case rel =>
        refine ⟨T + 1, by omega, by go_num, fun j hj => ?_, (hB.trans (hb2.mono hB.size)).trans (hb3.mono (Nat.le_trans hB.size hb2.size))⟩
        by_cases he : j = T
        · rw [he]; exact HA.out
        · exact HNO.out j (by omega)
      case measure => simp [intOf]; omega
theorem for_no {t : ByteArray} {s x : Int} (h : reachB t s x = false) : forZ t s x = -1 := by
  unfold forZ
  split
  · rw [h]; rfl
  · rfl
set_option maxHeartbeats 2000000 in
theorem mfor (t : ByteArray) (ht : t.size ≤ 9000000) (s x : Int) (w : World) :
    Calls Tryz.prog 11 #[.string t, .int .i64 s, .int .i64 x] w fun e w' => e = .returned (.int .i64 (forZ t s x)) ∧ Below w.heap.size w w' := by
  have hask := masked21 t ht s x
  cases hb : reachB t s x with
  | false =>
    rw [for_no hb]
    rw [hb] at hask
    clear hb
    go_enter Tryz.func11, Tryz.ntmps11
    go_wp2_with (go_at_call 43; refine (hask _).mono ?_; rintro e W1 ⟨hb1, kk, s1, ad, n, cap, rfl, hnd⟩)
    go_ret
    exact ⟨rfl, hb1.alloc hb1.size _⟩
  | true =>
    obtain ⟨nd, m, hP, hm, rfl, hx, hn⟩ := reach_true hb
    have h0 : forZ t (m : Int) x = ((forN nd x m : Nat) : Int) := by
      unfold forZ
      rw [hP]
      dsimp only
      rw [hb]
      rfl
    rw [h0]
    rw [hb] at hask
    obtain ⟨hok, _⟩ := readP_iff.1 hP
    have hrun := fun W lo hi k s ad n cap h h2 => mrun23 nd hok W lo hi k s ad n cap m h h2 hm
    have hex := fun w => mexit22 (runR nd m).1 (runR nd m).2 x hx w
    have hle := fun W lo hi k s ad n cap h h2 => mleast nd hok W lo hi k s ad n cap m h h2 hm x hx
    change ∀ w, Calls _ _ _ w fun e w' => e = .returned (.int .i64 ((exitN x (runR nd m) : Nat) : Int)) ∧ Below w.heap.size w w' at hex
    have HP := Lib.hid hP
    clear hb hn hP h0
    generalize exitN x (runR nd m) = goal at hex hle
    generalize runR nd m = o at hrun hex
    go_enter Tryz.func11, Tryz.ntmps11
    go_wp2_with (go_at_call 43; refine (hask _).mono ?_; rintro e W1 ⟨hb1, k, s1, ad, n, cap, rfl, hnd⟩)
    have hal : Below W1.heap.size W1 (W1.alloc (.cells #[.int .u8 k, .string s1, .slice ad n cap] 69)) := (Below.refl _ W1).alloc (Nat.le_refl _) _
    have hN := (hnd nd HP.out).below hal (Nat.le_refl _)
    have hV := hb1.trans (hal.mono hb1.size)
    have X0 := Lies.new W1 #[.int .u8 k, .string s1, .slice ad n cap] 69
    have hs0 : W1.heap.size ≤ (W1.alloc (.cells #[.int .u8 k, .string s1, .slice ad n cap] 69)).heap.size := hal.size
    clear hal hnd hb1
    generalize W1.alloc (.cells #[.int .u8 k, .string s1, .slice ad n cap] 69) = V at hN hV X0 hs0 ⊢
    generalize W1.heap.size = g at hN X0 hs0 ⊢
    have HV := Lib.hid hV
    clear hV
    obtain ⟨c0, c1, c2, _⟩ := Var.cells X0
    go_wp2_with fail
    go_region_held3 (fun w' => w'.cell? ⟨g, 0, none⟩ = some (.int .u8 k) ∧ w'.cell? ⟨g, 1, none⟩ = some (.string s1) ∧ w'.cell? ⟨g, 2, none⟩ = some (.slice ad n cap))
      (first | exact ⟨c0, c1, c2⟩ | exact ⟨d0, d1, d2⟩ | exact ⟨e0, e1, e2⟩ | exact ⟨f0, f1, f2⟩ | go_keep)
      (first
        | (go_at_call 50; refine (hrun _ _ _ k s1 ad n cap hN.drew hs0).mono ?_; rintro e W2 ⟨rfl, hb2⟩; refine three_then (a := ⟨g, 0, none⟩) (b := ⟨g, 1, none⟩) (c := ⟨g, 2, none⟩) (u := .int .u8 k) (v := .string s1) (x := .slice ad n cap) hb2 ?_ ?_ ?_ ?_; exact c0; exact c1; exact c2; intro d0 d1 d2)
        | (go_at_call 45; refine (hex _).mono ?_; rintro e W3 ⟨rfl, hb3⟩; refine three_then (a := ⟨g, 0, none⟩) (b := ⟨g, 1, none⟩) (c := ⟨g, 2, none⟩) (u := .int .u8 k) (v := .string s1) (x := .slice ad n cap) hb3 ?_ ?_ ?_ ?_; exact d0; exact d1; exact d2; intro e0 e1 e2)
        | (go_at_call 49; have N3 := (hN.drew.below hb2 hs0).below hb3 (Nat.le_trans hs0 hb2.size); refine (hle _ _ _ k s1 ad n cap N3 (Nat.le_trans (Nat.le_trans hs0 hb2.size) hb3.size)).mono ?_; rintro e W4 ⟨rfl, hb4⟩; refine three_then (a := ⟨g, 0, none⟩) (b := ⟨g, 1, none⟩) (c := ⟨g, 2, none⟩) (u := .int .u8 k) (v := .string s1) (x := .slice ad n cap) hb4 ?_ ?_ ?_ ?_; exact e0; exact e1; exact e2; intro f0 f1 f2))
    all_goals go_wp2_with fail
    all_goals
      go_ret
      have h1 := HV.out
      have h2 := h1.drew.trans (hb2.mono h1.size)
      have h3 := h2.trans (hb3.mono h2.size)
      exact ⟨rfl, h3.trans (hb4.mono h3.size)⟩
end Go.Proofs.YtnejphdbnfdbhaaGreatDoor

namespace Go.Proofs.YtnejphdbnfdbhaaGreatDoor
open Go.ChangeShapes Go.WideShapes Go.ChangeAt Go.RowKit Go.Shelf
attribute [local go_sem] Oper.semAt_some
set_option maxRecDepth 100000

theorem failZ_no {t : ByteArray} {s : Int} (h : reachB t s 1 = false) : failZ t s = -1 := by
  unfold failZ
  split
  · rename_i nd hP
    unfold reachB at h
    rw [hP] at h
    have : isSet s = false := by
      cases hs : isSet s with
      | false => rfl
      | true => rw [hs] at h; cases h
    rw [this]
    rfl
  · rfl
set_option maxHeartbeats 2000000 in
theorem mfail_no (t : ByteArray) (ht : t.size ≤ 9000000) (s : Int) (w : World) (hb : reachB t s 1 = false) :
    Calls Tryz.prog 27 #[.string t, .int .i64 s] w fun e w' => e = .returned (.int .i64 (-1)) ∧ Below w.heap.size w w' := by
  have hask := masked21 t ht s 1
  rw [hb] at hask
  clear hb
  go_enter Tryz.func27, Tryz.ntmps27
  go_wp2_with (go_at_call 43; refine (hask _).mono ?_; rintro e W1 ⟨hb1, kk, s1, ad, n, cap, rfl, hnd⟩)
  go_loopw [] (fun wr => Below w.heap.size w wr) (fun _ => 0)
  case atStart => exact hb1.alloc hb1.size _
  case round =>
    go_wp2_with fail
    go_ret
    exact ⟨rfl, hrel⟩
theorem field_err (a b : Int) (W : World) : (Instr.field 75 (.agg #[.int .i64 a, .int .i64 b]) 1).run Tryz.prog W = .ok (.int .i64 b) W := by kernel_rfl
set_option maxHeartbeats 4000000 in
theorem mfail_yes (t : ByteArray) (ht : t.size ≤ 9000000) (m : Nat) (hm : m < 512) {nd : Node} (hP : readP t.toList = some nd) (w : World) :
    Calls Tryz.prog 27 #[.string t, .int .i64 (m : Int)] w fun e w' => e = .returned (.int .i64 (if (runR nd m).2 ≠ 0 then ((failN nd m : Nat) : Int) else -1)) ∧ Below w.heap.size w w' := by
  have hask := masked21 t ht (m : Int) 1
  rw [(reach_ok hP hm (x := 1) (.inr rfl)).2] at hask
  obtain ⟨hok, _⟩ := readP_iff.1 hP
  have hrun := fun T (hT : T ≤ 12) W lo hi k s ad n cap h h2 => nrun21 T hT nd hok W lo hi k s ad n cap m h h2 hm
  have HP := Lib.hid hP
  clear hP
  obtain ⟨res, hres⟩ : ∃ res : Int, res = if (runR nd m).2 ≠ 0 then ((failN nd m : Nat) : Int) else -1 := ⟨_, rfl⟩
  rw [← hres]
  go_enter Tryz.func27, Tryz.ntmps27
  go_wp2_with (go_at_call 43; refine (hask _).mono ?_; rintro e W1 ⟨hb1, k, s1, ad, n, cap, rfl, hnd⟩)
  have hal : Below W1.heap.size W1 (W1.alloc (.cells #[.int .u8 k, .string s1, .slice ad n cap] 69)) := (Below.refl _ W1).alloc (Nat.le_refl _) _
  have hN := (hnd nd HP.out).below hal (Nat.le_refl _)
  have hV := hb1.trans (hal.mono hb1.size)
  have X0 := Lies.new W1 #[.int .u8 k, .string s1, .slice ad n cap] 69
  have hs0 : W1.heap.size ≤ (W1.alloc (.cells #[.int .u8 k, .string s1, .slice ad n cap] 69)).heap.size := hal.size
  clear hal hnd hb1
  generalize W1.alloc (.cells #[.int .u8 k, .string s1, .slice ad n cap] 69) = V at hN hV X0 hs0 ⊢
  generalize W1.heap.size = g at hN X0 hs0 ⊢
  have HV := Lib.hid hV
  clear hV
  have h0T := fun T (h : (runR nd m).2 = 0) => fail_none hok hm h T
  have h12 : (runR nd m).2 ≠ 0 → (runT 12 nd m).2 ≠ 0 := fun h => of_decide_eq_true (fail_twelve hok hm h)
  have hfor : ∀ t, t ≤ 12 → (∀ j, j < t → (runT j nd m).2 = 0) → (runT t nd m).2 ≠ 0 → failN nd m = t := fun t ht hno hy => least_at 12 0 t (Nat.zero_le _) (by omega) (fun j _ hj => decide_eq_false (by simpa using hno j hj)) (decide_eq_true hy)
  generalize (runR nd m).2 = fin at h0T h12 hres
  have hr1 : fin ≠ 0 → res = ((failN nd m : Nat) : Int) := fun h => by rw [hres, if_pos h]
  have hr0 : ¬ (fin ≠ 0) → res = -1 := fun h => by rw [hres, if_neg h]
  clear hres
  go_loopw [7] (fun i wr => ∃ T : Nat, T ≤ 13 ∧ i = .int .i64 (T : Int) ∧ (∀ j, j < T → (runT j nd m).2 = 0) ∧ Below V.heap.size V wr) (fun i _ => 13 - (intOf i).toNat)
  case atStart => exact ⟨0, by omega, rfl, fun j hj => by omega, Below.refl _ _⟩
  case round =>
    obtain ⟨T, hT, rfl, hno, hB⟩ := hrel
    have HNO := Lib.hid hno
    clear hno
    have hfe := field_err
    by_cases hlt : T ≤ 12
    · have hT12 : (T : Int) ≤ 12 := by omega
      have X1 := lies_kept hB X0
      obtain ⟨c0, c1, c2, _⟩ := Var.cells X1
      have hr2 := hrun T hlt wr _ _ k s1 ad n cap (hN.below hB hs0) (Nat.le_trans hs0 hB.size)
      have hfor2 := hfor T hlt HNO.out
      have h0T2 := h0T T
      have hnx : (runT T nd m).2 = 0 → ∀ j, j < T + 1 → (runT j nd m).2 = 0 := fun h j hj => by
        by_cases he : j = T
        · rw [he]; exact h
        · exact HNO.out j (by omega)
      generalize runT T nd m = o at hr2 hfor2 h0T2 hnx
      by_cases ho : o.2 = 0
      · have hoi : ((o.2 : Int) = 0) := by omega
        have HX := Lib.hid (hnx ho)
        clear hfor2 h0T2 hnx h0T h12 hfor hr1 hr0
        obtain ⟨o1, o2⟩ := o
        dsimp only at ho hoi
        subst ho
        go_wp2_with (go_at_call 46; refine hr2.mono ?_; rintro e W2 ⟨rfl, hb2⟩)
        go_roundw
        case rel => exact ⟨T + 1, by omega, by go_num, HX.out, hB.trans (hb2.mono hB.size)⟩
        case measure => simp [intOf]; omega
      · have hoi : ¬ ((o.2 : Int) = 0) := by omega
        have hfin : fin ≠ 0 := fun h => ho (h0T2 h)
        have HR := Lib.hid ((hr1 hfin).trans (by rw [hfor2 ho]))
        clear hr1 hr0 hfor2 h0T2 hnx h0T h12 hfor
        go_wp2_with (go_at_call 46; refine hr2.mono ?_; rintro e W2 ⟨rfl, hb2⟩)
        go_ret
        have h1 := HV.out.trans (hB.mono HV.out.size)
        exact ⟨by rw [show res = (T : Int) from HR.out]; rfl, h1.trans (hb2.mono h1.size)⟩
    · have hT12 : ¬ ((T : Int) ≤ 12) := by omega
      have hfin : ¬ (fin ≠ 0) := fun h => h12 h (HNO.out 12 (by omega))
      have HR := Lib.hid (hr0 hfin)
      clear h0T h12 hfor hr1 hr0
      go_wp2_with fail
      go_ret
      exact ⟨by rw [HR.out]; rfl, HV.out.trans (hB.mono HV.out.size)⟩
theorem mfail9 (t : ByteArray) (ht : t.size ≤ 9000000) (s : Int) (w : World) :
    Calls Tryz.prog 27 #[.string t, .int .i64 s] w fun e w' => e = .returned (.int .i64 (failZ t s)) ∧ Below w.heap.size w w' := by
  cases hb : reachB t s 1 with
  | false =>
    rw [failZ_no hb]
    exact mfail_no t ht s w hb
  | true =>
    obtain ⟨nd, m, hP, hm, rfl, hx, hn⟩ := reach_true hb
    have h0 : failZ t (m : Int) = if (runR nd m).2 ≠ 0 then ((failN nd m : Nat) : Int) else -1 := by
      have h1 : isSet (m : Int) = true := decide_eq_true (by omega)
      unfold failZ
      rw [hP]
      dsimp only
      rw [h1, Int.toNat_natCast, Bool.true_and]
      by_cases h : (runR nd m).2 ≠ 0
      · rw [if_pos h, if_pos (decide_eq_true h)]
      · rw [if_neg h, if_neg (by simpa using h)]
    rw [h0]
    exact mfail_yes t ht m hm hP w
end Go.Proofs.YtnejphdbnfdbhaaGreatDoor
