/- The model's running: a program from a set. -/
import Derived.Test.YtgkgkaapjljpcaaDoorM3
import Derived.Test.YtgkgkaapjljpcaaDoorQC
namespace Go.Proofs.YtgkgkaapjljpcaaDoor
open Go.ChangeShapes Go.WideShapes Go.ChangeAt Go.RowKit Go.Shelf
attribute [local go_sem] Oper.semAt_some
set_option maxRecDepth 100000

theorem eqMod (a b c e : Int) (w : World) : (Op.equalIn 10000 56 (.agg #[.int .i64 a, .int .i64 b]) (.agg #[.int .i64 c, .int .i64 e])).run Tryd.prog w = .ok (a == c && b == e) w := by
  rw [show (10000 : Nat) = 9999 + 1 from rfl, run_equalIn_struct w 9999 56 _ _ (by kernel_rfl) (by kernel_rfl)]
  have hl : (Tryd.prog.fieldsOf 56).toList = [⟨"Ok", 3, 0, false, "", "", 0⟩, ⟨"Error", 3, 1, false, "", "", 8⟩] := by kernel_rfl
  have u3 : ∀ (x y : Int) (w : World), (Op.equalIn 9999 3 (.int .i64 x) (.int .i64 y)).run Tryd.prog w = .ok (x == y) w := fun x y w => run_equalIn_int w 9998 3 .i64 .i64 x y Tryd.underlying3
  have p0 : ∀ (x y : Int) (w : World), (part 3 #[.int .i64 x, .int .i64 y] 0).run Tryd.prog w = .ok (.int .i64 x) w := fun x y w => by kernel_rfl
  have p1 : ∀ (x y : Int) (w : World), (part 3 #[.int .i64 x, .int .i64 y] 1).run Tryd.prog w = .ok (.int .i64 y) w := fun x y w => by kernel_rfl
  rw [hl]
  have n1 : "Ok" ≠ "_" := by decide
  have n2 : "Error" ≠ "_" := by decide
  simp only [Op.eqFields, if_pos n1, if_pos n2, Sem.run_bind, p0, u3, Result.andThen_ok]
  cases h : (a == c) <;> cases h' : (b == e) <;> simp [p1, u3, h']
theorem eqModV (x y : Nat × Nat) (w : World) : (Op.equalIn 10000 56 (.agg #[.int .i64 (x.1 : Int), .int .i64 (x.2 : Int)]) (.agg #[.int .i64 (y.1 : Int), .int .i64 (y.2 : Int)])).run Tryd.prog w = .ok (decide (x = y)) w := by
  rw [eqMod, same_out]

/-- What is asked of a program in memory. -/
def MRuns (nd : Node) : Prop := ∀ (W : World) (lo hi : Nat) (k : Int) (s : ByteArray) (ad : Option Addr) (n cap m : Nat), NodeIs W lo hi nd k s ad n cap → hi ≤ W.heap.size → m < 512 →
  Calls Tryd.prog 43 #[.agg #[.int .u8 k, .string s, .slice ad n cap], .int .i64 (m : Int)] W (RunsTo W (runR nd m))

theorem Lies.third {W : World} {b : Nat} {x y z : Value} {t : TypeId} (h : Lies W b #[x, y, z] t) : W.cell? ⟨b, 2, none⟩ = some z := by
  unfold Lies at h
  simp [World.cell?, h]
theorem lies_new2 (W : World) (o : Obj) (cs : Array Value) (t : TypeId) : Lies ((W.alloc o).alloc (.cells cs t)) (W.heap.size + 1) cs t := by
  have h := Lies.new (W.alloc o) cs t
  rwa [World.size_alloc] at h
/-- How a run ends: its result's block is written. -/
theorem run_out {W Y : World} {b : Nat} {x : Nat × Nat} {p q : Value} (hL : Lies Y b #[p, q] 56) (hb : W.heap.size ≤ b) (hB : Below W.heap.size W Y) :
    Lies ((Y.setCell ⟨b, 0, none⟩ (.int .i64 (x.1 : Int))).setCell ⟨b, 1, none⟩ (.int .i64 (x.2 : Int))) b #[.int .i64 (x.1 : Int), .int .i64 (x.2 : Int)] 56 ∧
      Below W.heap.size W ((Y.setCell ⟨b, 0, none⟩ (.int .i64 (x.1 : Int))).setCell ⟨b, 1, none⟩ (.int .i64 (x.2 : Int))) :=
  ⟨(hL.set0 _).set1 _, (hB.setCell (p := ⟨b, 0, none⟩) hb _).setCell (p := ⟨b, 1, none⟩) hb _⟩

set_option maxHeartbeats 4000000 in
theorem mrun_atom (a : List UInt8) (hok : (Node.atom a).ok) : MRuns (.atom a) := by
  intro W lo hi k s ad n cap m h hhi hm
  obtain ⟨rfl, rfl, rfl⟩ := h
  have hra := matom40 a hok m hm
  generalize runR (.atom a) m = x at hra ⊢
  have L0 := lies_new2 W (.cells #[.int .u8 97, .string ⟨a.toArray⟩, .slice ad 0 cap] 52) #[.int .i64 0, .int .i64 0] 56
  have hA : Below W.heap.size W ((W.alloc (.cells #[.int .u8 97, .string ⟨a.toArray⟩, .slice ad 0 cap] 52)).alloc (.cells #[.int .i64 0, .int .i64 0] 56)) := ((Below.refl _ W).alloc (Nat.le_refl _) _).alloc (by simp) _
  go_enter Tryd.func43, Tryd.ntmps43
  go_wp2_with (go_at_call 62; refine (hra _).mono ?_; rintro e W2 ⟨rfl, hb2⟩; have L := lies_kept hb2 L0; obtain ⟨q0, q1, q2, q3⟩ := L.cells)
  obtain ⟨RS, RB⟩ := run_out (x := x) L (Nat.le_succ _) (hA.trans (hb2.mono hA.size))
  obtain ⟨s0, s1, _, _⟩ := RS.cells
  clear q0 q1 q2 q3 L RS
  exact bodyPost_ret (v := .agg #[.int .i64 (x.1 : Int), .int .i64 (x.2 : Int)]) (by simp [results, Tryd.results43, go_sem, s0, s1]) rfl ⟨rfl, RB⟩

theorem run_pair (k0 : UInt8) (p q : Node) (hk : k0 = 59 ∨ k0 = 124) (m : Nat) : (k0 = 59 ∧ runR (.pair k0 p q) m = ((runR q (runR p m).1).1, (runR p m).2 ||| (runR q (runR p m).1).2)) ∨ (k0 = 124 ∧ runR (.pair k0 p q) m = both2 (runR p m) (runR q m)) := by
  rcases hk with rfl | rfl
  · exact .inl ⟨rfl, run_seq p q m⟩
  · exact .inr ⟨rfl, run_choice p q m⟩

set_option maxHeartbeats 4000000 in
theorem mrun_choice (p q : Node) (hp : p.ok) (hq : q.ok) (IH1 : MRuns p) (IH2 : MRuns q) : MRuns (.pair 124 p q) := by
  intro W lo hi k s ad n cap m h hhi hm
  obtain ⟨rfl, rfl, rfl, g, rfl, hg1, hg2, k1, s1, ad1, n1, cap1, k2, s2, ad2, n2, cap2, ⟨c0, c1, c2⟩, ⟨c3, c4, c5⟩, hnp, hnq⟩ := h
  have hx := run_small hp m hm
  have hy := run_small hq m hm
  have H1 := fun W' h => IH1 W' lo hi k1 s1 ad1 n1 cap1 m h
  have H2 := fun W' h => IH2 W' lo hi k2 s2 ad2 n2 cap2 m h
  rw [run_choice]
  generalize runR p m = x at H1 hx ⊢
  generalize runR q m = y at H2 hy ⊢
  have hor1 := or_nat x.1 y.1 (by have := hx.1; omega) (by have := hy.1; omega)
  have hor2 := or_nat x.2 y.2 (by have := hx.2; omega) (by have := hy.2; omega)
  have hgW : g < W.heap.size := Nat.lt_of_lt_of_le hg2 hhi
  show Calls Tryd.prog 43 #[.agg #[.int .u8 124, .string ⟨#[]⟩, .slice (some ⟨g, 0, none⟩) 2 cap], .int .i64 (m : Int)] W _
  have hA : Below W.heap.size W ((W.alloc (.cells #[.int .u8 124, .string ⟨#[]⟩, .slice (some ⟨g, 0, none⟩) 2 cap] 52)).alloc (.cells #[.int .i64 0, .int .i64 0] 56)) := ((Below.refl _ W).alloc (Nat.le_refl _) _).alloc (by simp) _
  have B0 : Lies ((W.alloc (.cells #[.int .u8 124, .string ⟨#[]⟩, .slice (some ⟨g, 0, none⟩) 2 cap] 52)).alloc (.cells #[.int .i64 0, .int .i64 0] 56)) W.heap.size #[.int .u8 124, .string ⟨#[]⟩, .slice (some ⟨g, 0, none⟩) 2 cap] 52 := (Lies.new W _ _).alloc _
  have L0 := lies_new2 W (.cells #[.int .u8 124, .string ⟨#[]⟩, .slice (some ⟨g, 0, none⟩) 2 cap] 52) #[.int .i64 0, .int .i64 0] 56
  go_enter Tryd.func43, Tryd.ntmps43
  go_wp2_with fail
  generalize (W.alloc (.cells #[.int .u8 124, .string ⟨#[]⟩, .slice (some ⟨g, 0, none⟩) 2 cap] 52)).alloc (.cells #[.int .i64 0, .int .i64 0] 56) = V at hA B0 L0 ⊢
  have NP := hnp.below hA hhi
  have NQ := hnq.below hA hhi
  have hhV : hi ≤ V.heap.size := Nat.le_trans hhi hA.size
  refine (H1 V NP hhV hm).mono ?_
  rintro e W1 ⟨rfl, hb1⟩
  have e3 := cellAlloc (.cells #[.int .i64 (x.1 : Int), .int .i64 (x.2 : Int)] 56) (keepCell hb1 (keepCell hA c3))
  have e4 := cellAlloc (.cells #[.int .i64 (x.1 : Int), .int .i64 (x.2 : Int)] 56) (keepCell hb1 (keepCell hA c4))
  have e5 := cellAlloc (.cells #[.int .i64 (x.1 : Int), .int .i64 (x.2 : Int)] 56) (keepCell hb1 (keepCell hA c5))
  have hal : Below W1.heap.size W1 (W1.alloc (.cells #[.int .i64 (x.1 : Int), .int .i64 (x.2 : Int)] 56)) := (Below.refl _ _).alloc (Nat.le_refl _) _
  have NQ1 := (NQ.below hb1 hhV).below hal (Nat.le_trans hhV hb1.size)
  have B1 := (lies_kept hb1 B0).alloc (.cells #[.int .i64 (x.1 : Int), .int .i64 (x.2 : Int)] 56)
  have L1 := (lies_kept hb1 L0).alloc (.cells #[.int .i64 (x.1 : Int), .int .i64 (x.2 : Int)] 56)
  have LX := Lies.new W1 #[.int .i64 (x.1 : Int), .int .i64 (x.2 : Int)] 56
  have hh1 : hi ≤ (W1.alloc (.cells #[.int .i64 (x.1 : Int), .int .i64 (x.2 : Int)] 56)).heap.size := Nat.le_trans (Nat.le_trans hhV hb1.size) hal.size
  have hA1 := (hA.trans (hb1.mono hA.size)).trans (hal.mono (Nat.le_trans hA.size hb1.size))
  have b2 := B1.third
  go_wp2_with fail
  refine (H2 _ NQ1 hh1 hm).mono ?_
  rintro e W2 ⟨rfl, hb2⟩
  have L2 := (lies_kept hb2 L1).alloc (.cells #[.int .i64 (y.1 : Int), .int .i64 (y.2 : Int)] 56)
  have LX2 := (lies_kept hb2 LX).alloc (.cells #[.int .i64 (y.1 : Int), .int .i64 (y.2 : Int)] 56)
  have LY := Lies.new W2 #[.int .i64 (y.1 : Int), .int .i64 (y.2 : Int)] 56
  have hA2 := (hA1.trans (hb2.mono hA1.size)).alloc (Nat.le_trans hA1.size hb2.size) (.cells #[.int .i64 (y.1 : Int), .int .i64 (y.2 : Int)] 56)
  have OUT := run_out (x := (x.1 ||| y.1, x.2 ||| y.2)) L2 (Nat.le_succ _) hA2
  dsimp only at OUT
  have OUT := Lib.hid OUT
  obtain ⟨x0, x1, _, _⟩ := LX2.cells
  obtain ⟨y0, y1, _, _⟩ := LY.cells
  obtain ⟨q0, q1, q2, q3⟩ := L2.cells
  clear e3 e4 e5 b2 B1 L1 LX hA1 hA2 L2 LX2 LY c0 c1 c2 c3 c4 c5 hb1 hb2 NQ1 NP NQ B0 L0
  go_wp2_with fail
  obtain ⟨RS, RB⟩ := OUT.out
  obtain ⟨s0, s1, _, _⟩ := RS.cells
  exact bodyPost_ret (v := .agg #[.int .i64 ((x.1 ||| y.1 : Nat) : Int), .int .i64 ((x.2 ||| y.2 : Nat) : Int)]) (by simp [results, Tryd.results43, go_sem, s0, s1]) rfl ⟨rfl, RB⟩

theorem cell_g {V W : World} {a : Addr} {p : Value} (G : V.grownBy W none) (h : V.cell? a = some p) : W.cell? a = some p := (World.cell?_of_block (G.block a.block (lt_cell h) (by simp))).trans h
theorem five_g {V W : World} {a b c d e : Addr} {p q r s t : Value} (G : V.grownBy W none) (h : V.cell? a = some p ∧ V.cell? b = some q ∧ V.cell? c = some r ∧ V.cell? d = some s ∧ V.cell? e = some t) :
    W.cell? a = some p ∧ W.cell? b = some q ∧ W.cell? c = some r ∧ W.cell? d = some s ∧ W.cell? e = some t :=
  ⟨cell_g G h.1, cell_g G h.2.1, cell_g G h.2.2.1, cell_g G h.2.2.2.1, cell_g G h.2.2.2.2⟩
theorem cell_set2 {W : World} {a : Addr} {u p q : Value} {o : Nat} (ha : a.block ≠ o) (h : W.cell? a = some u) : ((W.setCell ⟨o, 0, none⟩ p).setCell ⟨o, 1, none⟩ q).cell? a = some u := (two_set ha ha h h).1
theorem five_set {V W : World} {a b c d e : Addr} {p q r s t x y : Value} (hV : V.cell? a = some p ∧ V.cell? b = some q ∧ V.cell? c = some r ∧ V.cell? d = some s ∧ V.cell? e = some t)
    (h : W.cell? a = some p ∧ W.cell? b = some q ∧ W.cell? c = some r ∧ W.cell? d = some s ∧ W.cell? e = some t) :
    ((W.setCell ⟨V.heap.size, 0, none⟩ x).setCell ⟨V.heap.size, 1, none⟩ y).cell? a = some p ∧ ((W.setCell ⟨V.heap.size, 0, none⟩ x).setCell ⟨V.heap.size, 1, none⟩ y).cell? b = some q ∧
      ((W.setCell ⟨V.heap.size, 0, none⟩ x).setCell ⟨V.heap.size, 1, none⟩ y).cell? c = some r ∧ ((W.setCell ⟨V.heap.size, 0, none⟩ x).setCell ⟨V.heap.size, 1, none⟩ y).cell? d = some s ∧ ((W.setCell ⟨V.heap.size, 0, none⟩ x).setCell ⟨V.heap.size, 1, none⟩ y).cell? e = some t :=
  ⟨cell_set2 (Nat.ne_of_lt (lt_cell hV.1)) h.1, cell_set2 (Nat.ne_of_lt (lt_cell hV.2.1)) h.2.1, cell_set2 (Nat.ne_of_lt (lt_cell hV.2.2.1)) h.2.2.1, cell_set2 (Nat.ne_of_lt (lt_cell hV.2.2.2.1)) h.2.2.2.1, cell_set2 (Nat.ne_of_lt (lt_cell hV.2.2.2.2)) h.2.2.2.2⟩
/-- Behind the second part: both outcomes and the result's place. -/
structure Seq2 (W Y : World) (g6 g5 : Nat) (x y : Nat × Nat) : Prop where
  new : Lies Y g6 #[.int .i64 (y.1 : Int), .int .i64 (y.2 : Int)] 56
  old : Lies Y g5 #[.int .i64 (x.1 : Int), .int .i64 (x.2 : Int)] 56
  res : Lies Y (W.heap.size + 1) #[.int .i64 0, .int .i64 0] 56
  below : Below W.heap.size W Y
theorem seq_new {W Z : World} {g5 : Nat} {x y : Nat × Nat} (h1 : Lies Z g5 #[.int .i64 (x.1 : Int), .int .i64 (x.2 : Int)] 56) (h2 : Lies Z (W.heap.size + 1) #[.int .i64 0, .int .i64 0] 56) (h3 : Below W.heap.size W Z) :
    Seq2 W (Z.alloc (.cells #[.int .i64 (y.1 : Int), .int .i64 (y.2 : Int)] 56)) Z.heap.size g5 x y := ⟨Lies.new _ _ _, h1.alloc _, h2.alloc _, h3.alloc h3.size _⟩
theorem seq_set {W Z : World} {g6 g5 : Nat} {u v : Value} {x y : Nat × Nat} (h : Lies Z g6 #[u, v] 56) (h1 : Lies Z g5 #[.int .i64 (x.1 : Int), .int .i64 (x.2 : Int)] 56) (h2 : Lies Z (W.heap.size + 1) #[.int .i64 0, .int .i64 0] 56) (h3 : Below W.heap.size W Z)
    (n1 : g5 ≠ g6) (n2 : W.heap.size + 1 ≠ g6) (n3 : W.heap.size ≤ g6) : Seq2 W ((Z.setCell ⟨g6, 0, none⟩ (.int .i64 (y.1 : Int))).setCell ⟨g6, 1, none⟩ (.int .i64 (y.2 : Int))) g6 g5 x y :=
  ⟨(h.set0 _).set1 _, (h1.other n1 _ _).other n1 _ _, (h2.other n2 _ _).other n2 _ _, (h3.setCell (p := ⟨g6, 0, none⟩) n3 _).setCell (p := ⟨g6, 1, none⟩) n3 _⟩

set_option maxHeartbeats 4000000 in
theorem mrun_seq (p q : Node) (hp : p.ok) (hq : q.ok) (IH1 : MRuns p) (IH2 : MRuns q) : MRuns (.pair 59 p q) := by
  intro W lo hi k s ad n cap m h hhi hm
  obtain ⟨rfl, rfl, rfl, g, rfl, hg1, hg2, k1, s1, ad1, n1, cap1, k2, s2, ad2, n2, cap2, ⟨c0, c1, c2⟩, ⟨c3, c4, c5⟩, hnp, hnq⟩ := h
  have hx := run_small hp m hm
  have hy := run_small hq (runR p m).1 hx.1
  have H1 := fun W' h => IH1 W' lo hi k1 s1 ad1 n1 cap1 m h
  have H2 := fun W' h => IH2 W' lo hi k2 s2 ad2 n2 cap2 (runR p m).1 h
  rw [run_seq]
  generalize runR q (runR p m).1 = y at H2 hy ⊢
  generalize runR p m = x at H1 hx H2 ⊢
  have hor2 := or_nat x.2 y.2 (by have := hx.2; omega) (by have := hy.2; omega)
  have hgW : g < W.heap.size := Nat.lt_of_lt_of_le hg2 hhi
  show Calls Tryd.prog 43 #[.agg #[.int .u8 59, .string ⟨#[]⟩, .slice (some ⟨g, 0, none⟩) 2 cap], .int .i64 (m : Int)] W _
  have hA : Below W.heap.size W ((W.alloc (.cells #[.int .u8 59, .string ⟨#[]⟩, .slice (some ⟨g, 0, none⟩) 2 cap] 52)).alloc (.cells #[.int .i64 0, .int .i64 0] 56)) := ((Below.refl _ W).alloc (Nat.le_refl _) _).alloc (by simp) _
  have B0 : Lies ((W.alloc (.cells #[.int .u8 59, .string ⟨#[]⟩, .slice (some ⟨g, 0, none⟩) 2 cap] 52)).alloc (.cells #[.int .i64 0, .int .i64 0] 56)) W.heap.size #[.int .u8 59, .string ⟨#[]⟩, .slice (some ⟨g, 0, none⟩) 2 cap] 52 := (Lies.new W _ _).alloc _
  have L0 := lies_new2 W (.cells #[.int .u8 59, .string ⟨#[]⟩, .slice (some ⟨g, 0, none⟩) 2 cap] 52) #[.int .i64 0, .int .i64 0] 56
  go_enter Tryd.func43, Tryd.ntmps43
  go_wp2_with fail
  generalize (W.alloc (.cells #[.int .u8 59, .string ⟨#[]⟩, .slice (some ⟨g, 0, none⟩) 2 cap] 52)).alloc (.cells #[.int .i64 0, .int .i64 0] 56) = V at hA B0 L0 ⊢
  have NP := hnp.below hA hhi
  have NQ := hnq.below hA hhi
  have hhV : hi ≤ V.heap.size := Nat.le_trans hhi hA.size
  refine (H1 V NP hhV hm).mono ?_
  rintro e W1 ⟨rfl, hb1⟩
  have hal : Below W1.heap.size W1 (W1.alloc (.cells #[.int .i64 (x.1 : Int), .int .i64 (x.2 : Int)] 56)) := (Below.refl _ _).alloc (Nat.le_refl _) _
  have NQ1 := (NQ.below hb1 hhV).below hal (Nat.le_trans hhV hb1.size)
  have B1 := (lies_kept hb1 B0).alloc (.cells #[.int .i64 (x.1 : Int), .int .i64 (x.2 : Int)] 56)
  have L1 := (lies_kept hb1 L0).alloc (.cells #[.int .i64 (x.1 : Int), .int .i64 (x.2 : Int)] 56)
  have LX := Lies.new W1 #[.int .i64 (x.1 : Int), .int .i64 (x.2 : Int)] 56
  have hh1 : hi ≤ (W1.alloc (.cells #[.int .i64 (x.1 : Int), .int .i64 (x.2 : Int)] 56)).heap.size := Nat.le_trans (Nat.le_trans hhV hb1.size) hal.size
  have hA1 := (hA.trans (hb1.mono hA.size)).trans (hal.mono (Nat.le_trans hA.size hb1.size))
  have S1 : _ ∧ _ ∧ _ ∧ _ ∧ _ := ⟨B1.third, cellAlloc (.cells #[.int .i64 (x.1 : Int), .int .i64 (x.2 : Int)] 56) (keepCell hb1 (keepCell hA c3)), cellAlloc (.cells #[.int .i64 (x.1 : Int), .int .i64 (x.2 : Int)] 56) (keepCell hb1 (keepCell hA c4)), cellAlloc (.cells #[.int .i64 (x.1 : Int), .int .i64 (x.2 : Int)] 56) (keepCell hb1 (keepCell hA c5)), LX.cells.1⟩
  have HS := Lib.hid S1
  clear S1 c0 c1 c2 c3 c4 c5 B0 B1 NP NQ hnp hnq hal H1
  go_wp2_with fail
  generalize W1.alloc (.cells #[.int .i64 (x.1 : Int), .int .i64 (x.2 : Int)] 56) = V1 at NQ1 L1 LX hh1 hA1 HS ⊢
  generalize W1.heap.size = g5 at LX HS ⊢
  have S1 := HS.out
  obtain ⟨a1, a2, a3, a4, a5⟩ := HS.out
  have NQa := NQ1.below ((Below.refl _ V1).alloc (Nat.le_refl _) (.cells #[.int .i64 0, .int .i64 0] 56)) hh1
  have hha : hi ≤ (V1.alloc (.cells #[.int .i64 0, .int .i64 0] 56)).heap.size := Nat.le_trans hh1 (by simp)
  clear HS hb1 hA L0
  have HN := Lib.hid (And.intro (And.intro NQ1 hh1) (And.intro NQa hha))
  clear NQ1 hh1 NQa hha
  go_region_held3 (fun w' => w'.cell? ⟨W.heap.size, 2, none⟩ = some (.slice (some ⟨g, 0, none⟩) 2 cap) ∧ w'.cell? ⟨g, 3, none⟩ = some (.int .u8 k2) ∧ w'.cell? ⟨g, 4, none⟩ = some (.string s2) ∧ w'.cell? ⟨g, 5, none⟩ = some (.slice ad2 n2 cap2) ∧ w'.cell? ⟨g5, 0, none⟩ = some (.int .i64 (x.1 : Int)))
    (first | exact S1 | exact S2 | exact five_g (World.grownBy_alloc _ _ none) S1 | exact five_g (World.grownBy_alloc _ _ none) S2 | exact five_set S1 S2 | go_keep)
    (first
      | (go_at_call 43; refine (H2 _ ?_ ?_ hx.1).mono ?_; exact HN.out.1.1.drew; exact HN.out.1.2; rintro e W2 ⟨rfl, hb2⟩; have G2 := grown_trans_b (drewG (below_self_grown V1 none)) hb2; have S2 := five_g G2 S1)
      | (go_at_call 43; refine (H2 _ ?_ ?_ hx.1).mono ?_; exact HN.out.2.1.drew; exact HN.out.2.2; rintro e W2 ⟨rfl, hb2⟩; have G2 := grown_trans_b (drewG (World.grownBy_alloc V1 (.cells #[.int .i64 0, .int .i64 0] 56) none)) hb2; have S2 := five_g G2 S1; have hN := lies_kept hb2 (Lies.new V1 #[.int .i64 0, .int .i64 0] 56); obtain ⟨n0, n1, n2, n3⟩ := hN.cells))
  all_goals
    have LX2 := LX.kept G2 (by simp)
    have L2 := L1.kept G2 (by simp)
    have hA2 : Below W.heap.size W W2 := hA1.grown G2 hA1.size (fun i e => by cases e)
  · have R := seq_new (y := y) LX2 L2 hA2
    generalize W2.alloc (.cells #[.int .i64 (y.1 : Int), .int .i64 (y.2 : Int)] 56) = Y at R ⊢
    generalize W2.heap.size = g6 at R ⊢
    have OUT := run_out (x := (y.1, x.2 ||| y.2)) R.res (Nat.le_succ _) R.below
    dsimp only at OUT
    have OUT := Lib.hid OUT
    obtain ⟨x0, x1, _, _⟩ := R.old.cells
    obtain ⟨y0, y1, _, _⟩ := R.new.cells
    obtain ⟨q0, q1, q2, q3⟩ := R.res.cells
    clear a1 a2 a3 a4 a5 S1 S2 LX2 L2 hA2 R G2 hb2 LX L1 hA1
    go_wp2_with fail
    obtain ⟨RS, RB⟩ := OUT.out
    obtain ⟨s0, s1, _, _⟩ := RS.cells
    exact bodyPost_ret (v := .agg #[.int .i64 (y.1 : Int), .int .i64 ((x.2 ||| y.2 : Nat) : Int)]) (by simp [results, Tryd.results43, go_sem, s0, s1]) rfl ⟨rfl, RB⟩
  · have R := seq_set (y := y) hN LX2 L2 hA2 (Nat.ne_of_lt LX.lt) (Nat.ne_of_lt L1.lt) hA1.size
    clear hN n0 n1 n2 n3
    generalize (W2.setCell ⟨V1.heap.size, 0, none⟩ (.int .i64 (y.1 : Int))).setCell ⟨V1.heap.size, 1, none⟩ (.int .i64 (y.2 : Int)) = Y at R ⊢
    generalize V1.heap.size = g6 at R ⊢
    have OUT := run_out (x := (y.1, x.2 ||| y.2)) R.res (Nat.le_succ _) R.below
    dsimp only at OUT
    have OUT := Lib.hid OUT
    obtain ⟨x0, x1, _, _⟩ := R.old.cells
    obtain ⟨y0, y1, _, _⟩ := R.new.cells
    obtain ⟨q0, q1, q2, q3⟩ := R.res.cells
    clear a1 a2 a3 a4 a5 S1 S2 LX2 L2 hA2 R G2 hb2 LX L1 hA1
    go_wp2_with fail
    obtain ⟨RS, RB⟩ := OUT.out
    obtain ⟨s0, s1, _, _⟩ := RS.cells
    exact bodyPost_ret (v := .agg #[.int .i64 (y.1 : Int), .int .i64 ((x.2 ||| y.2 : Nat) : Int)]) (by simp [results, Tryd.results43, go_sem, s0, s1]) rfl ⟨rfl, RB⟩
end Go.Proofs.YtgkgkaapjljpcaaDoor

