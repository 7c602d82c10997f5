/- Chapter 10, the model: one run of a program with choices. -/
import Derived.Test.YtfoifcbpognjaaaDoorJC
import Derived.Test.YtfoifcbpognjaaaDoorQC
namespace Go.Proofs.YtfoifcbpognjaaaDoor
open Go.ChangeShapes Go.WideShapes Go.ChangeAt Go.RowKit Go.Shelf
attribute [local go_sem] Oper.semAt_some
set_option maxRecDepth 100000

theorem lt_cellJ {W : World} {a : Addr} {v : Value} (h : W.cell? a = some v) : a.block < W.heap.size := World.block_lt_of_cell? W a h
theorem Foot.cell {rb g j : Nat} {o o' : Option Nat} {W W' : World} {v : Value} (h : Foot rb o o' W W') (hg : g ≠ rb) (ho : some g ≠ o) (hc : W.cell? ⟨g, j, none⟩ = some v) : W'.cell? ⟨g, j, none⟩ = some v :=
  (World.cell?_of_block (w := W) (w' := W') (a := ⟨g, j, none⟩) (h.block g (lt_cellJ hc) hg ho)).trans hc
theorem Foot.same {rb lo hi : Nat} {o o' : Option Nat} {W W' : World} (h : Foot rb o o' W W') (hr : hi ≤ rb) (hs : hi ≤ W.heap.size) (ho : ∀ k, o = some k → hi ≤ k) : Same lo hi W W' :=
  fun i _ h2 => h.block i (by omega) (by omega) (fun e => by have := ho i e.symm; omega)
theorem IRow.own {W : World} {B : Nat} {v : Value} {zs : List Int} (h : IRow W B v zs) : ∀ k, v.ownBlock = some k → B ≤ k ∧ k < W.heap.size := by
  rcases h.cases with ⟨rfl, _⟩ | ⟨g, cap, rfl, h1, h2, _⟩
  · intro k e; cases e
  · intro k e; cases e; exact ⟨h1, h2⟩
theorem mends (rb : Nat) (cs : ByteArray) (r : R10) (tv : Value) (W : World) (h : RnAt W rb cs r tv) :
    Calls Tryd.prog 27 #[.pointer (some ⟨rb, 0, none⟩)] W fun e W' => e = .returned (.bool r.ends) ∧ W' = W := by
  obtain ⟨c0, c1, c2, c3, c4, c5⟩ := h.cells
  unfold R10.ends
  cases hs : r.stuck <;> cases he : r.err <;> rw [hs] at c4 <;> rw [he] at c3 <;> simp only [errI, if_true, if_false, Bool.false_eq_true] at c3
  all_goals
    go_enter Tryd.func27, Tryd.ntmps27
    go_wp2_with fail
    go_ret
    exact ⟨rfl, rfl⟩
/-- What a run of a part leaves. -/
def Ran (cs : List UInt8) (rb B : Nat) (o : Option Nat) (r' : R10) (W : World) (e : Ending) (W' : World) : Prop :=
  e = .returned (.tuple #[]) ∧ ∃ tv', RnAt W' rb ⟨cs.toArray⟩ r' tv' ∧ IRow W' B tv' r'.tr ∧ Foot rb o tv'.ownBlock W W'
def MGo (cs : List UInt8) (nd : Node) : Prop := ∀ (W : World) (lo hi : Nat) (k : Int) (s : ByteArray) (ad : Option Addr) (n cap rb B : Nat) (r : R10) (tv : Value), NodeIs W lo hi nd k s ad n cap → hi ≤ rb → hi ≤ B → B ≤ W.heap.size →
  RnAt W rb ⟨cs.toArray⟩ r tv → IRow W B tv r.tr → r.pos ≤ cs.length → r.st < 9 → (go10 cs nd r).tr.length ≤ 1000000 →
  Calls Tryd.prog 19 #[.pointer (some ⟨rb, 0, none⟩), .agg #[.int .u8 k, .string s, .slice ad n cap]] W (Ran cs rb B tv.ownBlock (go10 cs nd r) W)
/-- The variable that holds the program, behind a part of a run. -/
theorem Var.foot {W W' : World} {g rb : Nat} {o o' : Option Nat} {k : Int} {s : ByteArray} {ad : Option Addr} {m cap : Nat} (h : Var W g k s ad m cap) (hf : Foot rb o o' W W') (hg : g ≠ rb) (ho : some g ≠ o) : Var W' g k s ad m cap := by
  unfold Var at *
  exact (hf.block g (Array.getElem?_eq_some_iff.1 h).1 hg ho).trans h
theorem go10_ends {cs : List UInt8} {r : R10} (h : r.ends = true) : ∀ nd : Node, go10 cs nd r = r
  | .atom a => by rw [go10, if_pos h]
  | .loop p => go10_loop_end h
  | .pair k p q => by rw [go10, if_pos h]
set_option maxHeartbeats 4000000 in
theorem mgo_atom (cs : List UInt8) (a : List UInt8)
    (HA : ∀ (W : World) (rb B : Nat) (r : R10) (tv : Value), B ≤ W.heap.size → RnAt W rb ⟨cs.toArray⟩ r tv → IRow W B tv r.tr → r.pos ≤ cs.length → r.st < 9 → r.ends = false → r.tr.length ≤ 1000000 →
      Calls Tryd.prog 28 #[.pointer (some ⟨rb, 0, none⟩), .string ⟨a.toArray⟩] W (Ran cs rb B tv.ownBlock (atom10 cs a r) W)) : MGo cs (.atom a) := by
  intro W lo hi k s ad n cap rb B r tv hN hr hB0 hB hR hI hp hst htr
  obtain ⟨rfl, rfl, rfl⟩ := hN
  obtain ⟨x0, x1, x2, _⟩ := (Var.new W 97 ⟨a.toArray⟩ ad 0 cap).cells
  have hA : Below W.heap.size W (W.alloc (.cells #[.int .u8 97, .string ⟨a.toArray⟩, .slice ad 0 cap] 41)) := (Below.refl _ _).alloc (Nat.le_refl _) _
  have hR1 := hR.kept hA
  have hI1 := hI.below hA
  have hE := mends rb _ r tv _ hR1
  cases he : r.ends with
  | true =>
    rw [he] at hE
    rw [go10_ends he] at htr ⊢
    go_enter Tryd.func19, Tryd.ntmps19
    go_wp2_with fail
    go_at_call 27
    refine hE.mono ?_
    rintro e W1 ⟨rfl, hW1⟩
    subst hW1
    go_wp2_with fail
    refine bodyPost_ret (results_none rfl _ _ _) rfl ?_
    exact ⟨rfl, tv, hR1, hI1, foot_below _ _ hA⟩
  | false =>
    rw [he] at hE
    have hg : go10 cs (.atom a) r = atom10 cs a r := by rw [go10, if_neg (by simp [he])]
    rw [hg] at htr ⊢
    have hw := went_atom cs a r
    have hA2 := HA _ rb B r tv (Nat.le_trans hB hA.size) hR1 hI1 hp hst he (Nat.le_trans hw.tr htr)
    go_enter Tryd.func19, Tryd.ntmps19
    go_wp2_with fail
    go_at_call 27
    refine hE.mono ?_
    rintro e W1 ⟨rfl, hW1⟩
    subst hW1
    go_wp2_with fail
    go_at_call 28
    refine hA2.mono ?_
    rintro e W2 ⟨rfl, tv2, hR2, hI2, hF2⟩
    go_wp2_with fail
    go_end0
    exact ⟨rfl, tv2, hR2, hI2, (foot_below _ _ hA).trans hF2⟩
set_option maxHeartbeats 4000000 in
theorem mgo_seq (cs : List UInt8) (p q : Node) (IH1 : MGo cs p) (IH2 : MGo cs q) : MGo cs (.pair 59 p q) := by
  intro W lo hi k s ad n cap rb B r tv hN hr hB0 hB hR hI hp hst htr
  obtain ⟨rfl, rfl, rfl, g, rfl, hg1, hg2, k1, s1, ad1, n1, cap1, k2, s2, ad2, n2, cap2, ⟨c0, c1, c2⟩, ⟨c3, c4, c5⟩, hp1, hq1⟩ := hN
  rw [show ((UInt8.toNat 59 : Nat) : Int) = 59 from rfl]
  have hV := Var.new W 59 ⟨#[]⟩ (some ⟨g, 0, none⟩) 2 cap
  have hA : Below W.heap.size W (W.alloc (.cells #[.int .u8 59, .string ⟨#[]⟩, .slice (some ⟨g, 0, none⟩) 2 cap] 41)) := (Below.refl _ _).alloc (Nat.le_refl _) _
  have hgs : g < W.heap.size := lt_cellJ c0
  have hhi : hi ≤ W.heap.size := Nat.le_trans hB0 hB
  have hrl := hR.lt
  have hown := hI.own
  have e0 := (hA.cell (p := ⟨g, 0, none⟩) hgs).trans c0
  have e1 := (hA.cell (p := ⟨g, 1, none⟩) hgs).trans c1
  have e2 := (hA.cell (p := ⟨g, 2, none⟩) hgs).trans c2
  have e3 := (hA.cell (p := ⟨g, 3, none⟩) hgs).trans c3
  have e4 := (hA.cell (p := ⟨g, 4, none⟩) hgs).trans c4
  have e5 := (hA.cell (p := ⟨g, 5, none⟩) hgs).trans c5
  have hR1 := hR.kept hA
  have hI1 := hI.below hA
  have hN1 := hp1.below hA hhi
  have hN2 := hq1.below hA hhi
  have hz : (W.alloc (.cells #[.int .u8 59, .string ⟨#[]⟩, .slice (some ⟨g, 0, none⟩) 2 cap] 41)).heap.size = W.heap.size + 1 := World.size_alloc _ _
  obtain ⟨x0, x1, x2, _⟩ := hV.cells
  have hE := mends rb _ r tv _ hR1
  clear c0 c1 c2 c3 c4 c5
  cases he : r.ends with
  | true =>
    rw [he] at hE
    rw [go10_ends he] at htr ⊢
    go_enter Tryd.func19, Tryd.ntmps19
    go_wp2_with fail
    go_at_call 27
    refine hE.mono ?_
    rintro e W1 ⟨rfl, hW1⟩
    subst hW1
    go_wp2_with fail
    refine bodyPost_ret (results_none rfl _ _ _) rfl ?_
    exact ⟨rfl, tv, hR1, hI1, foot_below _ _ hA⟩
  | false =>
    rw [he] at hE
    have hg : go10 cs (.pair 59 p q) r = go10 cs q (go10 cs p r) := by rw [go10, if_neg (by simp [he]), if_pos rfl]
    rw [hg] at htr ⊢
    have hwp := went_go cs p r
    have hwq := went_go cs q (go10 cs p r)
    have H1 := IH1 _ lo hi k1 s1 ad1 n1 cap1 rb B r tv hN1 hr hB0 (by omega) hR1 hI1 hp hst (Nat.le_trans hwq.tr htr)
    have H2 := fun X tv2 => IH2 X lo hi k2 s2 ad2 n2 cap2 rb B (go10 cs p r) tv2
    generalize go10 cs p r = x at *
    generalize hy : go10 cs q x = y at *
    have HN2 := Lib.hid hN2
    have HO := Lib.hid hown
    clear hN1 hN2 hg hy hown
    go_enter Tryd.func19, Tryd.ntmps19
    go_wp2_with fail
    go_at_call 27
    refine hE.mono ?_
    rintro e W1 ⟨rfl, hW1⟩
    subst hW1
    go_wp2_with fail
    go_at_call 19
    refine H1.mono ?_
    rintro e W2 ⟨rfl, tv2, hR2, hI2, hF2⟩
    have hne : ∀ j, j < hi ∨ j = W.heap.size → some j ≠ tv.ownBlock := fun j hj e => by have := HO.out j e.symm; omega
    have hV2 := hV.foot hF2 (by omega) (hne _ (.inr rfl))
    have d3 := hF2.cell (by omega) (hne g (.inl hg2)) e3
    have d4 := hF2.cell (by omega) (hne g (.inl hg2)) e4
    have d5 := hF2.cell (by omega) (hne g (.inl hg2)) e5
    have hsz := hF2.size
    have hS2 := hF2.same (lo := lo) hr (by omega) (fun k e => by have := HO.out k e; omega)
    have HH2 := H2 W2 tv2 (HN2.out.same hS2) hr hB0 (by omega) hR2 hI2 (hwp.le hp) (hwp.st hst) htr
    obtain ⟨y0, y1, y2, _⟩ := hV2.cells
    clear x0 x1 x2 e0 e1 e2 e3 e4 e5 hz hsz
    go_wp2_with fail
    go_at_call 19
    refine HH2.mono ?_
    rintro e W3 ⟨rfl, tv3, hR3, hI3, hF3⟩
    go_wp2_with fail
    go_end0
    exact ⟨rfl, tv3, hR3, hI3, ((foot_below _ _ hA).trans hF2).trans hF3⟩
set_option maxHeartbeats 4000000 in
theorem mgo_choice (cs : List UInt8) (hcs : cs.length ≤ 9000000) (p q : Node) (IH1 : MGo cs p) (IH2 : MGo cs q) : MGo cs (.pair 124 p q) := by
  intro W lo hi k s ad n cap rb B r tv hN hr hB0 hB hR hI hp hst htr
  obtain ⟨rfl, rfl, rfl, g, rfl, hg1, hg2, k1, s1, ad1, n1, cap1, k2, s2, ad2, n2, cap2, ⟨c0, c1, c2⟩, ⟨c3, c4, c5⟩, hp1, hq1⟩ := hN
  rw [show ((UInt8.toNat 124 : Nat) : Int) = 124 from rfl]
  have hV := Var.new W 124 ⟨#[]⟩ (some ⟨g, 0, none⟩) 2 cap
  have hA : Below W.heap.size W (W.alloc (.cells #[.int .u8 124, .string ⟨#[]⟩, .slice (some ⟨g, 0, none⟩) 2 cap] 41)) := (Below.refl _ _).alloc (Nat.le_refl _) _
  have hgs : g < W.heap.size := lt_cellJ c0
  have hhi : hi ≤ W.heap.size := Nat.le_trans hB0 hB
  have hrl := hR.lt
  have hown := hI.own
  have e0 := (hA.cell (p := ⟨g, 0, none⟩) hgs).trans c0
  have e1 := (hA.cell (p := ⟨g, 1, none⟩) hgs).trans c1
  have e2 := (hA.cell (p := ⟨g, 2, none⟩) hgs).trans c2
  have e3 := (hA.cell (p := ⟨g, 3, none⟩) hgs).trans c3
  have e4 := (hA.cell (p := ⟨g, 4, none⟩) hgs).trans c4
  have e5 := (hA.cell (p := ⟨g, 5, none⟩) hgs).trans c5
  have hR1 := hR.kept hA
  have hI1 := hI.below hA
  have hN1 := hp1.below hA hhi
  have hN2 := hq1.below hA hhi
  have hz : (W.alloc (.cells #[.int .u8 124, .string ⟨#[]⟩, .slice (some ⟨g, 0, none⟩) 2 cap] 41)).heap.size = W.heap.size + 1 := World.size_alloc _ _
  obtain ⟨x0, x1, x2, _⟩ := hV.cells
  have hE := mends rb _ r tv _ hR1
  clear c0 c1 c2 c3 c4 c5
  cases he : r.ends with
  | true =>
    rw [he] at hE
    rw [go10_ends he] at htr ⊢
    go_enter Tryd.func19, Tryd.ntmps19
    go_wp2_with fail
    go_at_call 27
    refine hE.mono ?_
    rintro e W1 ⟨rfl, hW1⟩
    subst hW1
    go_wp2_with fail
    refine bodyPost_ret (results_none rfl _ _ _) rfl ?_
    exact ⟨rfl, tv, hR1, hI1, foot_below _ _ hA⟩
  | false =>
    rw [he] at hE
    have hg : go10 cs (.pair 124 p q) r = (if (took cs [108, 114] r).2 = 108 then go10 cs p (took cs [108, 114] r).1 else if (took cs [108, 114] r).2 = 114 then go10 cs q (took cs [108, 114] r).1 else (took cs [108, 114] r).1) := by rw [go10, if_neg (by simp [he]), if_neg (by decide)]
    rw [hg] at htr ⊢
    have hT := mtake cs [108, 114] hcs (by decide) rb r tv hp _ hR1
    have hwt := went_took cs [108, 114] r
    have hcase : (took cs [108, 114] r).2 = 108 ∨ (took cs [108, 114] r).2 = 114 ∨ (took cs [108, 114] r).2 = 0 := by
      rcases took_cases cs [108, 114] r with h | ⟨c, _, hc, _, h⟩
      · rw [h]; exact .inr (.inr rfl)
      · rw [h]
        simp only [List.mem_cons, List.not_mem_nil, or_false] at hc
        rcases hc with rfl | rfl
        · exact .inl rfl
        · exact .inr (.inl rfl)
    have H1 := fun X => IH1 X lo hi k1 s1 ad1 n1 cap1 rb B (took cs [108, 114] r).1 tv
    have H2 := fun X => IH2 X lo hi k2 s2 ad2 n2 cap2 rb B (took cs [108, 114] r).1 tv
    have htt : (took cs [108, 114] r).1.tr = r.tr := by
      rcases took_cases cs [108, 114] r with h | ⟨c, _, _, _, h⟩ <;> rw [h]
    generalize took cs [108, 114] r = x at *
    have HN1 := Lib.hid hN1
    have HN2 := Lib.hid hN2
    have HO := Lib.hid hown
    clear hN1 hN2 hg hown
    rcases hcase with hc | hc | hc
    · rw [hc] at hT
      rw [if_pos hc] at htr ⊢
      go_enter Tryd.func19, Tryd.ntmps19
      go_wp2_with fail
      go_at_call 27
      refine hE.mono ?_
      rintro e W1 ⟨rfl, hW1⟩
      subst hW1
      go_wp2_with fail
      go_at_call 29
      refine hT.mono ?_
      rintro e W2 ⟨rfl, hR2, hG2⟩
      have hF2 := foot_grown tv.ownBlock hG2
      have hne : ∀ j, j < hi ∨ j = W.heap.size → some j ≠ tv.ownBlock := fun j hj e => by have := HO.out j e.symm; omega
      have hV2 := hV.foot hF2 (by omega) (hne _ (.inr rfl))
      have d0 := hF2.cell (by omega) (hne g (.inl hg2)) e0
      have d1 := hF2.cell (by omega) (hne g (.inl hg2)) e1
      have d2 := hF2.cell (by omega) (hne g (.inl hg2)) e2
      have hsz := hF2.size
      have hS2 := hF2.same (lo := lo) hr (by omega) (fun k e => by have := HO.out k e; omega)
      have hI2 : IRow W2 B tv x.1.tr := by rw [htt]; exact hI1.kept hG2 (.inr (hR1.apart hI1))
      have HH1 := H1 W2 (HN1.out.same hS2) hr hB0 (by omega) hR2 hI2 (hwt.le hp) (hwt.st hst) htr
      obtain ⟨y0, y1, y2, _⟩ := hV2.cells
      clear x0 x1 x2 e0 e1 e2 e3 e4 e5 hz hsz
      go_wp2_with fail
      go_at_call 19
      refine HH1.mono ?_
      rintro e W3 ⟨rfl, tv3, hR3, hI3, hF3⟩
      go_wp2_with fail
      go_end0
      exact ⟨rfl, tv3, hR3, hI3, ((foot_below _ _ hA).trans hF2).trans hF3⟩
    · rw [hc] at hT
      rw [if_neg (by rw [hc]; decide), if_pos hc] at htr ⊢
      go_enter Tryd.func19, Tryd.ntmps19
      go_wp2_with fail
      go_at_call 27
      refine hE.mono ?_
      rintro e W1 ⟨rfl, hW1⟩
      subst hW1
      go_wp2_with fail
      go_at_call 29
      refine hT.mono ?_
      rintro e W2 ⟨rfl, hR2, hG2⟩
      have hF2 := foot_grown tv.ownBlock hG2
      have hne : ∀ j, j < hi ∨ j = W.heap.size → some j ≠ tv.ownBlock := fun j hj e => by have := HO.out j e.symm; omega
      have hV2 := hV.foot hF2 (by omega) (hne _ (.inr rfl))
      have d3 := hF2.cell (by omega) (hne g (.inl hg2)) e3
      have d4 := hF2.cell (by omega) (hne g (.inl hg2)) e4
      have d5 := hF2.cell (by omega) (hne g (.inl hg2)) e5
      have hsz := hF2.size
      have hS2 := hF2.same (lo := lo) hr (by omega) (fun k e => by have := HO.out k e; omega)
      have hI2 : IRow W2 B tv x.1.tr := by rw [htt]; exact hI1.kept hG2 (.inr (hR1.apart hI1))
      have HH2 := H2 W2 (HN2.out.same hS2) hr hB0 (by omega) hR2 hI2 (hwt.le hp) (hwt.st hst) htr
      obtain ⟨y0, y1, y2, _⟩ := hV2.cells
      clear x0 x1 x2 e0 e1 e2 e3 e4 e5 hz hsz
      go_wp2_with fail
      go_at_call 19
      refine HH2.mono ?_
      rintro e W3 ⟨rfl, tv3, hR3, hI3, hF3⟩
      go_wp2_with fail
      go_end0
      exact ⟨rfl, tv3, hR3, hI3, ((foot_below _ _ hA).trans hF2).trans hF3⟩
    · rw [hc] at hT
      rw [if_neg (by rw [hc]; decide), if_neg (by rw [hc]; decide)] at htr ⊢
      go_enter Tryd.func19, Tryd.ntmps19
      go_wp2_with fail
      go_at_call 27
      refine hE.mono ?_
      rintro e W1 ⟨rfl, hW1⟩
      subst hW1
      go_wp2_with fail
      go_at_call 29
      refine hT.mono ?_
      rintro e W2 ⟨rfl, hR2, hG2⟩
      have hF2 := foot_grown tv.ownBlock hG2
      have hI2 : IRow W2 B tv x.1.tr := by rw [htt]; exact hI1.kept hG2 (.inr (hR1.apart hI1))
      go_wp2_with fail
      go_end0
      exact ⟨rfl, tv, hR2, hI2, (foot_below _ _ hA).trans hF2⟩
/-- How many choices are left. -/
def leftR (n rb : Nat) (W : World) : Nat := match W.cell? ⟨rb, 1, none⟩ with | some (.int _ z) => n + 1 - z.toNat | _ => 0
theorem leftR_at {n rb : Nat} {W : World} {cs : ByteArray} {r : R10} {tv : Value} (h : RnAt W rb cs r tv) : leftR n rb W = n + 1 - r.pos := by
  unfold leftR
  rw [h.cells.2.1]
  rfl
set_option maxHeartbeats 4000000 in
theorem mgo_loop (cs : List UInt8) (hcs : cs.length ≤ 9000000) (p : Node) (IH : MGo cs p) : MGo cs (.loop p) := by
  intro W lo hi k s ad n cap rb B r tv hN hr hB0 hB hR hI hp hst htr
  obtain ⟨rfl, rfl, rfl, g, rfl, hg1, hg2, k1, s1, ad1, n1, cap1, c0, c1, c2, hp1⟩ := hN
  have hV := Var.new W 123 ⟨#[]⟩ (some ⟨g, 0, none⟩) 1 cap
  have hA : Below W.heap.size W (W.alloc (.cells #[.int .u8 123, .string ⟨#[]⟩, .slice (some ⟨g, 0, none⟩) 1 cap] 41)) := (Below.refl _ _).alloc (Nat.le_refl _) _
  have hgs : g < W.heap.size := lt_cellJ c0
  have hhi : hi ≤ W.heap.size := Nat.le_trans hB0 hB
  have hrl := hR.lt
  have hown := hI.own
  have e0 := (hA.cell (p := ⟨g, 0, none⟩) hgs).trans c0
  have e1 := (hA.cell (p := ⟨g, 1, none⟩) hgs).trans c1
  have e2 := (hA.cell (p := ⟨g, 2, none⟩) hgs).trans c2
  have hR1 := hR.kept hA
  have hI1 := hI.below hA
  have hN1 := hp1.below hA hhi
  have hz : (W.alloc (.cells #[.int .u8 123, .string ⟨#[]⟩, .slice (some ⟨g, 0, none⟩) 1 cap] 41)).heap.size = W.heap.size + 1 := World.size_alloc _ _
  obtain ⟨x0, x1, x2, _⟩ := hV.cells
  have hE := mends rb _ r tv _ hR1
  clear c0 c1 c2
  cases he : r.ends with
  | true =>
    rw [he] at hE
    rw [go10_ends he] at htr ⊢
    go_enter Tryd.func19, Tryd.ntmps19
    go_wp2_with fail
    go_at_call 27
    refine hE.mono ?_
    rintro e W1 ⟨rfl, hW1⟩
    subst hW1
    go_wp2_with fail
    refine bodyPost_ret (results_none rfl _ _ _) rfl ?_
    exact ⟨rfl, tv, hR1, hI1, foot_below _ _ hA⟩
  | false =>
    rw [he] at hE
    have HN1 := Lib.hid hN1
    have HO := Lib.hid hown
    have hFA := foot_below rb tv.ownBlock hA
    generalize hres : go10 cs (.loop p) r = y at htr ⊢
    clear hN1 hown hA he
    go_enter Tryd.func19, Tryd.ntmps19
    go_wp2_with fail
    go_at_call 27
    refine hE.mono ?_
    rintro e W1 ⟨rfl, hW1⟩
    subst hW1
    go_wp2_with fail
    generalize (W.alloc (.cells #[.int .u8 123, .string ⟨#[]⟩, .slice (some ⟨g, 0, none⟩) 1 cap] 41)) = V at *
    go_loopw [] (fun wr => ∃ (x : R10) (tvx : Value), RnAt wr rb ⟨cs.toArray⟩ x tvx ∧ IRow wr B tvx x.tr ∧ Foot rb tv.ownBlock tvx.ownBlock V wr ∧ go10 cs (.loop p) x = y ∧ x.pos ≤ cs.length ∧ x.st < 9) (fun wr => leftR cs.length rb wr)
    case atStart => exact ⟨r, tv, hR1, hI1, Foot.refl _ _ _, hres, hp, hst⟩
    case round =>
      obtain ⟨x, tvx, hRx, hIx, hFx, hyx, hpx, hsx⟩ := hrel
      have hEx := mends rb _ x tvx wr hRx
      cases he : x.ends with
      | true =>
        rw [he] at hEx
        rw [go10_loop_end he] at hyx
        subst hyx
        go_wp2_with (first | (go_at_call 27; refine hEx.mono ?_; rintro e W1 ⟨rfl, hW1⟩; subst hW1))
        go_end0
        exact ⟨rfl, tvx, hRx, hIx, hFA.trans hFx⟩
      | false =>
        rw [he] at hEx
        have hT := mtake cs [101, 109] hcs (by decide) rb x tvx hpx wr hRx
        have hap := hRx.apart hIx
        rw [go10_loop hpx he] at hyx
        rcases took_cases cs [101, 109] x with ht | ⟨c, hc1, hc2, hlt, ht⟩
        · rw [ht] at hT hyx
          rw [if_neg (show ¬ ((0 : UInt8) = 109) by decide)] at hyx
          subst hyx
          go_wp2_with (first | (go_at_call 27; refine hEx.mono ?_; rintro e W1 ⟨rfl, hW1⟩; subst hW1) | (go_at_call 29; refine hT.mono ?_; rintro e W2 ⟨rfl, hR2, hG2⟩))
          go_end0
          exact ⟨rfl, tvx, hR2, hIx.kept hG2 (.inr hap), (hFA.trans hFx).trans (foot_grown _ hG2)⟩
        · rw [ht] at hT hyx
          simp only [List.mem_cons, List.not_mem_nil, or_false] at hc2
          rcases hc2 with rfl | rfl
          · rw [if_neg (show ¬ ((101 : UInt8) = 109) by decide)] at hyx
            rw [show ((UInt8.toNat 101 : Nat) : Int) = 101 from rfl] at hT
            subst hyx
            clear hc1 ht
            go_wp2_with (first | (go_at_call 27; refine hEx.mono ?_; rintro e W1 ⟨rfl, hW1⟩; subst hW1) | (go_at_call 29; refine hT.mono ?_; rintro e W2 ⟨rfl, hR2, hG2⟩))
            go_end0
            exact ⟨rfl, tvx, hR2, hIx.kept hG2 (.inr hap), (hFA.trans hFx).trans (foot_grown _ hG2)⟩
          · rw [if_pos rfl] at hyx
            rw [show ((UInt8.toNat 109 : Nat) : Int) = 109 from rfl] at hT
            have hwb := went_go cs p ⟨x.pos + 1, x.st, x.err, x.stuck, x.tr⟩
            have hwl := went_go cs (.loop p) (go10 cs p ⟨x.pos + 1, x.st, x.err, x.stuck, x.tr⟩)
            rw [hyx] at hwl
            have hbd := Nat.le_trans hwl.tr htr
            have hpos := hwb.pos
            have hple := hwb.le hlt
            have hpst := hwb.st hsx
            have H1 := fun X => IH X lo hi k1 s1 ad1 n1 cap1 rb B ⟨x.pos + 1, x.st, x.err, x.stuck, x.tr⟩ tvx
            have HY := Lib.hid hyx
            generalize go10 cs p ⟨x.pos + 1, x.st, x.err, x.stuck, x.tr⟩ = z at *
            clear hc1 ht hyx hwl hwb
            go_wp2_with (first | (go_at_call 27; refine hEx.mono ?_; rintro e W1 ⟨rfl, hW1⟩; subst hW1) | (go_at_call 29; refine hT.mono ?_; rintro e W2 ⟨rfl, hR2, hG2⟩; have hF2 := hFx.trans (foot_grown tvx.ownBlock hG2); have hne : ∀ j, j < hi ∨ j = W.heap.size → some j ≠ tv.ownBlock := fun j hj e => (by have := HO.out j e.symm; omega); have hV2 := hV.foot hF2 (by omega) (hne _ (.inr rfl)); have d0 := hF2.cell (by omega) (hne g (.inl hg2)) e0; have d1 := hF2.cell (by omega) (hne g (.inl hg2)) e1; have d2 := hF2.cell (by omega) (hne g (.inl hg2)) e2; have hsz := hF2.size; have hS2 := hF2.same (lo := lo) hr (by omega) (fun k e => by have := HO.out k e; omega); have HH1 := H1 W2 (HN1.out.same hS2) hr hB0 (by omega) hR2 (hIx.kept hG2 (.inr hap)) hlt hsx hbd; obtain ⟨y0, y1, y2, _⟩ := hV2.cells; clear hsz) | (go_at_call 19; refine HH1.mono ?_; rintro e W3 ⟨rfl, tv3, hR3, hI3, hF3⟩))
            go_roundw
            case rel => exact ⟨z, tv3, hR3, hI3, hF2.trans hF3, HY.out, hple, hpst⟩
            case measure =>
              rw [leftR_at hR3, leftR_at hRx]
              omega
end Go.Proofs.YtfoifcbpognjaaaDoor

