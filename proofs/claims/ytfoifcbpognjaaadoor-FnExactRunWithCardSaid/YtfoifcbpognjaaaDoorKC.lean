/- Chapter 10, the program: an atom of a run. -/
import Derived.Test.YtfoifcbpognjaaaDoorKB
import Derived.Test.YtfoifcbpognjaaaDoorKF
import Derived.Test.YtfoifcbpognjaaaDoorJE
namespace Go.Proofs.YtfoifcbpognjaaaDoor
open Go.ChangeShapes Go.WideShapes Go.ChangeAt Go.RowKit Go.Shelf
attribute [local go_sem] Oper.semAt_some
attribute [local go_sem ↓ 10000] held10
set_option maxRecDepth 100000

/-- A state behind the trace: the append's run. -/
theorem tr_appP {W : World} {rb B n : Nat} {l : List UInt8} {tv : Value} {tr : List Int} (h : PR W rb n l tv) (hI : IRow W B tv tr) (hn : tr.length ≤ 1000000) (hB : B ≤ W.heap.size) (s : Nat) :
    ∃ a c w1, (heldApp10 #[25, 25] 25 #[tv, .slice (some ⟨W.heap.size, 0, none⟩) 1 1]).run Tryd.prog (W.alloc (.cells #[.int .i64 (s : Int)] 3)) = .ok (.slice a (tr.length + 1) c) w1 ∧
      PR w1 rb n l tv ∧ IRow w1 B (.slice a (tr.length + 1) c) (tr ++ [(s : Int)]) ∧ Foot rb tv.ownBlock (Value.slice a (tr.length + 1) c).ownBlock W w1 := by
  obtain ⟨i0, hi, hz0, hz1, hz2⟩ := info_parts infoI10
  have hne := h.apart hI
  have hA : Below W.heap.size W (W.alloc (.cells #[.int .i64 (s : Int)] 3)) := (Below.refl _ W).alloc (Nat.le_refl _) _
  have hI1 := hI.below hA
  have h1 := h.kept hA
  obtain ⟨v', w1, hr, hown, hg, _, h5⟩ := run_append_own_at (P := Tryd.prog) (w := W.alloc (.cells #[.int .i64 (s : Int)] 3)) B 25 25 3 i0 (.int .i64 0) 1 8 Tryd.underlying25 hi hz0 hz1 hz2 rfl (by decide) tv tr.length (tr.map (Value.int .i64)) hI1 ⟨W.heap.size, 0, none⟩ 1 1 [.int .i64 (s : Int)] rfl (cell_one_new _ _ _) (by simp [Value.oneCell']) (by unfold maxLen; omega) (by omega) (by simp; omega)
  have hR1 : PR w1 rb n l tv := (hg.block rb h1.lt (fun e => hne e.symm)).trans h1
  have hR : IRow w1 B v' (tr ++ [(s : Int)]) := by
    unfold IRow
    rw [List.length_append, List.map_append]
    exact hown
  obtain ⟨a, c, rfl⟩ := hR.sl
  rw [show (tr ++ [(s : Int)]).length = tr.length + 1 by simp] at *
  refine ⟨a, c, w1, hr, hR1, hR, ?_⟩
  refine ⟨hg.os, hg.tape, hg.output, Nat.le_trans (by simp) hg.size, fun k hk h8 h9 => ?_, ?_⟩
  · exact (hg.block k (by simp; omega) h9).trans (Below.heap_alloc _ _ _ hk)
  · rcases h5 with e | e
    · exact .inl e
    · exact .inr ⟨_, e, by simp⟩
/-- A block apart from the runner and the trace. -/
theorem Lies.foot {W W' : World} {rb b : Nat} {o o' : Option Nat} {cs : Array Value} {t : TypeId} (h : Lies W b cs t) (hf : Foot rb o o' W W') (hb : b ≠ rb) (ho : some b ≠ o) : Lies W' b cs t := (hf.block b h.lt hb ho).trans h
set_option maxHeartbeats 2000000 in
theorem patom_go {t : ByteArray} {l : List UInt8} {n x0 q : Nat} {W : World} {rb B : Nat} {tr : List Int} {tv : Value} (hn8 : (n : Int) ≤ 8) (h1 : (1 : Int) ≤ (t.size : Int)) (h3 : (t.size : Int) ≤ 9000000) (hb : ((t.extract (t.size - 1) t.size).toList == [63]) = false)
    (HA : ∀ w, Calls Tryd.prog 49 #[.string t, .int .i64 ((2 ^ n : Nat) : Int)] w fun e w' => e = .returned (outV (x0, 0)) ∧ Below w.heap.size w w') (hx : x0 < 512) (hl : headI (x0 : Int) = (q : Int)) (hs : someI (x0 : Int) = true)
    (hR : PR W rb n l tv) (hI : IRow W B tv tr) (hB : B ≤ W.heap.size) (hlen : tr.length ≤ 1000000) :
    Calls Tryd.prog 35 #[.pointer (some ⟨rb, 0, none⟩), .string t] W fun e W' => e = .returned (.tuple #[]) ∧ ∃ tv', PR W' rb q l tv' ∧ IRow W' B tv' (tr ++ [(q : Int)]) ∧ Foot rb tv.ownBlock tv'.ownBlock W W' := by
  have hba := bany47 t false h1 h3 hb
  have hor : bits .or .i64 (x0 : Int) 0 = (x0 : Int) := by
    have := or_nat x0 0 (by omega) (by omega)
    simpa using this
  unfold outV at HA
  obtain ⟨c0, c1, c2⟩ := hR.cells
  go_enter Tryd.func35, Tryd.ntmps35
  go_wp2_with (first | (go_at_call 47; refine (hba _).mono ?_; rintro e w' ⟨rfl, rfl⟩))
  go_at_call 50
  refine (only49 n (by omega) _).mono ?_
  rintro e W0 ⟨rfl, rfl⟩
  go_wp2_with fail
  go_at_call 49
  refine (HA _).mono ?_
  rintro e W1 ⟨rfl, b1⟩
  have hR1 := hR.kept b1
  have hI1 := hI.below b1
  go_wp2_with fail
  have A2 : Below W1.heap.size W1 (W1.alloc (.cells #[.int .i64 (x0 : Int), .int .i64 0] 95)) := (Below.refl _ _).alloc (Nat.le_refl _) _
  have L2 := Lies.new W1 #[.int .i64 (x0 : Int), .int .i64 0] 95
  have hR2 := hR1.kept A2
  have hI2 := hI1.below A2
  generalize (W1.alloc (.cells #[.int .i64 (x0 : Int), .int .i64 0] 95)) = W2 at *
  go_at_call 51
  refine (pfirst _ _).mono ?_
  rintro e W3 ⟨rfl, b3⟩
  rw [hl, hs]
  have L3 := L2.below b3
  have hR3 := hR2.kept b3
  have hI3 := hI2.below b3
  obtain ⟨z0, z1, _, _⟩ := L3.cells
  obtain ⟨d0, d1, d2⟩ := hR3.cells
  have hF3 := foot_below rb tv.ownBlock ((b1.trans (A2.mono b1.size)).trans (b3.mono (Nat.le_trans b1.size A2.size)))
  have hB3 : B ≤ W3.heap.size := by have := b1.size; have := A2.size; have := b3.size; omega
  obtain ⟨a, c, w1, hr, hR4, hI4, hF4⟩ := tr_appP hR3 hI3 hlen hB3 q
  have hrl := hR.lt
  have hs1 := b1.size
  have L4 := L3.foot hF4 (by omega) (fun e => by have := (hI.own _ e.symm).2; omega)
  obtain ⟨ta, tc, ht⟩ := hI3.sl
  subst ht
  obtain ⟨y0, y1, _, _⟩ := L4.cells
  obtain ⟨e0, e1, e2⟩ := hR4.cells
  obtain ⟨f0, f1, f2⟩ := hR4.frozen
  have hR5 := (hR4.set0 q).set2 (.slice a (tr.length + 1) c)
  have hap := hR4.apart hI4
  have hI5 : IRow ((w1.setCell ⟨rb, 0, none⟩ (.int .i64 (q : Int))).setCell ⟨rb, 2, none⟩ (.slice a (tr.length + 1) c)) B (.slice a (tr.length + 1) c) (tr ++ [(q : Int)]) := (hI4.kept (grown_setP _ rb 0 _) (.inr hap)).kept (grown_setP _ rb 2 _) (.inr hap)
  have hF5 := ((hF3.trans hF4).trans (foot_set rb 0 _ w1 (.int .i64 (q : Int)))).trans (foot_set rb 2 _ _ (.slice a (tr.length + 1) c))
  go_wp2_with fail
  go_end0
  exact ⟨rfl, _, hR5, hI5, hF5⟩
set_option maxHeartbeats 2000000 in
theorem patom_stick {t : ByteArray} {l : List UInt8} {n N : Nat} {W : World} {rb B : Nat} {tr : List Int} {tv : Value} (hn8 : (n : Int) ≤ 8) (h1 : (1 : Int) ≤ (t.size : Int)) (h3 : (t.size : Int) ≤ 9000000) (hb : ((t.extract (t.size - 1) t.size).toList == [63]) = false)
    (HA : ∀ w, Calls Tryd.prog 49 #[.string t, .int .i64 ((2 ^ n : Nat) : Int)] w fun e w' => e = .returned (outV (0, 0)) ∧ Below w.heap.size w w')
    (hR : PR W rb n l tv) (hI : IRow W B tv tr) (hE : NotRight N W) (hN : N ≤ W.heap.size) :
    Calls Tryd.prog 35 #[.pointer (some ⟨rb, 0, none⟩), .string t] W fun e W' => Bad e ∧ Foot rb tv.ownBlock tv.ownBlock W W' := by
  have hba := bany47 t false h1 h3 hb
  have hor : bits .or .i64 0 0 = 0 := by
    have := or_nat 0 0 (by omega) (by omega)
    simpa using this
  have hl : headI 0 = 0 := by decide +kernel
  have hs : someI 0 = false := by decide +kernel
  unfold outV at HA
  obtain ⟨c0, c1, c2⟩ := hR.cells
  go_enter Tryd.func35, Tryd.ntmps35
  go_wp2_with (first | (go_at_call 47; refine (hba _).mono ?_; rintro e w' ⟨rfl, rfl⟩))
  go_at_call 50
  refine (only49 n (by omega) _).mono ?_
  rintro e W0 ⟨rfl, rfl⟩
  go_wp2_with fail
  go_at_call 49
  refine (HA _).mono ?_
  rintro e W1 ⟨rfl, b1⟩
  have hR1 := hR.kept b1
  have hI1 := hI.below b1
  go_wp2_with fail
  have A2 : Below W1.heap.size W1 (W1.alloc (.cells #[.int .i64 0, .int .i64 0] 95)) := (Below.refl _ _).alloc (Nat.le_refl _) _
  have L2 := Lies.new W1 #[.int .i64 0, .int .i64 0] 95
  have hR2 := hR1.kept A2
  have hI2 := hI1.below A2
  generalize (W1.alloc (.cells #[.int .i64 0, .int .i64 0] 95)) = W2 at *
  go_at_call 51
  refine (pfirst _ _).mono ?_
  rintro e W3 ⟨rfl, b3⟩
  rw [hl, hs]
  have L3 := L2.below b3
  have hR3 := hR2.kept b3
  have hI3 := hI2.below b3
  obtain ⟨z0, z1, _, _⟩ := L3.cells
  obtain ⟨d0, d1, d2⟩ := hR3.cells
  have hF3 := foot_below rb tv.ownBlock ((b1.trans (A2.mono b1.size)).trans (b3.mono (Nat.le_trans b1.size A2.size)))
  obtain ⟨⟨v, ce⟩, _⟩ := hE.below ((b1.trans (A2.mono b1.size)).trans (b3.mono (Nat.le_trans b1.size A2.size))) hN
  go_wp2_with fail
  exact ⟨rfl, ⟨v, rfl⟩, hF3⟩
theorem pow_first : ∀ n : Fin 9, headI ((2 ^ n.val : Nat) : Int) = (n.val : Int) ∧ someI ((2 ^ n.val : Nat) : Int) = true ∧ (((2 ^ n.val : Nat) : Int) == 0) = false := by decide +kernel
set_option maxHeartbeats 2000000 in
theorem patom_bang_left {c9 : UInt8} {l : List UInt8} {n N : Nat} {W : World} {rb B : Nat} {tr : List Int} {tv : Value} (hn8 : (n : Int) ≤ 8)
    (HA : ∀ w, Calls Tryd.prog 49 #[.string ⟨#[33]⟩, .int .i64 ((2 ^ n : Nat) : Int)] w fun e w' => e = .returned (outV (0, 2 ^ n)) ∧ Below w.heap.size w w')
    (hR : PR W rb n (c9 :: l) tv) (hI : IRow W B tv tr) (hB : B ≤ W.heap.size) (hlen : tr.length ≤ 1000000) (hE : NotRight N W) (_hN : N ≤ W.heap.size) (hr9 : N ≤ rb) (ho9 : ∀ k, tv.ownBlock = some k → N ≤ k) :
    Calls Tryd.prog 35 #[.pointer (some ⟨rb, 0, none⟩), .string ⟨#[33]⟩] W fun e W' => Bad e ∧ ∃ o', Foot rb tv.ownBlock o' W W' := by
  obtain ⟨q, hq⟩ : ∃ q, q = n := ⟨_, rfl⟩
  obtain ⟨hl0, hs0, hnz⟩ := pow_first ⟨n, by omega⟩
  simp only at hl0 hs0 hnz
  have hba := bany47 ⟨#[33]⟩ false (by decide) (by decide) (by rw [Lib.toList_data]; rfl)
  have hm := pow_lt n (by omega)
  obtain ⟨m, hmm⟩ : ∃ m, m = 2 ^ n := ⟨_, rfl⟩
  rw [← hmm] at hl0 hs0 hnz hm HA
  have hl : headI (m : Int) = (q : Int) := by rw [hq]; exact hl0
  have hs : someI (m : Int) = true := hs0
  have hor : bits .or .i64 0 (m : Int) = (m : Int) := by
    have := or_nat 0 m (by omega) (by omega)
    simpa using this
  unfold outV at HA
  have HM := Lib.hid hmm
  have HQ := Lib.hid hq
  have hon := only49 n (by omega)
  rw [← hmm] at hon
  obtain ⟨c0, c1, c2⟩ := hR.cells
  clear hl0 hs0 hmm hq
  go_enter Tryd.func35, Tryd.ntmps35
  go_wp2_with (first | (go_at_call 47; refine (hba _).mono ?_; rintro e w' ⟨rfl, rfl⟩))
  go_at_call 50
  refine (hon _).mono ?_
  rintro e W0 ⟨rfl, rfl⟩
  go_wp2_with fail
  go_at_call 49
  refine (HA _).mono ?_
  rintro e W1 ⟨rfl, b1⟩
  have hR1 := hR.kept b1
  have hI1 := hI.below b1
  go_wp2_with fail
  have A2 : Below W1.heap.size W1 (W1.alloc (.cells #[.int .i64 0, .int .i64 (m : Int)] 95)) := (Below.refl _ _).alloc (Nat.le_refl _) _
  have L2 := Lies.new W1 #[.int .i64 0, .int .i64 (m : Int)] 95
  have hR2 := hR1.kept A2
  have hI2 := hI1.below A2
  generalize (W1.alloc (.cells #[.int .i64 0, .int .i64 (m : Int)] 95)) = W2 at *
  go_at_call 51
  refine (pfirst _ _).mono ?_
  rintro e W3 ⟨rfl, b3⟩
  rw [hl, hs]
  have L3 := L2.below b3
  have hR3 := hR2.kept b3
  have hI3 := hI2.below b3
  obtain ⟨z0, z1, _, _⟩ := L3.cells
  obtain ⟨d0, d1, d2⟩ := hR3.cells
  have hF3 := foot_below rb tv.ownBlock ((b1.trans (A2.mono b1.size)).trans (b3.mono (Nat.le_trans b1.size A2.size)))
  have hB3 : B ≤ W3.heap.size := by have := b1.size; have := A2.size; have := b3.size; omega
  obtain ⟨a, c, w1, hr, hR4, hI4, hF4⟩ := tr_appP hR3 hI3 hlen hB3 q
  have hrl := hR.lt
  have hs1 := b1.size
  have L4 := L3.foot hF4 (by omega) (fun e => by have := (hI.own _ e.symm).2; omega)
  obtain ⟨ta, tc, ht⟩ := hI3.sl
  subst ht
  obtain ⟨y0, y1, _, _⟩ := L4.cells
  obtain ⟨e0, e1, e2⟩ := hR4.cells
  obtain ⟨f0, f1, f2⟩ := hR4.frozen
  have hR5 := (hR4.set0 q).set2 (.slice a (tr.length + 1) c)
  have hap := hR4.apart hI4
  have hI5 : IRow ((w1.setCell ⟨rb, 0, none⟩ (.int .i64 (q : Int))).setCell ⟨rb, 2, none⟩ (.slice a (tr.length + 1) c)) B (.slice a (tr.length + 1) c) (tr ++ [(q : Int)]) := (hI4.kept (grown_setP _ rb 0 _) (.inr hap)).kept (grown_setP _ rb 2 _) (.inr hap)
  have hF5 := ((hF3.trans hF4).trans (foot_set rb 0 _ w1 (.int .i64 (q : Int)))).trans (foot_set rb 2 _ _ (.slice a (tr.length + 1) c))
  have hE5 := hE.foot hF5 hr9 (fun k e => by first | exact ho9 k e | (obtain ⟨a1, c1, hv1⟩ := hI.sl; subst hv1; exact ho9 k e))
  have hend := pend_left 1 hR5 hE5 (by have := hF5.size; omega)
  go_wp2_with fail
  go_at_call 24
  refine hend.mono ?_
  rintro e W6 ⟨⟨v, rfl⟩, b6⟩
  exact ⟨rfl, ⟨v, rfl⟩, _, hF5.trans (foot_below rb _ b6)⟩
set_option maxHeartbeats 2000000 in
theorem patom_bang_ok {n : Nat} {W : World} {rb B : Nat} {tr : List Int} {tv : Value} (hn8 : (n : Int) ≤ 8)
    (HA : ∀ w, Calls Tryd.prog 49 #[.string ⟨#[33]⟩, .int .i64 ((2 ^ n : Nat) : Int)] w fun e w' => e = .returned (outV (0, 2 ^ n)) ∧ Below w.heap.size w w')
    (hR : PR W rb n [] tv) (hI : IRow W B tv tr) (hB : B ≤ W.heap.size) (hlen : tr.length ≤ 1000000) :
    Calls Tryd.prog 35 #[.pointer (some ⟨rb, 0, none⟩), .string ⟨#[33]⟩] W fun e W' => ∃ tv', e = .panicked [{ v := .iface 36 (.agg #[.int .i64 1, .int .i64 (n : Int), tv']), recovered := false }] ∧ IRow W' B tv' (tr ++ [(n : Int)]) ∧ Foot rb tv.ownBlock tv'.ownBlock W W' := by
  obtain ⟨q, hq⟩ : ∃ q, q = n := ⟨_, rfl⟩
  obtain ⟨hl0, hs0, hnz⟩ := pow_first ⟨n, by omega⟩
  simp only at hl0 hs0 hnz
  have hba := bany47 ⟨#[33]⟩ false (by decide) (by decide) (by rw [Lib.toList_data]; rfl)
  have hm := pow_lt n (by omega)
  obtain ⟨m, hmm⟩ : ∃ m, m = 2 ^ n := ⟨_, rfl⟩
  rw [← hmm] at hl0 hs0 hnz hm HA
  have hl : headI (m : Int) = (q : Int) := by rw [hq]; exact hl0
  have hs : someI (m : Int) = true := hs0
  have hor : bits .or .i64 0 (m : Int) = (m : Int) := by
    have := or_nat 0 m (by omega) (by omega)
    simpa using this
  unfold outV at HA
  have HM := Lib.hid hmm
  have HQ := Lib.hid hq
  have hon := only49 n (by omega)
  rw [← hmm] at hon
  obtain ⟨c0, c1, c2⟩ := hR.cells
  clear hl0 hs0 hmm hq
  go_enter Tryd.func35, Tryd.ntmps35
  go_wp2_with (first | (go_at_call 47; refine (hba _).mono ?_; rintro e w' ⟨rfl, rfl⟩))
  go_at_call 50
  refine (hon _).mono ?_
  rintro e W0 ⟨rfl, rfl⟩
  go_wp2_with fail
  go_at_call 49
  refine (HA _).mono ?_
  rintro e W1 ⟨rfl, b1⟩
  have hR1 := hR.kept b1
  have hI1 := hI.below b1
  go_wp2_with fail
  have A2 : Below W1.heap.size W1 (W1.alloc (.cells #[.int .i64 0, .int .i64 (m : Int)] 95)) := (Below.refl _ _).alloc (Nat.le_refl _) _
  have L2 := Lies.new W1 #[.int .i64 0, .int .i64 (m : Int)] 95
  have hR2 := hR1.kept A2
  have hI2 := hI1.below A2
  generalize (W1.alloc (.cells #[.int .i64 0, .int .i64 (m : Int)] 95)) = W2 at *
  go_at_call 51
  refine (pfirst _ _).mono ?_
  rintro e W3 ⟨rfl, b3⟩
  rw [hl, hs]
  have L3 := L2.below b3
  have hR3 := hR2.kept b3
  have hI3 := hI2.below b3
  obtain ⟨z0, z1, _, _⟩ := L3.cells
  obtain ⟨d0, d1, d2⟩ := hR3.cells
  have hF3 := foot_below rb tv.ownBlock ((b1.trans (A2.mono b1.size)).trans (b3.mono (Nat.le_trans b1.size A2.size)))
  have hB3 : B ≤ W3.heap.size := by have := b1.size; have := A2.size; have := b3.size; omega
  obtain ⟨a, c, w1, hr, hR4, hI4, hF4⟩ := tr_appP hR3 hI3 hlen hB3 q
  have hrl := hR.lt
  have hs1 := b1.size
  have L4 := L3.foot hF4 (by omega) (fun e => by have := (hI.own _ e.symm).2; omega)
  obtain ⟨ta, tc, ht⟩ := hI3.sl
  subst ht
  obtain ⟨y0, y1, _, _⟩ := L4.cells
  obtain ⟨e0, e1, e2⟩ := hR4.cells
  obtain ⟨f0, f1, f2⟩ := hR4.frozen
  have hR5 := (hR4.set0 q).set2 (.slice a (tr.length + 1) c)
  have hap := hR4.apart hI4
  have hI5 : IRow ((w1.setCell ⟨rb, 0, none⟩ (.int .i64 (q : Int))).setCell ⟨rb, 2, none⟩ (.slice a (tr.length + 1) c)) B (.slice a (tr.length + 1) c) (tr ++ [(q : Int)]) := (hI4.kept (grown_setP _ rb 0 _) (.inr hap)).kept (grown_setP _ rb 2 _) (.inr hap)
  have hF5 := ((hF3.trans hF4).trans (foot_set rb 0 _ w1 (.int .i64 (q : Int)))).trans (foot_set rb 2 _ _ (.slice a (tr.length + 1) c))
  have hend := pend_ok 1 hR5
  go_wp2_with fail
  go_at_call 24
  refine hend.mono ?_
  rintro e W6 ⟨rfl, b6⟩
  go_wp2_with fail
  refine ⟨rfl, _, ?_, ?_, hF5.trans (foot_below rb _ b6)⟩
  · rw [← HQ.out]
  · rw [← HQ.out]; exact hI5.below b6
theorem cat2 (v c : UInt8) : (⟨#[v]⟩ : ByteArray) ++ ⟨#[c]⟩ = ⟨#[v, c]⟩ := cat_one v [c]
theorem ext1 (v d : UInt8) : (⟨#[v, d]⟩ : ByteArray).extract 0 1 = ⟨#[v]⟩ := ext_take [v, d] 1
theorem ext_any (v d : UInt8) : (((⟨#[v, d]⟩ : ByteArray).extract ((⟨#[v, d]⟩ : ByteArray).size - 1) (⟨#[v, d]⟩ : ByteArray).size).toList == [63]) = (d == 63) := by
  have h : (⟨#[v, d]⟩ : ByteArray).extract ((⟨#[v, d]⟩ : ByteArray).size - 1) (⟨#[v, d]⟩ : ByteArray).size = ⟨#[d]⟩ := ext_drop [v, d] 1
  rw [h, Lib.toList_data]
  simp
set_option maxHeartbeats 4000000 in
theorem patom_any {v c : UInt8} {l : List UInt8} {n x0 q : Nat} {W : World} {rb B : Nat} {tr : List Int} {tv : Value} (hn8 : (n : Int) ≤ 8) (hc : c = 48 ∨ c = 49 ∨ c = 50)
    (HA : ∀ w, Calls Tryd.prog 49 #[.string ⟨#[v, c]⟩, .int .i64 ((2 ^ n : Nat) : Int)] w fun e w' => e = .returned (outV (x0, 0)) ∧ Below w.heap.size w w') (hx : x0 < 512) (hl : headI (x0 : Int) = (q : Int)) (hs : someI (x0 : Int) = true)
    (hR0 : PR W rb n (c :: l) tv) (hI0 : IRow W B tv tr) (hB0 : B ≤ W.heap.size) (hlen : tr.length ≤ 1000000) :
    Calls Tryd.prog 35 #[.pointer (some ⟨rb, 0, none⟩), .string ⟨#[v, 63]⟩] W fun e W' => e = .returned (.tuple #[]) ∧ ∃ tv', PR W' rb q l tv' ∧ IRow W' B tv' (tr ++ [(q : Int)]) ∧ Foot rb tv.ownBlock tv'.ownBlock W W' := by
  have hba := bany47 ⟨#[v, 63]⟩ true (by simp [ByteArray.size]) (by simp [ByteArray.size]) (by rw [ext_any]; rfl)
  have hca := cat2 v c
  have hex := ext1 v 63
  have hor : bits .or .i64 (x0 : Int) 0 = (x0 : Int) := by
    have := or_nat x0 0 (by omega) (by omega)
    simpa using this
  unfold outV at HA
  have hap0 := hR0.apart hI0
  go_enter Tryd.func35, Tryd.ntmps35
  go_wp2_with (first | (go_at_call 47; refine (hba _).mono ?_; rintro e w' ⟨rfl, rfl⟩))
  go_region_with (go_at_call 48; refine (pdigit_hit hc (by exact hR0)).mono ?_; rintro e U ⟨rfl, hR, hG0⟩)
  all_goals
    have hG1 : W.grownBy U (some rb) := ⟨hG0.os, hG0.tape, hG0.output, hG0.size, hG0.block⟩
    have hF0 : Foot rb tv.ownBlock tv.ownBlock W U := foot_grown _ hG1
    have hI := hI0.kept hG1 (.inr hap0)
    have hB : B ≤ U.heap.size := Nat.le_trans hB0 hF0.size
    obtain ⟨c0, c1, c2⟩ := hR.cells
    go_wp2_with fail
    go_at_call 50
    refine (only49 n (by omega) _).mono ?_
    rintro e W0 ⟨rfl, rfl⟩
    go_wp2_with fail
    go_at_call 49
    refine (HA _).mono ?_
    rintro e W1 ⟨rfl, b1⟩
    have hR1 := hR.kept b1
    have hI1 := hI.below b1
    go_wp2_with fail
    have A2 : Below W1.heap.size W1 (W1.alloc (.cells #[.int .i64 (x0 : Int), .int .i64 0] 95)) := (Below.refl _ _).alloc (Nat.le_refl _) _
    have L2 := Lies.new W1 #[.int .i64 (x0 : Int), .int .i64 0] 95
    have hR2 := hR1.kept A2
    have hI2 := hI1.below A2
    generalize (W1.alloc (.cells #[.int .i64 (x0 : Int), .int .i64 0] 95)) = W2 at *
    go_at_call 51
    refine (pfirst _ _).mono ?_
    rintro e W3 ⟨rfl, b3⟩
    rw [hl, hs]
    have L3 := L2.below b3
    have hR3 := hR2.kept b3
    have hI3 := hI2.below b3
    obtain ⟨z0, z1, _, _⟩ := L3.cells
    obtain ⟨d0, d1, d2⟩ := hR3.cells
    have hF3 := foot_below rb tv.ownBlock ((b1.trans (A2.mono b1.size)).trans (b3.mono (Nat.le_trans b1.size A2.size)))
    have hB3 : B ≤ W3.heap.size := by have := b1.size; have := A2.size; have := b3.size; omega
    obtain ⟨a, c, w1, hr, hR4, hI4, hF4⟩ := tr_appP hR3 hI3 hlen hB3 q
    have hrl := hR.lt
    have hs1 := b1.size
    have L4 := L3.foot hF4 (by omega) (fun e => by have := (hI.own _ e.symm).2; omega)
    obtain ⟨ta, tc, ht⟩ := hI3.sl
    subst ht
    obtain ⟨y0, y1, _, _⟩ := L4.cells
    obtain ⟨e0, e1, e2⟩ := hR4.cells
    obtain ⟨f0, f1, f2⟩ := hR4.frozen
    have hR5 := (hR4.set0 q).set2 (.slice a (tr.length + 1) c)
    have hap := hR4.apart hI4
    have hI5 : IRow ((w1.setCell ⟨rb, 0, none⟩ (.int .i64 (q : Int))).setCell ⟨rb, 2, none⟩ (.slice a (tr.length + 1) c)) B (.slice a (tr.length + 1) c) (tr ++ [(q : Int)]) := (hI4.kept (grown_setP _ rb 0 _) (.inr hap)).kept (grown_setP _ rb 2 _) (.inr hap)
    have hF5 := ((hF3.trans hF4).trans (foot_set rb 0 _ w1 (.int .i64 (q : Int)))).trans (foot_set rb 2 _ _ (.slice a (tr.length + 1) c))
    go_wp2_with fail
    go_end0
    exact ⟨rfl, _, hR5, hI5, hF0.trans hF5⟩
set_option maxHeartbeats 2000000 in
theorem patom_any_miss {v : UInt8} {c : UInt8} {l : List UInt8} {n N : Nat} {W : World} {rb : Nat} {tv : Value} (hc1 : c ≠ 48) (hc2 : c ≠ 49) (hc3 : c ≠ 50)
    (hR0 : PR W rb n (c :: l) tv) (hE : NotRight N W) (hN : N ≤ rb) :
    Calls Tryd.prog 35 #[.pointer (some ⟨rb, 0, none⟩), .string ⟨#[v, 63]⟩] W fun e W' => Bad e ∧ Foot rb tv.ownBlock tv.ownBlock W W' := by
  have hba := bany47 ⟨#[v, 63]⟩ true (by simp [ByteArray.size]) (by simp [ByteArray.size]) (by rw [ext_any]; rfl)
  have hex := ext1 v 63
  go_enter Tryd.func35, Tryd.ntmps35
  go_wp2_with (first | (go_at_call 47; refine (hba _).mono ?_; rintro e w' ⟨rfl, rfl⟩))
  refine wp_region_held (S := fun _ => True) (by kernel_rfl) ?_
  refine wpAnyH_take (i := 0) (v := .string ⟨#[v, 63]⟩) rfl (by kernel_rfl) (by kernel_rfl) (by kernel_rfl) (fun _ _ _ h => h) (Or.inl ⟨by rfl, fun w hw => by go_simp⟩) trivial ?_
  go_simp
  refine wpAnyH_take (i := 1) (v := .string ⟨#[v]⟩) rfl (by kernel_rfl) (by kernel_rfl) (by kernel_rfl) (fun _ _ _ h => h) (Or.inl ⟨by rfl, fun w hw => by go_simp⟩) trivial ?_
  go_simp
  refine wpAnyH_take (i := 2) (v := .pointer (some ⟨rb, 0, none⟩)) rfl (by kernel_rfl) (by kernel_rfl) (by kernel_rfl) (fun _ _ _ h => h) (Or.inl ⟨by rfl, fun w hw => by go_simp⟩) trivial ?_
  go_simp
  refine wpAnyH_ready (rs := [3]) (by kernel_rfl) (by simp) ?_
  refine AllReadyH.cons rfl (fun K hK => ?_) AllReadyH.nil
  go_simp
  go_wp2_with (go_at_call 48; refine (pdigit_miss hc1 hc2 hc3 (by exact hR0) (by exact hE) hN).mono ?_; rintro e U ⟨⟨v, rfl⟩, hG0⟩)
  exact ⟨rfl, ⟨v, rfl⟩, foot_grown _ ⟨hG0.os, hG0.tape, hG0.output, hG0.size, hG0.block⟩⟩
set_option maxHeartbeats 2000000 in
theorem patom_any_none {v : UInt8}  {n N : Nat} {W : World} {rb : Nat} {tv : Value} 
    (hR0 : PR W rb n [] tv) (hE : NotRight N W) :
    Calls Tryd.prog 35 #[.pointer (some ⟨rb, 0, none⟩), .string ⟨#[v, 63]⟩] W fun e W' => Bad e ∧ Foot rb tv.ownBlock tv.ownBlock W W' := by
  have hba := bany47 ⟨#[v, 63]⟩ true (by simp [ByteArray.size]) (by simp [ByteArray.size]) (by rw [ext_any]; rfl)
  have hex := ext1 v 63
  go_enter Tryd.func35, Tryd.ntmps35
  go_wp2_with (first | (go_at_call 47; refine (hba _).mono ?_; rintro e w' ⟨rfl, rfl⟩))
  refine wp_region_held (S := fun _ => True) (by kernel_rfl) ?_
  refine wpAnyH_take (i := 0) (v := .string ⟨#[v, 63]⟩) rfl (by kernel_rfl) (by kernel_rfl) (by kernel_rfl) (fun _ _ _ h => h) (Or.inl ⟨by rfl, fun w hw => by go_simp⟩) trivial ?_
  go_simp
  refine wpAnyH_take (i := 1) (v := .string ⟨#[v]⟩) rfl (by kernel_rfl) (by kernel_rfl) (by kernel_rfl) (fun _ _ _ h => h) (Or.inl ⟨by rfl, fun w hw => by go_simp⟩) trivial ?_
  go_simp
  refine wpAnyH_take (i := 2) (v := .pointer (some ⟨rb, 0, none⟩)) rfl (by kernel_rfl) (by kernel_rfl) (by kernel_rfl) (fun _ _ _ h => h) (Or.inl ⟨by rfl, fun w hw => by go_simp⟩) trivial ?_
  go_simp
  refine wpAnyH_ready (rs := [3]) (by kernel_rfl) (by simp) ?_
  refine AllReadyH.cons rfl (fun K hK => ?_) AllReadyH.nil
  go_simp
  go_wp2_with (go_at_call 48; refine (pdigit_none (by exact hR0) (by exact hE)).mono ?_; rintro e U ⟨⟨v, rfl⟩, hG0⟩)
  exact ⟨rfl, ⟨v, rfl⟩, foot_grown _ ⟨hG0.os, hG0.tape, hG0.output, hG0.size, hG0.block⟩⟩
end Go.Proofs.YtfoifcbpognjaaaDoor

