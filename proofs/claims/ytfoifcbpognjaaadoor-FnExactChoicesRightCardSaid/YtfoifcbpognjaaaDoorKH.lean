/- Chapter 10, the program: the end of a run is caught. -/
import Derived.Test.YtfoifcbpognjaaaDoorKG
import Derived.Test.YtfoifcbpognjaaaDoorR5
import Derived.Test.YtfoifcbpognjaaaDoorJL
import Derived.Recover
namespace Go.Proofs.YtfoifcbpognjaaaDoor
open Go.ChangeShapes Go.WideShapes Go.ChangeAt Go.RowKit Go.Shelf
attribute [local go_sem] Oper.semAt_some
set_option maxRecDepth 100000

theorem asEnd (x s : Int) (a : Option Addr) (n c : Nat) (W : World) : (Instr.typeAssert (.iface 36 (.agg #[.int .i64 x, .int .i64 s, .slice a n c])) 20 36 true).run Tryd.prog W = .ok (.tuple #[.agg #[.int .i64 x, .int .i64 s, .slice a n c], .bool true]) W := by kernel_rfl
theorem asErr (v : Value) (W : World) : (Instr.typeAssert (.iface 128 v) 20 36 true).run Tryd.prog W = .ok (.tuple #[.agg #[.int .i64 0, .int .i64 0, .slice none 0 0], .bool false]) W := by kernel_rfl

/-- The two named results lie in blocks b and b + 1. -/
def TwoR (W : World) (b : Nat) (x s : Int) (v : Value) (k : Bool) : Prop := W.heap[b]? = some (.cells #[.int .i64 x, .int .i64 s, v] 36 (0, 0)) ∧ W.heap[b + 1]? = some (.cells #[.bool k] 4 (0, 0))
theorem TwoR.cells {W : World} {b : Nat} {x s : Int} {v : Value} {k : Bool} (h : TwoR W b x s v k) : (W.cell? ⟨b, 0, none⟩ = some (.int .i64 x) ∧ W.cell? ⟨b, 1, none⟩ = some (.int .i64 s) ∧ W.cell? ⟨b, 2, none⟩ = some v ∧ W.cell? ⟨b + 1, 0, none⟩ = some (.bool k)) ∧ (W.frozen? ⟨b, 0, none⟩ = false ∧ W.frozen? ⟨b, 1, none⟩ = false ∧ W.frozen? ⟨b, 2, none⟩ = false ∧ W.frozen? ⟨b + 1, 0, none⟩ = false) := by
  obtain ⟨h1, h2⟩ := h
  exact ⟨⟨by rw [cell_of_row _ b 0 _ 36 (0, 0) h1]; rfl, by rw [cell_of_row _ b 1 _ 36 (0, 0) h1]; rfl, by rw [cell_of_row _ b 2 _ 36 (0, 0) h1]; rfl, by rw [cell_of_row _ (b + 1) 0 _ 4 (0, 0) h2]; rfl⟩,
    by simp [World.frozen?, h1], by simp [World.frozen?, h1], by simp [World.frozen?, h1], by simp [World.frozen?, h2]⟩

theorem TwoR.put {W : World} {b : Nat} {x0 s0 : Int} {v0 : Value} {k0 : Bool} (h : TwoR W b x0 s0 v0 k0) (x s : Int) (v : Value) (k : Bool) :
    TwoR ((((W.setCell ⟨b, 0, none⟩ (.int .i64 x)).setCell ⟨b, 1, none⟩ (.int .i64 s)).setCell ⟨b, 2, none⟩ v).setCell ⟨b + 1, 0, none⟩ (.bool k)) b x s v k ∧
      Below b W ((((W.setCell ⟨b, 0, none⟩ (.int .i64 x)).setCell ⟨b, 1, none⟩ (.int .i64 s)).setCell ⟨b, 2, none⟩ v).setCell ⟨b + 1, 0, none⟩ (.bool k)) ∧
      ∀ (B : Nat) (u : Value) (zs : List Int), IRow W B u zs → IRow ((((W.setCell ⟨b, 0, none⟩ (.int .i64 x)).setCell ⟨b, 1, none⟩ (.int .i64 s)).setCell ⟨b, 2, none⟩ v).setCell ⟨b + 1, 0, none⟩ (.bool k)) B u zs := by
  obtain ⟨h1, h2⟩ := h
  have a1 : (W.setCell ⟨b, 0, none⟩ (.int .i64 x)).heap[b]? = some (.cells #[.int .i64 x, .int .i64 s0, v0] 36 (0, 0)) := by rw [heap_setCell_same W b 0 _ 36 _ h1]; rfl
  have a2 : ((W.setCell ⟨b, 0, none⟩ (.int .i64 x)).setCell ⟨b, 1, none⟩ (.int .i64 s)).heap[b]? = some (.cells #[.int .i64 x, .int .i64 s, v0] 36 (0, 0)) := by rw [heap_setCell_same _ b 1 _ 36 _ a1]; rfl
  have a3 : (((W.setCell ⟨b, 0, none⟩ (.int .i64 x)).setCell ⟨b, 1, none⟩ (.int .i64 s)).setCell ⟨b, 2, none⟩ v).heap[b]? = some (.cells #[.int .i64 x, .int .i64 s, v] 36 (0, 0)) := by rw [heap_setCell_same _ b 2 _ 36 _ a2]; rfl
  have b3 : (((W.setCell ⟨b, 0, none⟩ (.int .i64 x)).setCell ⟨b, 1, none⟩ (.int .i64 s)).setCell ⟨b, 2, none⟩ v).heap[b + 1]? = some (.cells #[.bool k0] 4 (0, 0)) := by
    rw [heap_setCell_other _ ⟨b, 2, none⟩ (b + 1) _ (by simp), heap_setCell_other _ ⟨b, 1, none⟩ (b + 1) _ (by simp), heap_setCell_other _ ⟨b, 0, none⟩ (b + 1) _ (by simp)]
    exact h2
  refine ⟨⟨?_, ?_⟩, ?_, fun B u zs hI => ?_⟩
  · rw [heap_setCell_other _ ⟨b + 1, 0, none⟩ b _ (by simp)]
    exact a3
  · rw [heap_setCell_same _ (b + 1) 0 _ 4 _ b3]; rfl
  · have hb : Below b W W := ⟨rfl, rfl, rfl, Nat.le_refl _, fun _ _ => rfl⟩
    exact (((hb.setCell (p := ⟨b, 0, none⟩) (Nat.le_refl _) _).setCell (p := ⟨b, 1, none⟩) (Nat.le_refl _) _).setCell (p := ⟨b, 2, none⟩) (Nat.le_refl _) _).setCell (p := ⟨b + 1, 0, none⟩) (Nat.le_succ _) _
  · have n1 : u.ownBlock ≠ some b := by unfold IRow at hI; exact Lib.ownBlock_ne hI h1 (by decide)
    have n2 : u.ownBlock ≠ some (b + 1) := by unfold IRow at hI; exact Lib.ownBlock_ne hI h2 (by decide)
    exact (((hI.kept (grown_setP _ b 0 _) (.inr n1)).kept (grown_setP _ b 1 _) (.inr n1)).kept (grown_setP _ b 2 _) (.inr n1)).kept (grown_setP _ (b + 1) 0 _) (.inr n2)
theorem catch_end (b : Nat) (x0 s0 : Int) (v0 : Value) (k0 : Bool) (x s : Int) (a : Option Addr) (n c : Nat) (older : List PanicEntry) (w : World) (h : TwoR w b x0 s0 v0 k0) :
    CallsD Tryd.prog 22 #[.pointer (some ⟨b, 0, none⟩), .pointer (some ⟨b + 1, 0, none⟩)] (.panicking ({ v := .iface 36 (.agg #[.int .i64 x, .int .i64 s, .slice a n c]), recovered := false } :: older)) w fun e u' w' =>
      e = .returned (.tuple #[]) ∧ u' = .panicking ({ v := .iface 36 (.agg #[.int .i64 x, .int .i64 s, .slice a n c]), recovered := true } :: older) ∧ TwoR w' b x s (.slice a n c) true ∧ Below b w w' ∧ (∀ (B : Nat) (u : Value) (zs : List Int), IRow w B u zs → IRow w' B u zs) := by
  obtain ⟨⟨c0, c1, c2, c3⟩, ⟨f0, f1, f2, f3⟩⟩ := h.cells
  have ha := asEnd x s a n c w
  refine callsD_of_wpS Tryd.func22 rfl fun c₀ cs hu => ?_
  apply wpS_region
  simp [wpOpsS, go_sem, recoverD, hu, Tryd.ntmps22, ha, c0, c1, c2, c3, f0, f1, f2, f3]
  have HP := h.put x s (.slice a n c) true
  generalize ((((w.setCell ⟨b, 0, none⟩ (.int .i64 x)).setCell ⟨b, 1, none⟩ (.int .i64 s)).setCell ⟨b, 2, none⟩ (.slice a n c)).setCell ⟨b + 1, 0, none⟩ (.bool true)) = Z at *
  have HQ := Lib.hid HP
  clear HP h c0 c1 c2 c3 f0 f1 f2 f3 ha
  simp [bodyPostS, results, Tryd.results22]
  exact HQ.out
theorem catch_err (b : Nat) (x0 s0 : Int) (v0 : Value) (k0 : Bool) (v : Value) (older : List PanicEntry) (w : World) (h : TwoR w b x0 s0 v0 k0) :
    CallsD Tryd.prog 22 #[.pointer (some ⟨b, 0, none⟩), .pointer (some ⟨b + 1, 0, none⟩)] (.panicking ({ v := .iface 128 v, recovered := false } :: older)) w fun e u' w' =>
      e = .returned (.tuple #[]) ∧ u' = .panicking ({ v := .iface 128 v, recovered := true } :: older) ∧ TwoR w' b 0 0 (.slice none 0 0) false ∧ Below b w w' ∧ (∀ (B : Nat) (u : Value) (zs : List Int), IRow w B u zs → IRow w' B u zs) := by
  obtain ⟨⟨c0, c1, c2, c3⟩, ⟨f0, f1, f2, f3⟩⟩ := h.cells
  have ha := asErr v w
  refine callsD_of_wpS Tryd.func22 rfl fun c₀ cs hu => ?_
  apply wpS_region
  simp [wpOpsS, go_sem, recoverD, hu, Tryd.ntmps22, ha, c0, c1, c2, c3, f0, f1, f2, f3]
  have HP := h.put 0 0 (.slice none 0 0) false
  generalize ((((w.setCell ⟨b, 0, none⟩ (.int .i64 0)).setCell ⟨b, 1, none⟩ (.int .i64 0)).setCell ⟨b, 2, none⟩ (.slice none 0 0)).setCell ⟨b + 1, 0, none⟩ (.bool false)) = Z at *
  have HQ := Lib.hid HP
  clear HP h c0 c1 c2 c3 f0 f1 f2 f3 ha
  simp [bodyPostS, results, Tryd.results22]
  exact HQ.out
theorem irow_nil (W : World) (B : Nat) : IRow W B (.slice none 0 0) [] := World.ownsRow_nil W B _ _
/-- What a run by choices leaves at the face. -/
def PRunBy (t : ByteArray) (s : Int) (c : ByteArray) (w : World) (e : Ending) (w' : World) : Prop := Below w.heap.size w w' ∧
  ∃ v, e = .returned (.tuple #[.agg #[.int .i64 (exO (run10 t s c)), .int .i64 (stO (run10 t s c)), v], .bool (run10 t s c).isSome]) ∧ IRow w' w.heap.size v (trO (run10 t s c))
theorem pby_none {t c : ByteArray} {s : Int} (h : run10 t s c = none) {w w' : World} {e : Ending} (hb : Below w.heap.size w w') (he : e = .returned (.tuple #[.agg #[.int .i64 0, .int .i64 0, .slice none 0 0], .bool false])) : PRunBy t s c w e w' := by
  refine ⟨hb, ?_⟩
  rw [h]
  exact ⟨_, he, irow_nil _ _⟩
theorem isS0 (n : Int) (w : World) : Calls Tryd.prog 21 #[.int .i64 n] w fun e w' => e = .returned (.bool (isSt n)) ∧ w = w' := isS48 n w
theorem twoR_new (w : World) : TwoR ((w.alloc (.cells #[.int .i64 0, .int .i64 0, .slice none 0 0] 36)).alloc (.cells #[.bool false] 4)) w.heap.size 0 0 (.slice none 0 0) false := by
  refine ⟨?_, ?_⟩
  · have := heap_alloc_new w (.cells #[.int .i64 0, .int .i64 0, .slice none 0 0] 36)
    exact ((World.grownBy_alloc (w.alloc (.cells #[.int .i64 0, .int .i64 0, .slice none 0 0] 36)) (.cells #[.bool false] 4) none).block w.heap.size (by simp) (by simp)).trans this
  · have := heap_alloc_new (w.alloc (.cells #[.int .i64 0, .int .i64 0, .slice none 0 0] 36)) (.cells #[.bool false] 4)
    rw [World.size_alloc] at this
    exact this
theorem TwoR.below {W W' : World} {b : Nat} {x s : Int} {v : Value} {k : Bool} (h : TwoR W b x s v k) (hb : Below W.heap.size W W') : TwoR W' b x s v k :=
  ⟨(hb.block b (Array.getElem?_eq_some_iff.1 h.1).1).trans h.1, (hb.block (b + 1) (Array.getElem?_eq_some_iff.1 h.2).1).trans h.2⟩
theorem TwoR.drew {W : World} {b : Nat} {x s : Int} {v : Value} {k : Bool} (h : TwoR W b x s v k) : TwoR W.drew b x s v k := h
theorem retBy {Z : World} {tm : Array Value} {x s : Int} {a : Option Addr} {n c : Nat} {k : Bool} {b : Nat} {R : Ending → World → Prop} (t2 : tm[6]?.getD undef = .pointer (some ⟨b, 0, none⟩)) (t3 : tm[7]?.getD undef = .pointer (some ⟨b + 1, 0, none⟩))
    (h2 : TwoR Z b x s (.slice a n c) k) (h : R (.returned (.tuple #[.agg #[.int .i64 x, .int .i64 s, .slice a n c], .bool k])) Z) : Leaves Tryd.prog Tryd.f16 tm R [] .returning Z := by
  obtain ⟨⟨c0, c1, c2, c3⟩, _⟩ := h2.cells
  exact ⟨.tuple #[.agg #[.int .i64 x, .int .i64 s, .slice a n c], .bool k], by simp [results, Tryd.results16, go_sem, t2, t3, c0, c1, c2, c3], h⟩
/-- The deferred closure catches an end. -/
theorem caught_end {w Z : World} {tm : Array Value} {b : Nat} {x0 s0 : Int} {v0 : Value} {k0 : Bool} {t c : ByteArray} {s : Int} {x : R10} {u : Value} (t2 : tm[6]?.getD undef = .pointer (some ⟨b, 0, none⟩)) (t3 : tm[7]?.getD undef = .pointer (some ⟨b + 1, 0, none⟩))
    (h2 : TwoR Z b x0 s0 v0 k0) (hb : w.heap.size ≤ b) (hB : Below w.heap.size w Z) (hI : IRow Z w.heap.size u x.tr) (hres : run10 t s c = some x) :
    Leaves Tryd.prog Tryd.f16 tm (PRunBy t s c w) [{ target := Target.fn (Fn.func 22) #[.pointer (some ⟨b, 0, none⟩), .pointer (some ⟨b + 1, 0, none⟩)], args := #[] }] (.panicking [{ v := .iface 36 (.agg #[.int .i64 (errI x.err), .int .i64 (x.st : Int), u]), recovered := false }]) Z := by
  obtain ⟨a, cc, rfl⟩ := hI.sl
  refine leaves_cons (f := 22) (args := #[.pointer (some ⟨b, 0, none⟩), .pointer (some ⟨b + 1, 0, none⟩)]) (by simp) (by simp [go_sem]) ?_
  refine (catch_end b _ _ _ _ _ _ _ _ _ [] Z h2).mono ?_
  rintro e u' w'' ⟨rfl, rfl, hT, hBl, hK⟩
  refine retBy t2 t3 hT ⟨hB.trans (hBl.mono hb), ?_⟩
  rw [hres]
  exact ⟨_, rfl, hK _ _ _ hI⟩
theorem caught_err {w Z : World} {tm : Array Value} {b : Nat} {x0 s0 : Int} {v0 : Value} {k0 : Bool} {t c : ByteArray} {s : Int} {v : Value} (t2 : tm[6]?.getD undef = .pointer (some ⟨b, 0, none⟩)) (t3 : tm[7]?.getD undef = .pointer (some ⟨b + 1, 0, none⟩))
    (h2 : TwoR Z b x0 s0 v0 k0) (hb : w.heap.size ≤ b) (hB : Below w.heap.size w Z) (hres : run10 t s c = none) :
    Leaves Tryd.prog Tryd.f16 tm (PRunBy t s c w) [{ target := Target.fn (Fn.func 22) #[.pointer (some ⟨b, 0, none⟩), .pointer (some ⟨b + 1, 0, none⟩)], args := #[] }] (.panicking [{ v := .iface 128 v, recovered := false }]) Z := by
  refine leaves_cons (f := 22) (args := #[.pointer (some ⟨b, 0, none⟩), .pointer (some ⟨b + 1, 0, none⟩)]) (by simp) (by simp [go_sem]) ?_
  refine (catch_err b _ _ _ _ _ [] Z h2).mono ?_
  rintro e u' w'' ⟨rfl, rfl, hT, hBl, hK⟩
  exact retBy t2 t3 hT (pby_none hres (hB.trans (hBl.mono hb)) rfl)
set_option maxHeartbeats 4000000 in
theorem by_none (t c : ByteArray) (hP : readP t.toList = none) (s : Int) (w : World) {N : Nat} (hL : Laid3 N w) :
    Calls Tryd.prog 16 #[.string t, .int .i64 s, .string c] w (PRunBy t s c w) := by
  have hA : Below w.heap.size w ((w.alloc (.cells #[.int .i64 0, .int .i64 0, .slice none 0 0] 36)).alloc (.cells #[.bool false] 4)) := ((Below.refl _ _).alloc (Nat.le_refl _) _).alloc (by simp) _
  have hr := fun X h => pread40 t.toList X (N := N) h
  rw [bytes_eta] at hr
  have H2 := twoR_new w
  have HP := Lib.hid hP
  clear hP
  obtain ⟨V, hV⟩ : ∃ V, V = (w.alloc (.cells #[.int .i64 0, .int .i64 0, .slice none 0 0] 36)).alloc (.cells #[.bool false] 4) := ⟨_, rfl⟩
  have hzV : V.heap.size = w.heap.size + 1 + 1 := by rw [hV]; simp
  rw [← hV] at hA H2
  obtain ⟨b, hbq⟩ : ∃ b, b = w.heap.size := ⟨_, rfl⟩
  rw [← hbq] at H2 hzV
  have HV := Lib.hid hV
  have HB := Lib.hid hbq
  have HL := Lib.hid (hL.below hA hL.lt)
  have HA := Lib.hid hA

  have HN := Lib.hid hL.lt
  clear hL hA hV hbq
  go_enter_defers Tryd.func16, Tryd.ntmps16
  go_wp2_with fail
  rw [← HV.out, ← HB.out]
  go_at_call 20
  refine (hr V HL.out).mono ?_
  rintro e W1 ⟨hb, hm⟩
  rw [HP.out] at hm
  obtain ⟨T, v, rfl⟩ := hm
  have H21 := H2.below hb
  obtain ⟨⟨c0, c1, c2, c3⟩, ⟨f0, f1, f2, f3⟩⟩ := H21.cells
  have hb1 := HA.out.trans (hb.mono HA.out.size)
  go_wp2_with fail
  have HP2 := H21.put 0 0 (.slice none 0 0) false
  have hwb : w.heap.size ≤ b := by rw [HB.out]; exact Nat.le_refl _
  exact retBy (Z := (((W1.setCell ⟨b, 0, none⟩ (.int .i64 0)).setCell ⟨b, 1, none⟩ (.int .i64 0)).setCell ⟨b, 2, none⟩ (.slice none 0 0)).setCell ⟨b + 1, 0, none⟩ (.bool false)) rfl rfl HP2.1 (pby_none (run10_none HP.out s c) (hb1.trans (HP2.2.1.mono hwb)) rfl)
set_option maxHeartbeats 4000000 in
theorem by_st (t c : ByteArray) {nd : Node} (hP : readP t.toList = some nd) (s : Int) (hs : isSt s = false) (w : World) {N : Nat} (hL : Laid3 N w) :
    Calls Tryd.prog 16 #[.string t, .int .i64 s, .string c] w (PRunBy t s c w) := by
  have hA : Below w.heap.size w ((w.alloc (.cells #[.int .i64 0, .int .i64 0, .slice none 0 0] 36)).alloc (.cells #[.bool false] 4)) := ((Below.refl _ _).alloc (Nat.le_refl _) _).alloc (by simp) _
  have hr := fun X h => pread40 t.toList X (N := N) h
  rw [bytes_eta] at hr
  have H2 := twoR_new w
  have HP := Lib.hid hP
  have HS := Lib.hid hs
  clear hP hs
  obtain ⟨T0, x0, hv⟩ := nodeV_iface nd
  have HNV := Lib.hid hv
  clear hv
  obtain ⟨V, hV⟩ : ∃ V, V = (w.alloc (.cells #[.int .i64 0, .int .i64 0, .slice none 0 0] 36)).alloc (.cells #[.bool false] 4) := ⟨_, rfl⟩
  have hzV : V.heap.size = w.heap.size + 1 + 1 := by rw [hV]; simp
  rw [← hV] at hA H2
  obtain ⟨b, hbq⟩ : ∃ b, b = w.heap.size := ⟨_, rfl⟩
  rw [← hbq] at H2 hzV
  have HV := Lib.hid hV
  have HB := Lib.hid hbq
  have HL := Lib.hid (hL.below hA hL.lt)
  have HA := Lib.hid hA

  have HN := Lib.hid hL.lt
  clear hL hA hV hbq
  go_enter_defers Tryd.func16, Tryd.ntmps16
  go_wp2_with fail
  rw [← HV.out, ← HB.out]
  go_at_call 20
  refine (hr V HL.out).mono ?_
  rintro e W1 ⟨hb, hm⟩
  rw [HP.out] at hm
  obtain rfl := hm
  rw [HNV.out]
  have H21 := H2.below hb
  obtain ⟨⟨c0, c1, c2, c3⟩, ⟨f0, f1, f2, f3⟩⟩ := H21.cells
  have hb1 := HA.out.trans (hb.mono HA.out.size)
  go_wp2_with (go_at_call 21; refine (isS48 s _).mono ?_; rintro e w2 ⟨rfl, rfl⟩; rw [HS.out])
  have HP2 := H21.put 0 0 (.slice none 0 0) false
  have hwb : w.heap.size ≤ b := by rw [HB.out]; exact Nat.le_refl _
  exact retBy (Z := (((W1.setCell ⟨b, 0, none⟩ (.int .i64 0)).setCell ⟨b, 1, none⟩ (.int .i64 0)).setCell ⟨b, 2, none⟩ (.slice none 0 0)).setCell ⟨b + 1, 0, none⟩ (.bool false)) rfl rfl HP2.1 (pby_none (run10_st HS.out) (hb1.trans (HP2.2.1.mono hwb)) rfl)
set_option maxHeartbeats 4000000 in
theorem by_long (t c : ByteArray) {nd : Node} (hP : readP t.toList = some nd) (s : Int) (hs : isSt s = true) (hc : 40 < c.size) (w : World) {N : Nat} (hL : Laid3 N w) :
    Calls Tryd.prog 16 #[.string t, .int .i64 s, .string c] w (PRunBy t s c w) := by
  have hA : Below w.heap.size w ((w.alloc (.cells #[.int .i64 0, .int .i64 0, .slice none 0 0] 36)).alloc (.cells #[.bool false] 4)) := ((Below.refl _ _).alloc (Nat.le_refl _) _).alloc (by simp) _
  have hr := fun X h => pread40 t.toList X (N := N) h
  rw [bytes_eta] at hr
  have H2 := twoR_new w
  have HP := Lib.hid hP
  have HS := Lib.hid hs
  have hc1 : (40 : Int) < (c.size : Int) := by omega
  clear hP hs
  obtain ⟨T0, x0, hv⟩ := nodeV_iface nd
  have HNV := Lib.hid hv
  clear hv
  obtain ⟨V, hV⟩ : ∃ V, V = (w.alloc (.cells #[.int .i64 0, .int .i64 0, .slice none 0 0] 36)).alloc (.cells #[.bool false] 4) := ⟨_, rfl⟩
  have hzV : V.heap.size = w.heap.size + 1 + 1 := by rw [hV]; simp
  rw [← hV] at hA H2
  obtain ⟨b, hbq⟩ : ∃ b, b = w.heap.size := ⟨_, rfl⟩
  rw [← hbq] at H2 hzV
  have HV := Lib.hid hV
  have HB := Lib.hid hbq
  have HL := Lib.hid (hL.below hA hL.lt)
  have HA := Lib.hid hA

  have HN := Lib.hid hL.lt
  clear hL hA hV hbq
  go_enter_defers Tryd.func16, Tryd.ntmps16
  go_wp2_with fail
  rw [← HV.out, ← HB.out]
  go_at_call 20
  refine (hr V HL.out).mono ?_
  rintro e W1 ⟨hb, hm⟩
  rw [HP.out] at hm
  obtain rfl := hm
  rw [HNV.out]
  have H21 := H2.below hb
  obtain ⟨⟨c0, c1, c2, c3⟩, ⟨f0, f1, f2, f3⟩⟩ := H21.cells
  have hb1 := HA.out.trans (hb.mono HA.out.size)
  go_wp2_with (go_at_call 21; refine (isS48 s _).mono ?_; rintro e w2 ⟨rfl, rfl⟩; rw [HS.out])
  have HP2 := H21.put 0 0 (.slice none 0 0) false
  have hwb : w.heap.size ≤ b := by rw [HB.out]; exact Nat.le_refl _
  exact retBy (Z := (((W1.setCell ⟨b, 0, none⟩ (.int .i64 0)).setCell ⟨b, 1, none⟩ (.int .i64 0)).setCell ⟨b, 2, none⟩ (.slice none 0 0)).setCell ⟨b + 1, 0, none⟩ (.bool false)) rfl rfl HP2.1 (pby_none (run10_long hc) (hb1.trans (HP2.2.1.mono hwb)) rfl)
set_option maxHeartbeats 4000000 in
theorem by_run (t c : ByteArray) {nd : Node} (hP : readP t.toList = some nd) (s : Int) (hs : isSt s = true) (hc : c.size ≤ 40) (w : World) {N : Nat} (hL : Laid3 N w) (hE : NotRight N w) :
    Calls Tryd.prog 16 #[.string t, .int .i64 s, .string c] w (PRunBy t s c w) := by
  have hA : Below w.heap.size w ((w.alloc (.cells #[.int .i64 0, .int .i64 0, .slice none 0 0] 36)).alloc (.cells #[.bool false] 4)) := ((Below.refl _ _).alloc (Nat.le_refl _) _).alloc (by simp) _
  have hr := fun X h => pread40 t.toList X (N := N) h
  rw [bytes_eta] at hr
  have H2 := twoR_new w
  obtain ⟨hok, htl, hs0, hs1, hpl⟩ := run10_went (t := t) hP hs hc
  have hres := run10_yes (t := t) hP hs hc rfl
  have hgo := pgo10 c.data.toList nd hok
  have hss : ((at10 s).st : Int) = s := by
    have := of_decide_eq_true hs
    show ((s.toNat : Nat) : Int) = s
    omega
  have HP := Lib.hid hP
  have HS := Lib.hid hs
  have hc1 : ¬ (40 : Int) < (c.size : Int) := by omega
  clear hP hs
  obtain ⟨T0, x0, hv⟩ := nodeV_iface nd
  have HNV := Lib.hid hv
  clear hv
  obtain ⟨V, hV⟩ : ∃ V, V = (w.alloc (.cells #[.int .i64 0, .int .i64 0, .slice none 0 0] 36)).alloc (.cells #[.bool false] 4) := ⟨_, rfl⟩
  have hzV : V.heap.size = w.heap.size + 1 + 1 := by rw [hV]; simp
  rw [← hV] at hA H2
  obtain ⟨b, hbq⟩ : ∃ b, b = w.heap.size := ⟨_, rfl⟩
  rw [← hbq] at H2 hzV
  have HV := Lib.hid hV
  have HB := Lib.hid hbq
  have HL := Lib.hid (hL.below hA hL.lt)
  have HA := Lib.hid hA
  have HE := Lib.hid (hE.below hA hL.lt)
  have HN := Lib.hid hL.lt
  clear hL hA hV hbq hE
  go_enter_defers Tryd.func16, Tryd.ntmps16
  go_wp2_with fail
  rw [← HV.out, ← HB.out]
  go_at_call 20
  refine (hr V HL.out).mono ?_
  rintro e W1 ⟨hb, hm⟩
  rw [HP.out] at hm
  obtain rfl := hm
  rw [HNV.out]
  have H21 := H2.below hb
  obtain ⟨⟨c0, c1, c2, c3⟩, ⟨f0, f1, f2, f3⟩⟩ := H21.cells
  have hb1 := HA.out.trans (hb.mono HA.out.size)
  go_wp2_with (go_at_call 21; refine (isS48 s _).mono ?_; rintro e w2 ⟨rfl, rfl⟩; rw [HS.out])
  have hz1 := hb.size
  have hlw := HN.out
  have hwb : w.heap.size ≤ b := by rw [HB.out]; exact Nat.le_refl _
  obtain ⟨V2, hV2⟩ : ∃ V2, V2 = W1.alloc (.cells #[.int .i64 s, .string c, .slice none 0 0] 55) := ⟨_, rfl⟩
  have hA2 : Below W1.heap.size W1 V2 := by rw [hV2]; exact (Below.refl _ _).alloc (Nat.le_refl _) _
  have hR : PR V2 W1.heap.size (at10 s).st (c.data.toList.drop (at10 s).pos) (.slice none 0 0) := by
    have h0 := heap_alloc_new W1 (.cells #[.int .i64 s, .string c, .slice none 0 0] 55)
    unfold PR
    rw [hV2, h0, hss, show c.data.toList.drop (at10 s).pos = c.data.toList from rfl, bytes_dl]
  have hE2 := (HE.out.below hb (by omega)).below hA2 (by omega)
  have hx := hgo V2 N W1.heap.size W1.heap.size (at10 s) (.slice none 0 0) hE2 (by omega) (by omega) hA2.size hR (irow_nil _ _) rfl (Nat.zero_le _) hs0 htl
  rw [HNV.out] at hx
  have H22 := H21.below hA2
  have hb2 := hb1.trans (hA2.mono hb1.size)
  have hlb := (Array.getElem?_eq_some_iff.1 H21.2).1
  rw [← hV2]
  generalize go10 c.data.toList nd (at10 s) = x at *
  have HR := Lib.hid hres
  clear hgo hres hV2
  refine hx.mono ?_
  rintro e W3 ⟨o3, hF3, hm⟩
  have H23 : TwoR W3 b 0 0 (.slice none 0 0) false := ⟨(hF3.block b (by have := hA2.size; omega) (by omega) (by simp [Value.ownBlock])).trans H22.1, (hF3.block (b + 1) (by have := hA2.size; omega) (by omega) (by simp [Value.ownBlock])).trans H22.2⟩
  have hb3 : Below w.heap.size w W3 := hb2.trans (hF3.below (by omega) (fun k e => by simp [Value.ownBlock] at e) (by have := hA2.size; omega))
  cases hxe : x.ends with
  | true =>
    rw [if_pos hxe] at hm
    obtain ⟨T, v, rfl, hh⟩ := hm
    rcases hh with ⟨hst, hpos, rfl, tv3, rfl, hI3⟩ | ⟨hn, rfl⟩
    · have hxr : x.err = true := by
        unfold R10.ends at hxe
        rw [hst] at hxe
        simpa using hxe
      have h1 : (1 : Int) = errI x.err := by rw [hxr]; rfl
      rw [h1]
      exact caught_end rfl rfl H23 hwb hb3 (hI3.mono (by omega)) (by rw [HR.out, if_pos ⟨hst, by rw [hpos, size_dl]⟩])
    · exact caught_err rfl rfl H23 hwb hb3 (by rw [HR.out, if_neg (fun h => hn ⟨h.1, by rw [h.2, size_dl]⟩)])
  | false =>
    rw [if_neg (by rw [hxe]; simp)] at hm
    obtain ⟨rfl, tv3, rfl, hR3, hI3⟩ := hm
    have hE3 := hE2.foot hF3 (by omega) (fun k e => by simp [Value.ownBlock] at e)
    have hst : x.stuck = false ∧ x.err = false := by
      unfold R10.ends at hxe
      rw [Bool.or_eq_false_iff] at hxe
      exact hxe
    cases hd : c.data.toList.drop x.pos with
    | nil =>
      rw [hd] at hR3
      have hpos : x.pos = c.size := by
        have h9 := List.drop_eq_nil_iff.1 hd
        rw [size_dl] at h9
        omega
      obtain ⟨a3, c3, hv3⟩ := hI3.sl
      subst hv3
      have hend := pend_ok 0 hR3
      go_wp2_with fail
      go_at_call 24
      refine hend.mono ?_
      rintro e W4 ⟨rfl, hb4⟩
      go_wp2_with fail
      have h1 : (0 : Int) = errI x.err := by rw [hst.2]; rfl
      rw [h1]
      exact caught_end rfl rfl (H23.below hb4) hwb (hb3.trans (hb4.mono hb3.size)) ((hI3.below hb4).mono (by omega)) (by rw [HR.out, if_pos ⟨hst.1, hpos⟩])
    | cons c9 l9 =>
      rw [hd] at hR3
      have hpos : ¬ x.pos = c.size := fun e => by
        rw [e, ← size_dl, List.drop_length] at hd
        cases hd
      have hend := pend_left 0 hR3 hE3 (by have := hF3.size; have := hA2.size; omega)
      go_wp2_with fail
      go_at_call 24
      refine hend.mono ?_
      rintro e W4 ⟨⟨v, rfl⟩, hb4⟩
      exact caught_err rfl rfl (H23.below hb4) hwb (hb3.trans (hb4.mono hb3.size)) (by rw [HR.out, if_neg (fun h => hpos h.2)])
end Go.Proofs.YtfoifcbpognjaaaDoor

