/- Chapter 11, the program: the results of a program from each state, as an array. -/
import Derived.Test.YtgkgkaapjljpcaaDoorR6
import Derived.ChangeKeysEq
import Derived.Laws.CopyRow
import Derived.Deep.MidRow
import Derived.Deep.RegionWith
namespace Go.Proofs.YtgkgkaapjljpcaaDoor
open Go.ChangeShapes Go.WideShapes Go.ChangeAt Go.RowKit Go.Shelf
attribute [local go_sem] Oper.semAt_some
set_option maxRecDepth 100000

/-! ### A copy of elements of several cells -/
theorem run_copy_wide (P : Program) (w : World) (dT sT ty elem : TypeId) (g o dLen dCap : Nat) (a : Addr) (sLen sCap sz : Nat) (cur : Array Value) (t : TypeId) (cs : List Value)
    (hu : P.underlying dT = some (.slice elem)) (hs : (P.info? elem).map (·.size) = some sz)
    (hg : w.heap[g]? = some (.cells cur t (0, 0))) (hn : cs.length = Nat.min sLen dLen * sz)
    (hsrc : ∀ j v, cs[j]? = some v → w.cell? (a.add j) = some v) (hfit : o + cs.length ≤ cur.size) (h1 : ∀ v ∈ cs, v.oneCell' = true) :
    (Builtin.copy_ #[dT, sT] ty #[.slice (some ⟨g, o, none⟩) dLen dCap, .slice (some a) sLen sCap]).run P w =
      .ok (goInt (Nat.min sLen dLen)) (w.setRow g (cur.toList.take o ++ cs ++ cur.toList.drop (o + cs.length)).toArray) := by
  have hl := run_loadCells_list (P := P) w a cs hsrc
  have hst := run_storeCells_at P g o t cs 0 cur w hg (by simpa using hfit) h1
  cases hq : P.info? elem with
  | none => simp [hq] at hs
  | some i =>
    have hi : i.size = sz := by simpa [hq] using hs
    simp [Builtin.copy_, run_underlying hu, Builtin.lenOf, Builtin.firstCells, sizeOf, typeInfo, hq, hi, ← hn, hl, hst]

/-! ### Nine outcomes as a value -/
def resA (r : Nat → Nat × Nat) : Array Value := (outCells r 9).toArray
def resV (r : Nat → Nat × Nat) : Value := .agg (resA r)
def noneR : Nat → Nat × Nat := fun _ => (0, 0)
theorem part_res (r : Nat → Nat × Nat) (i : Nat) (hi : i < 9) (w : World) : (part 61 (resA r) (i * 2)).run Tryd.prog w = .ok (.agg #[.int .i64 ((r (2 ^ i)).1 : Int), .int .i64 ((r (2 ^ i)).2 : Int)]) w := by
  match i, hi with
  | 0, _ => rfl
  | 1, _ => rfl
  | 2, _ => rfl
  | 3, _ => rfl
  | 4, _ => rfl
  | 5, _ => rfl
  | 6, _ => rfl
  | 7, _ => rfl
  | 8, _ => rfl

theorem eqOutD (a b c e : Int) (d : Nat) (w : World) : (Op.equalIn (d + 2) 61 (.agg #[.int .i64 a, .int .i64 b]) (.agg #[.int .i64 c, .int .i64 e])).run Tryd.prog w = .ok (a == c && b == e) w := by
  rw [run_equalIn_struct w (d + 1) 61 _ _ (by kernel_rfl) (by kernel_rfl)]
  have hl : (Tryd.prog.fieldsOf 61).toList = [⟨"ok", 59, 0, false, "", "loop.example/surelywrong/impl", 0⟩, ⟨"failed", 59, 1, false, "", "loop.example/surelywrong/impl", 8⟩] := by kernel_rfl
  have u3 : ∀ (x y : Int) (w : World), (Op.equalIn (d + 1) 59 (.int .i64 x) (.int .i64 y)).run Tryd.prog w = .ok (x == y) w := fun x y w => run_equalIn_int w d 59 .i64 .i64 x y Tryd.underlying59
  have p0 : ∀ (x y : Int) (w : World), (part 59 #[.int .i64 x, .int .i64 y] 0).run Tryd.prog w = .ok (.int .i64 x) w := fun x y w => by kernel_rfl
  have p1 : ∀ (x y : Int) (w : World), (part 59 #[.int .i64 x, .int .i64 y] 1).run Tryd.prog w = .ok (.int .i64 y) w := fun x y w => by kernel_rfl
  rw [hl]
  have n1 : "ok" ≠ "_" := by decide
  have n2 : "failed" ≠ "_" := by decide
  simp only [Op.eqFields, if_pos n1, if_pos n2, Sem.run_bind, p0, u3, Result.andThen_ok]
  cases h : (a == c) <;> cases h' : (b == e) <;> simp [p1, u3, h']
def sameAt (r q : Nat → Nat × Nat) (i : Nat) : Bool := decide (r (2 ^ i) = q (2 ^ i))
theorem eq_items (r q : Nat → Nat × Nat) (w : World) : ∀ (is : List Nat), (∀ i ∈ is, i < 9) → (Op.eqItems 9999 61 2 (resA r) (resA q) is).run Tryd.prog w = .ok (is.all (sameAt r q)) w
  | [], _ => by simp [Op.eqItems]
  | i :: is, h => by
    have hi := h i (by simp)
    have ih := eq_items r q w is (fun j hj => h j (by simp [hj]))
    have e : ((((r (2 ^ i)).1 : Nat) : Int) == (((q (2 ^ i)).1 : Nat) : Int) && (((r (2 ^ i)).2 : Nat) : Int) == (((q (2 ^ i)).2 : Nat) : Int)) = sameAt r q i := by
      unfold sameAt
      rw [Bool.eq_iff_iff, Bool.and_eq_true, beq_iff_eq, beq_iff_eq, decide_eq_true_iff, Prod.ext_iff]
      omega
    simp only [Op.eqItems, Sem.run_bind, part_res r i hi, part_res q i hi, eqOutD _ _ _ _ 9997, Result.andThen_ok, e]
    rw [List.all_cons]
    cases sameAt r q i
    · simp
    · simpa using ih
theorem eq_res (r q : Nat → Nat × Nat) (w : World) : (Op.equalIn 10000 63 (resV r) (resV q)).run Tryd.prog w = .ok ((List.range 9).all (sameAt r q)) w := by
  obtain ⟨i, hi, _⟩ := info_parts Tryd.infoOut
  unfold resV
  rw [show (10000 : Nat) = 9999 + 1 from rfl, run_equalIn_array w 9999 (resA r) (resA q) (by kernel_rfl) hi]
  exact eq_items r q w (List.range 9) (fun i hi => List.mem_range.1 hi)

/-! ### Results loaded and stored -/
def heldL (v : Value) : Sem Value := Instr.loadAt 63 v
theorem heldL_eq (v : Value) : Instr.loadAt 63 v = heldL v := rfl
def heldS (v x : Value) : Sem Unit := Instr.storeAt 63 v x
theorem heldS_eq (v x : Value) : Instr.storeAt 63 v x = heldS v x := rfl
theorem out_len (r : Nat → Nat × Nat) : (outCells r 9).length = 18 := rfl
theorem out_one (r : Nat → Nat × Nat) : ∀ v ∈ outCells r 9, v.oneCell' = true := by
  intro v hv
  unfold outCells at hv
  obtain ⟨s, _, hv⟩ := List.mem_flatMap.1 hv
  simp only [List.mem_cons, List.not_mem_nil, or_false] at hv
  rcases hv with rfl | rfl <;> rfl
def ResAt (W : World) (g : Nat) (r : Nat → Nat × Nat) : Prop := W.heap[g]? = some (.cells (resA r) 63 (0, 0))
theorem ResAt.lt {W : World} {g : Nat} {r : Nat → Nat × Nat} (h : ResAt W g r) : g < W.heap.size := (Array.getElem?_eq_some_iff.1 h).1
theorem ResAt.new (W : World) (r : Nat → Nat × Nat) : ResAt (W.alloc (.cells (resA r) 63)) W.heap.size r := heap_alloc_new W _
theorem ResAt.grown {W W' : World} {g : Nat} {r : Nat → Nat × Nat} {row : Option Nat} (h : ResAt W g r) (hg : W.grownBy W' row) (hne : some g ≠ row) : ResAt W' g r := (hg.block g h.lt hne).trans h
theorem ResAt.below {W W' : World} {g : Nat} {r : Nat → Nat × Nat} (h : ResAt W g r) (hb : Below W.heap.size W W') : ResAt W' g r := (hb.block g h.lt).trans h
theorem ResAt.cell {W : World} {g : Nat} {r : Nat → Nat × Nat} (h : ResAt W g r) (j : Nat) : W.cell? ⟨g, j, none⟩ = (outCells r 9)[j]? := by
  rw [cell_of_row _ g j _ 63 (0, 0) h]
  unfold resA
  rw [List.getElem?_toArray]
theorem ResAt.load {W : World} {g : Nat} {r : Nat → Nat × Nat} (h : ResAt W g r) : (heldL (.pointer (some ⟨g, 0, none⟩))).run Tryd.prog W = .ok (resV r) W := by
  unfold heldL
  refine run_loadAt_mid _ g 0 63 (outCells r 9) _ (fun j v hv => ?_) Tryd.underlying63 (by rfl) (by rw [out_len]; kernel_rfl)
  rw [Nat.zero_add, h.cell]
  exact hv
theorem set_row (t : TypeId) (g : Nat) : ∀ (cs cur pre : List Value) (W : World), W.heap[g]? = some (.cells (pre ++ cur).toArray t (0, 0)) → cur.length = cs.length →
    (W.setCells g pre.length cs).heap[g]? = some (.cells (pre ++ cs).toArray t (0, 0)) ∧ W.grownBy (W.setCells g pre.length cs) (some g)
  | [], cur, pre, W, h, hl => by
    obtain rfl : cur = [] := List.eq_nil_of_length_eq_zero hl
    exact ⟨h, ⟨rfl, rfl, rfl, Nat.le_refl _, fun _ _ _ => rfl⟩⟩
  | v :: cs, [], pre, W, h, hl => by simp at hl
  | v :: cs, x :: cur, pre, W, h, hl => by
    have h1 : (W.setCell ⟨g, pre.length, none⟩ v).heap[g]? = some (.cells ((pre ++ [v]) ++ cur).toArray t (0, 0)) := by
      rw [heap_setCell_same W g pre.length _ t v h]
      congr 2
      simp
    obtain ⟨h2, h3⟩ := set_row t g cs cur (pre ++ [v]) _ h1 (by simpa using hl)
    have e : W.setCells g pre.length (v :: cs) = (W.setCell ⟨g, pre.length, none⟩ v).setCells g (pre ++ [v]).length cs := by
      rw [List.length_append]; rfl
    rw [e]
    refine ⟨by rw [h2]; simp, ?_⟩
    have h4 : W.grownBy (W.setCell ⟨g, pre.length, none⟩ v) (some g) := ⟨rfl, rfl, rfl, by simp, fun k _ hk => heap_setCell_other W ⟨g, pre.length, none⟩ k _ (fun e => hk (by simp [e]))⟩
    exact ⟨h3.os.trans h4.os, h3.tape.trans h4.tape, h3.output.trans h4.output, Nat.le_trans h4.size h3.size, fun i hi hn => (h3.block i (Nat.lt_of_lt_of_le hi h4.size) hn).trans (h4.block i hi hn)⟩
theorem ResAt.store {W : World} {g : Nat} {r : Nat → Nat × Nat} (h : ResAt W g r) (q : Nat → Nat × Nat) : ∃ W', (heldS (.pointer (some ⟨g, 0, none⟩)) (resV q)).run Tryd.prog W = .ok () W' ∧ ResAt W' g q ∧ W.grownBy W' (some g) := by
  obtain ⟨h1, h2⟩ := set_row 63 g (outCells q 9) (outCells r 9) [] W h rfl
  refine ⟨W.setCells g 0 (outCells q 9), ?_, h1, h2⟩
  unfold heldS resV resA
  refine run_storeAt_mid W g 0 63 (outCells q 9).toArray (fun j hj => ?_) (by rw [List.size_toArray, out_len]; kernel_rfl) (all_oneCell_toArray (out_one q))
  rw [List.size_toArray, out_len] at hj
  rw [Nat.zero_add]
  refine ⟨?_, ?_⟩
  · rw [h.cell, List.getElem?_eq_getElem (by rw [out_len]; exact hj)]; rfl
  · unfold ResAt at h; simp [World.frozen?, h]
theorem ret_res {Z : World} {a : Act} {g : Nat} {r : Nat → Nat × Nat} {x : Value} {R : Ending → World → Prop} (hv : ResAt Z g r) (ha : a.tmps[2]?.getD undef = .pointer (some ⟨g, 0, none⟩)) (hx : a.tmps[3]?.getD undef = x) (hdf : a.defers = [])
    (h : R (.returned (.tuple #[resV r, x])) Z) : bodyPost Tryd.prog Tryd.f54 R Exit.ret a Z := by
  have hl := run_loadVar_row (P := Tryd.prog) Z g 63 63 (resA r) (0, 0) _ hv Tryd.underlying63 rfl (by kernel_rfl)
  refine bodyPost_ret (v := .tuple #[resV r, x]) ?_ hdf h
  simp [results, Tryd.results54, ha, hx, asAddr, hl, resV]
attribute [local go_sem ↓ 10000] heldL_eq heldS_eq

theorem copy_none (Z : World) (a : Addr) : (Builtin.copy_ #[123, 123] 3 #[.slice (some a) 9 9, .slice none 0 0]).run Tryd.prog Z = .ok (goInt 0) Z :=
  run_copy_nil Tryd.prog Z _ _ _ 61 a 9 9 Tryd.underlying123 (by kernel_rfl)
theorem outs_there {W : World} {g : Nat} {r : Nat → Nat × Nat} (hN : ∀ k, k < 9 → W.cell? ⟨g, k * 2, none⟩ = some (.int .i64 ((r (2 ^ k)).1 : Int)) ∧ W.cell? ⟨g, k * 2 + 1, none⟩ = some (.int .i64 ((r (2 ^ k)).2 : Int))) :
    ∀ j v, (outCells r 9)[j]? = some v → W.cell? ((⟨g, 0, none⟩ : Addr).add j) = some v := by
  intro j v hv
  rw [add_plain]
  have hj : j < 18 := by have := (List.getElem?_eq_some_iff.1 hv).1; rwa [out_len] at this
  match j, hj, hv with
  | 0, _, hv => exact (hN 0 (by omega)).1.trans hv
  | 1, _, hv => exact (hN 0 (by omega)).2.trans hv
  | 2, _, hv => exact (hN 1 (by omega)).1.trans hv
  | 3, _, hv => exact (hN 1 (by omega)).2.trans hv
  | 4, _, hv => exact (hN 2 (by omega)).1.trans hv
  | 5, _, hv => exact (hN 2 (by omega)).2.trans hv
  | 6, _, hv => exact (hN 3 (by omega)).1.trans hv
  | 7, _, hv => exact (hN 3 (by omega)).2.trans hv
  | 8, _, hv => exact (hN 4 (by omega)).1.trans hv
  | 9, _, hv => exact (hN 4 (by omega)).2.trans hv
  | 10, _, hv => exact (hN 5 (by omega)).1.trans hv
  | 11, _, hv => exact (hN 5 (by omega)).2.trans hv
  | 12, _, hv => exact (hN 6 (by omega)).1.trans hv
  | 13, _, hv => exact (hN 6 (by omega)).2.trans hv
  | 14, _, hv => exact (hN 7 (by omega)).1.trans hv
  | 15, _, hv => exact (hN 7 (by omega)).2.trans hv
  | 16, _, hv => exact (hN 8 (by omega)).1.trans hv
  | 17, _, hv => exact (hN 8 (by omega)).2.trans hv
theorem copy_some {Z : World} {b g cap : Nat} {r : Nat → Nat × Nat} (hb : ResAt Z b noneR) (hN : ∀ k, k < 9 → Z.cell? ⟨g, k * 2, none⟩ = some (.int .i64 ((r (2 ^ k)).1 : Int)) ∧ Z.cell? ⟨g, k * 2 + 1, none⟩ = some (.int .i64 ((r (2 ^ k)).2 : Int))) :
    ∃ Z', (Builtin.copy_ #[123, 123] 3 #[.slice (some ⟨b, 0, none⟩) 9 9, .slice (some ⟨g, 0, none⟩) 9 cap]).run Tryd.prog Z = .ok (goInt 9) Z' ∧ ResAt Z' b r ∧ Z.grownBy Z' (some b) := by
  have h := run_copy_wide Tryd.prog Z 123 123 3 61 b 0 9 9 ⟨g, 0, none⟩ 9 cap 2 (resA noneR) 63 (outCells r 9) Tryd.underlying123 (by kernel_rfl) hb rfl (outs_there hN) (by show 0 + 18 ≤ 18; omega) (out_one r)
  refine ⟨_, h, ?_, ⟨rfl, rfl, rfl, by simp [World.setRow], fun k _ hk => setRow_other Z b k _ (fun e => hk (by rw [e]))⟩⟩
  have := setRow_heap Z b (resA noneR) ((resA noneR).toList.take 0 ++ outCells r 9 ++ (resA noneR).toList.drop (0 + (outCells r 9).length)).toArray 63 (0, 0) hb
  exact this
set_option maxHeartbeats 2000000 in
theorem presOf_none (t : ByteArray) (w : World) {N : Nat} (hE : Laid3 N w) (hP : readP t.toList = none) :
    Calls Tryd.prog 54 #[.string t] w fun e w' => (∃ T v, e = .returned (.tuple #[resV noneR, .iface T v])) ∧ Below w.heap.size w w' := by
  obtain ⟨V, hV⟩ : ∃ V, V = w.alloc (.cells (resA noneR) 63) := ⟨_, rfl⟩
  have hA : Below w.heap.size w V := by rw [hV]; exact (Below.refl _ _).alloc (Nat.le_refl _) _
  have hn : ResAt V w.heap.size noneR := by rw [hV]; exact ResAt.new w _
  have hr := pouts_none t V (hE.below hA hE.lt) hP
  have hcp := copy_none
  go_enter Tryd.func54, Tryd.ntmps54
  go_wp2_with fail
  rw [show w.alloc (.cells #[.int .i64 0, .int .i64 0, .int .i64 0, .int .i64 0, .int .i64 0, .int .i64 0, .int .i64 0, .int .i64 0, .int .i64 0, .int .i64 0, .int .i64 0, .int .i64 0, .int .i64 0, .int .i64 0, .int .i64 0, .int .i64 0, .int .i64 0, .int .i64 0] 63) = V from hV.symm]
  have HV := Lib.hid hV
  have HA := Lib.hid hA
  clear hV hA
  go_at_call 85
  refine hr.mono ?_
  rintro e W1 ⟨⟨T, v, rfl⟩, hb⟩
  have hn1 := hn.below hb
  have hz := ResAt.new W1 noneR
  have hb2 := hb.alloc hb.size (.cells (resA noneR) 63)
  have hn2 := hn1.below ((Below.refl _ W1).alloc (Nat.le_refl _) (.cells (resA noneR) 63))
  have hld := hz.load
  obtain ⟨W2, hst, hr2, hg2⟩ := hn2.store noneR
  obtain ⟨X, hX⟩ : ∃ X, X = W1.alloc (.cells (resA noneR) 63) := ⟨_, rfl⟩
  rw [← hX] at hld hst hg2 hb2
  clear hz hn2
  have hcp1 := fun a => hcp (W1.alloc (.cells (resA noneR) 63)) a
  rw [← hX] at hcp1
  go_wp2_with fail
  rw [show W1.alloc (.cells #[.int .i64 0, .int .i64 0, .int .i64 0, .int .i64 0, .int .i64 0, .int .i64 0, .int .i64 0, .int .i64 0, .int .i64 0, .int .i64 0, .int .i64 0, .int .i64 0, .int .i64 0, .int .i64 0, .int .i64 0, .int .i64 0, .int .i64 0, .int .i64 0] 63) = X from hX.symm]
  have HX := Lib.hid hX
  clear hX hcp
  rw [hld]
  go_simp
  go_wp2_with fail
  refine ret_res (x := .iface T v) hr2 rfl rfl rfl ⟨⟨T, v, rfl⟩, ?_⟩
  have h1 := HA.out.trans (hb2.mono HA.out.size)
  exact h1.grown hg2 h1.size (fun j e => by cases e; exact Nat.le_refl _)
set_option maxHeartbeats 2000000 in
theorem presOf_some (t : ByteArray) (w : World) {N : Nat} (hE : Laid3 N w) {nd : Node} (hP : readP t.toList = some nd) :
    Calls Tryd.prog 54 #[.string t] w fun e w' => e = .returned (.tuple #[resV (runR nd), .nilIface]) ∧ Below w.heap.size w w' := by
  obtain ⟨V, hV⟩ : ∃ V, V = w.alloc (.cells (resA noneR) 63) := ⟨_, rfl⟩
  have hA : Below w.heap.size w V := by rw [hV]; exact (Below.refl _ _).alloc (Nat.le_refl _) _
  have hn : ResAt V w.heap.size noneR := by rw [hV]; exact ResAt.new w _
  have hr := pouts_some t V (hE.below hA hE.lt) hP
  generalize runR nd = r at hr ⊢
  go_enter Tryd.func54, Tryd.ntmps54
  go_wp2_with fail
  rw [show w.alloc (.cells #[.int .i64 0, .int .i64 0, .int .i64 0, .int .i64 0, .int .i64 0, .int .i64 0, .int .i64 0, .int .i64 0, .int .i64 0, .int .i64 0, .int .i64 0, .int .i64 0, .int .i64 0, .int .i64 0, .int .i64 0, .int .i64 0, .int .i64 0, .int .i64 0] 63) = V from hV.symm]
  have HV := Lib.hid hV
  have HA := Lib.hid hA
  clear hV hA
  go_at_call 85
  refine hr.mono ?_
  rintro e W1 ⟨g, cap, rfl, hg, hN, hb⟩
  have hn1 := hn.below hb
  have hz := ResAt.new W1 noneR
  have hb2 := hb.alloc hb.size (.cells (resA noneR) 63)
  have hn2 := hn1.below ((Below.refl _ W1).alloc (Nat.le_refl _) (.cells (resA noneR) 63))
  have hN2 : Nine (W1.alloc (.cells (resA noneR) 63)) g r := Nine.below hN hg ((Below.refl _ W1).alloc (Nat.le_refl _) _)
  obtain ⟨X1, hcp1, hz1, hgX⟩ := copy_some (cap := cap) hz hN2
  have hb3 : Below V.heap.size V X1 := hb2.grown hgX hb2.size (fun j e => by cases e; exact hb.size)
  have hn3 := hn2.grown hgX (by have := hn1.lt; intro e; have := Option.some.inj e; omega)
  have hld := hz1.load
  obtain ⟨W2, hst, hr2, hg2⟩ := hn3.store r
  obtain ⟨X, hX⟩ : ∃ X, X = W1.alloc (.cells (resA noneR) 63) := ⟨_, rfl⟩
  rw [← hX] at hcp1
  clear hz hn2 hN2
  go_wp2_with fail
  rw [show W1.alloc (.cells #[.int .i64 0, .int .i64 0, .int .i64 0, .int .i64 0, .int .i64 0, .int .i64 0, .int .i64 0, .int .i64 0, .int .i64 0, .int .i64 0, .int .i64 0, .int .i64 0, .int .i64 0, .int .i64 0, .int .i64 0, .int .i64 0, .int .i64 0, .int .i64 0] 63) = X from hX.symm]
  have HX := Lib.hid hX
  clear hX hgX
  rw [hcp1]
  go_simp
  go_wp2_with fail
  refine ret_res (x := .nilIface) hr2 rfl rfl rfl ⟨rfl, ?_⟩
  have h1 := HA.out.trans (hb3.mono HA.out.size)
  exact h1.grown hg2 h1.size (fun j e => by cases e; exact Nat.le_refl _)
end Go.Proofs.YtgkgkaapjljpcaaDoor

