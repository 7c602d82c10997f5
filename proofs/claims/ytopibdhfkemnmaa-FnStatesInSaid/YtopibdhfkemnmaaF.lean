/- The program's text of a set: the iterator's states, their digits, joined by commas. -/
import Derived.Test.YtopibdhfkemnmaaT
import Derived.Test.YtopibdhfkemnmaaShelf
namespace Go.Proofs.Ytopibdhfkemnmaa
open Go.ChangeShapes Go.WideShapes Go.ChangeAt Go.RowKit Go.Shelf

attribute [local go_sem] Oper.semAt_some

theorem empty_iff : ∀ n : Fin 512, (upTo (n.val : Int) 9).isEmpty = decide (n.val = 0) := by decide +kernel
theorem upTo_ne {s : Int} (hs : isSet s = true) (h0 : s ≠ 0) : upTo s 9 ≠ [] := by
  have h := of_decide_eq_true hs
  obtain ⟨n, rfl⟩ : ∃ n : Nat, s = (n : Int) := ⟨s.toNat, by omega⟩
  have := empty_iff ⟨n, by omega⟩
  intro e
  rw [e] at this
  have h1 : n = 0 := by simpa using this
  omega
theorem upTo_zero : upTo 0 9 = [] := by decide +kernel

theorem Try.info9 : (Try.prog.info? 9).map (fun i => (i.zero, i.size, i.bytes)) = some (some (.string ⟨#[]⟩), 1, 16) := by kernel_rfl

def words (l : List (Fin 9)) : List Value := l.map fun x => .string ⟨(two x).toArray⟩
theorem words_snoc (l : List (Fin 9)) (x : Fin 9) : words (l ++ [x]) = words l ++ [.string ⟨(two x).toArray⟩] := by simp [words]

theorem boxedBelow {W W' : World} {B : Nat} {t : TypeId} {v : Value} (h : Boxed W B t v) {n : Nat} (hb : Below n W W') (hn : W.heap.size ≤ n) : Boxed W' B t v := (hb.block B (Nat.lt_of_lt_of_le h.lt hn)).trans h
theorem ownsBelow {W W' : World} {B e n : Nat} {v : Value} {k : Nat} {xs : List Value} (h : W.ownsRow B e n v k xs) (hb : Below W.heap.size W W') : W'.ownsRow B e n v k xs := by
  obtain ⟨h1, h2⟩ := h
  refine ⟨h1, ?_⟩
  rcases h2 with h2 | ⟨g, cap, cur, a, b, c, d⟩
  · exact .inl h2
  · exact .inr ⟨g, cap, cur, a, b, by rw [hb.block g (Array.getElem?_eq_some_iff.1 c).1]; exact c, d⟩

theorem keeps_of_below {W W' : World} (h : Below W.heap.size W W') : KeepsOthers W W' :=
  ⟨h.size, fun k _ hk _ => (h.block k (Array.getElem?_eq_some_iff.1 hk).1).trans hk⟩
theorem tx47f (w : World) (x : Fin 9) :
    Calls Try.prog 47 #[.agg #[.int .i64 ((x.val : Int) / 3), .int .i64 ((x.val : Int) % 3)]] w fun e w' => e = .returned (.string ⟨(two x).toArray⟩) ∧ Below w.heap.size w w' := by
  have := x.2
  rw [← two_eq' x]
  exact tx47 w _ _ (by omega) (by omega) (by omega) (by omega)

/-- An append that the walk leaves standing till its run is known. -/
def heldAppend (ats : Array TypeId) (ty : TypeId) (args : Array Value) : Sem Value := Builtin.append_ ats ty args
theorem builtin_held (ats : Array TypeId) (ty : TypeId) (cs : Array Bool) (args : Array Value) : builtin .append ats ty cs args = (do pure (.value (← heldAppend ats ty args))) := rfl

/-- All that the walk wants of the append, and all that is kept. -/
theorem app_step {w W w2 : World} {s : Int} {x : Fin 9} {pre : List (Fin 9)} {v : Value} {i0 : TypeInfo} (hi : Try.prog.info? 9 = some i0) (hz0 : i0.zero = some (.string ⟨#[]⟩)) (hz1 : i0.size = 1) (hz2 : i0.bytes = 16)
    (hv : Boxed W w.heap.size 58 v) (hrow : W.ownsRow w.heap.size 9 1 v pre.length (words pre)) (hS : Boxed W (w.heap.size + 1) 46 (.int .i64 s)) (hB : Below w.heap.size w W) (hlt : pre.length < 9) (hb : Below W.heap.size W w2) :
    ∃ g cap w3, (heldAppend #[58, 58] 58 #[v, .slice (some ⟨w2.heap.size, 0, none⟩) 1 1]).run Try.prog (w2.alloc (.cells #[.string ⟨(two x).toArray⟩] 9)) = .ok (.slice (some ⟨g, 0, none⟩) (pre.length + 1) cap) w3 ∧
      w3.cell? ⟨w.heap.size, 0, none⟩ = some v ∧ w3.frozen? ⟨w.heap.size, 0, none⟩ = false ∧
      (KeepsOthers W (w3.setCell ⟨w.heap.size, 0, none⟩ (.slice (some ⟨g, 0, none⟩) (pre.length + 1) cap)) ∧ KpB (w.heap.size + 1) W (w3.setCell ⟨w.heap.size, 0, none⟩ (.slice (some ⟨g, 0, none⟩) (pre.length + 1) cap)) ∧
        (∃ u, Boxed (w3.setCell ⟨w.heap.size, 0, none⟩ (.slice (some ⟨g, 0, none⟩) (pre.length + 1) cap)) w.heap.size 58 u ∧ (w3.setCell ⟨w.heap.size, 0, none⟩ (.slice (some ⟨g, 0, none⟩) (pre.length + 1) cap)).ownsRow w.heap.size 9 1 u (pre ++ [x]).length (words (pre ++ [x])) ∧ True) ∧
        Boxed (w3.setCell ⟨w.heap.size, 0, none⟩ (.slice (some ⟨g, 0, none⟩) (pre.length + 1) cap)) (w.heap.size + 1) 46 (.int .i64 s) ∧ Below w.heap.size w (w3.setCell ⟨w.heap.size, 0, none⟩ (.slice (some ⟨g, 0, none⟩) (pre.length + 1) cap))) := by
  have hB2 : Below w.heap.size w w2 := hB.trans (hb.mono hB.size)
  have hrow2 := ownsBelow hrow hb
  have hv2' := boxedBelow hv hb (Nat.le_refl _)
  have hS2' := boxedBelow hS hb (Nat.le_refl _)
  obtain ⟨v', w3, hr, hown', hgrow, _⟩ := run_append_own (P := Try.prog) (w2.alloc (.cells #[.string ⟨(two x).toArray⟩] 9)) w.heap.size 58 58 9 i0 (.string ⟨#[]⟩) 1 16 Try.underlying58 hi hz0 hz1 hz2 rfl (by decide) v pre.length (words pre) (hrow2.alloc _) ⟨w2.heap.size, 0, none⟩ 1 1 [.string ⟨(two x).toArray⟩] rfl (cell_one_new _ _ _) (by simp [Value.oneCell']) (by unfold maxLen; omega) (by omega) (by have := hB2.size; simp; omega)
  obtain ⟨g', cap', rfl⟩ := ownsRow_succ hown'
  obtain ⟨hv1, hv2, hr2, hk2, hb2⟩ := hv2'.appended (by decide) hrow2 hB2.size (Nat.le_refl _) hown' hgrow
  have hS1 := (hS2'.alloc (.cells #[.string ⟨(two x).toArray⟩] 9)).kept hgrow (hS2'.not_row (by decide) hrow2)
  have hS2 := hS1.other (B' := w.heap.size) (by omega) (.slice (some ⟨g', 0, none⟩) (pre.length + 1) cap')
  exact ⟨g', cap', w3, hr, hv1.cell, hv1.frozen, (keeps_of_below hb).trans hk2, Eq.trans (show _ = _ from hS2) (Eq.symm (show _ = _ from hS)), ⟨_, hv2, by rw [words_snoc, List.length_append]; exact hr2, trivial⟩, hS2, hB2.trans hb2⟩

def wordsB (l : List (Fin 9)) : List ByteArray := l.map fun x => ⟨(two x).toArray⟩
theorem wordsB_join (l : List (Fin 9)) : Lib.join ((wordsB l).map (·.data.toList)) (⟨#[44]⟩ : ByteArray).data.toList = fmtL l := by
  unfold fmtL wordsB
  rw [List.map_map]
  congr 1
theorem words_at {W : World} {B : Nat} {v : Value} {l : List (Fin 9)} (h : W.ownsRow B 9 1 v l.length (words l)) (hne : l ≠ []) :
    ∃ g cap, v = .slice (some ⟨g, 0, none⟩) l.length cap ∧ g < W.heap.size ∧ (∀ (j : Nat) x, (wordsB l)[j]? = some x → W.cell? ⟨g, 0 + j, none⟩ = some (.string x)) ∧ l.length ≤ cap := by
  have h' := h
  rcases h.2 with ⟨_, h0⟩ | ⟨g, cap, cur, rfl, hb, hg, hn, hm, _⟩
  · exact absurd (List.length_eq_zero_iff.1 h0) hne
  · refine ⟨g, cap, rfl, (Array.getElem?_eq_some_iff.1 hg).1, fun j x hx => ?_, hn⟩
    have hj : j < l.length := by
      have := (List.getElem?_eq_some_iff.1 hx).1
      simpa [wordsB] using this
    rw [Nat.zero_add, World.ownsRow.cellAt h' j (by omega)]
    simp only [wordsB, List.getElem?_map, Option.map_eq_some_iff] at hx
    obtain ⟨y, hy, rfl⟩ := hx
    simp [words, hy]

attribute [local go_sem ↓ 10000] builtin_held

set_option maxRecDepth 100000 in
set_option maxHeartbeats 4000000 in
theorem tx44_in (n : Nat) (hn : 3 ≤ n) (s : Int) (w : World) (hs : isSet s = true) (h0 : s ≠ 0) :
    CallsIn Fence.wide n Try.prog 44 #[.int .i64 s] w fun e W' => e = .returned (.string ⟨(fmtL (upTo s 9)).toArray⟩) ∧ Below w.heap.size w W' := by
  have h1 : 1 ≤ n := by omega
  have hz : (s == 0) = false := by simpa using h0
  have hmx : Try.prog.follows .mixedOrders = true := by kernel_rfl
  obtain ⟨i0, hi, hz0, hz1, hz2⟩ := info_parts Try.info9
  refine callsIn_of_wp_marks Try.func44 rfl trivial ?_ rfl
  simp only [Try.ntmps44, List.size_toArray, List.length_cons, List.length_nil, Nat.reduceAdd, Nat.reduceSub, Array.replicate_succ, Array.replicate_zero, List.push_toArray, List.append_toArray, List.nil_append, List.cons_append]
  gi_wp2_with (refine ⟨trivial, ?_⟩; gi_at_call 34; refine (maker_in (n - 1) s _).mono ?_; rintro e w' ⟨rfl, rfl⟩)
  have bO := Boxed.new w 58 (.slice none 0 0)
  have bN := Boxed.new (w.alloc (.cells #[.slice none 0 0] 58)) 46 (.int .i64 s)
  rw [World.size_alloc] at bN
  have hB0 : Below w.heap.size w ((w.alloc (.cells #[.slice none 0 0] 58)).alloc (.cells #[.int .i64 s] 46)) := ((Below.refl _ w).alloc (Nat.le_refl _) _).alloc (by simp) _
  refine wpIn_rangeFunc_ownF rfl h1 (gf := 45) (lb := #[.pointer (some ⟨w.heap.size + 1, 0, none⟩)]) rfl trivial (enters_of Try.func45 (by kernel_rfl) rfl)
    (states_stops (n - 1) (by omega) (w.heap.size + 1) s _ (by simp) bN.cell) kpB_t (kpB_b (by simp)) (Below.refl _ _) (fun _ => rfl)
    (fun pre W => (∃ v, Boxed W w.heap.size 58 v ∧ W.ownsRow w.heap.size 9 1 v pre.length (words pre) ∧ True) ∧ Boxed W (w.heap.size + 1) 46 (.int .i64 s) ∧ Below w.heap.size w W)
    (fun _ _ _ => False)
    (OwnFrom.and (Own.from (holdsRow_own w.heap.size w.heap.size 58 9 1 (fun pre => pre.length) (fun pre => words pre) (fun pre v => True)) _) (OwnFrom.and (Own.from (boxed_own (w.heap.size + 1) 46 (fun _ => .int .i64 s)) _) (ownFrom_below (Nat.le_refl _) (by simp; omega))))
    (fun _ _ _ _ _ hs _ _ => hs)
    ⟨⟨_, bO.alloc _, World.ownsRow_nil _ _ _ _, trivial⟩, bN, hB0⟩
    (fun x => { tmps := #[.int .i64 s, undef, .string ⟨#[]⟩, .pointer (some ⟨w.heap.size, 0, none⟩), .int .i64 (x.val : Int), .int .i64 s, .bool false, .int .i64 s, .func (.func 45) #[] #[.pointer (some ⟨w.heap.size + 1, 0, none⟩)], .int .i64 (x.val : Int), undef, undef, undef, undef, undef, undef, undef, undef], defers := [] }) ?assign ?body ?done ?stop
  case assign =>
    intro l x W K hK
    simp only [encs]
    gi_wp2
    exact hK
  case body =>
    rintro l pre x W ⟨⟨v, hv, hrow, _⟩, hS, hB⟩ hlt
    have hc := hv.cell
    have x0 : (0 : Int) ≤ (x.val : Int) := by omega
    have x8 : (x.val : Int) ≤ 8 := by have := x.2; omega
    have hd : 1 ≤ n - 1 - 1 := by omega
    gi_wp2_with fail
    gi_region_with_o (refine ⟨trivial, ?_⟩; first | (gi_at_call 41; refine (CallsIn.inRound l (callsIn_wide.2 (vi41 _ _ x0 x8))).mono ?_; rintro e w1 ⟨rfl, hb1⟩; have hc1 : w1.cell? ⟨w.heap.size, 0, none⟩ = some v := (Below.cell hb1 (p := ⟨w.heap.size, 0, none⟩) hv.lt).trans hc) | (gi_at_call 47; refine (CallsIn.inRound l (callsIn_wide.2 (tx47f _ x))).mono ?_; rintro e w2 ⟨rfl, hb2⟩; have hb : Below W.heap.size W w2 := ((Below.refl W.heap.size W).drew.trans hb1).trans (hb2.mono hb1.size); have hc2 := (hb.cell (p := ⟨w.heap.size, 0, none⟩) hv.lt).trans hc; have hc2' := cellAlloc (.cells #[.string ⟨(two x).toArray⟩] 9) hc2; obtain ⟨g, cap, w3, hr, hc3, hf3, hall⟩ := app_step (x := x) hi hz0 hz1 hz2 hv hrow hS hB hlt hb; have HA := Lib.hid hall; clear hall))
    all_goals gi_wp2
    all_goals exact HA.out
  case done =>
    rintro D ys W hD rfl ⟨⟨v, hv, hrow, _⟩, hS, hB⟩ hK
    have hc := hv.cell
    have hne := upTo_ne hs h0
    obtain ⟨g, cap, rfl, hg, hcells, hcap⟩ := words_at hrow hne
    have hjoin : Lib.join ((wordsB (upTo s 9)).map (·.data.toList)) (⟨#[44]⟩ : ByteArray).data.toList = fmtL (upTo s 9) := wordsB_join _
    have hl := upTo_len s 9
    have hfl := fmtL_len (upTo s 9)
    have hwl : (wordsB (upTo s 9)).length = (upTo s 9).length := by simp [wordsB]
    have C := Try.strings_Join g 0 cap (wordsB (upTo s 9)) ⟨#[44]⟩ W hcells hg (by omega) (by omega) (by rw [hjoin]; omega)
    rw [hwl, hjoin] at C
    have HC := Lib.hid C
    have HJ := Lib.hid hjoin
    have HL := Lib.hid hwl
    clear C hjoin hwl hcells
    gi_wp2_with (refine ⟨trivial, ?_⟩; gi_at_call 48; refine (callsIn_wide.2 HC.out).mono ?_; rintro e W2 ⟨rfl, hb2⟩)
    have hK2 : W2.heap[D]? = some (.deferred (some [])) := (hb2.block D (Array.getElem?_eq_some_iff.1 hK).1).trans hK
    refine ⟨by simp, .inl ⟨_, _, rfl, run_takeDeferred hK2, ?_⟩⟩
    have hB2 : Below w.heap.size w W2 := hB.trans (hb2.mono hB.size)
    exact ⟨_, results_tmp rfl _ _ _, rfl, hB2.trans (belowK_b (w := w) (Nat.le_refl _) W2 D _ _ (by simp at hD; omega) hK2 rfl rfl)⟩
  case stop =>
    rintro D c pre W _ _ h _
    exact h.elim
end Go.Proofs.Ytopibdhfkemnmaa
