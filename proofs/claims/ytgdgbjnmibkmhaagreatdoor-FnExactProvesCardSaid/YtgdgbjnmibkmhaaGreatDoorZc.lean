/- Chapter 6, the program: a rule by its word, whether triples are valid, whether a rule fits. Chapter 6, the program: what the eleven rules ask of a step. Chapter 6, the program: the rules that compare triples. Chapter 6, the program: the rules of two triples. What the condition lays, where the errors of triples and of rules that are none are listed besides. -/
import Derived.Test.YtgdgbjnmibkmhaaGreatDoorZb
import Derived.Test.YtgdgbjnmibkmhaaGreatDoorZa
import Derived.Test.YtgdgbjnmibkmhaaGreatDoorNC
import Derived.Test.YtgdgbjnmibkmhaaGreatDoorTH
import Derived.Test.YtgdgbjnmibkmhaaGreatDoorL5
namespace Go.Proofs.YtgdgbjnmibkmhaaGreatDoor
open Go.ChangeShapes Go.WideShapes Go.ChangeAt Go.RowKit Go.Shelf
attribute [local go_sem] Oper.semAt_some
attribute [local go_sem] store_func
theorem store_nofunc {P : Program} {w : World} {a : Addr} {m : Mode} : (store a .nilFunc m).run P w = stored P w a .nilFunc m := run_store P w a _ m rfl
attribute [local go_sem] store_nofunc
set_option maxRecDepth 100000

def okTr (T : Trip) : Bool := validT T.b T.p T.x T.r
theorem all_upto {ts : List Trip} (h : ∀ (j : Nat) T, ts[j]? = some T → okTr T = true) : ts.all okTr = true := by
  rw [List.all_eq_true]
  intro T hT
  obtain ⟨k, hk, rfl⟩ := List.getElem_of_mem hT
  exact h k _ (List.getElem?_eq_getElem hk)
theorem all_hole {ts : List Trip} {k : Nat} {T : Trip} (h : ts[k]? = some T) (hT : okTr T = false) : ts.all okTr = false := by
  rw [Bool.eq_false_iff]
  intro ha
  have := List.all_eq_true.1 ha T (List.mem_of_getElem? h)
  rw [hT] at this
  cases this
set_option maxHeartbeats 2000000 in
theorem areValid92 {W : World} {v : Value} {ts : List Trip} (h : TripsAt W v ts) {N : Nat} (hL : Laid3 N W) :
    Calls Tryz.prog 46 #[v] W fun e W' => e = .returned (.bool (ts.all okTr)) ∧ Below W.heap.size W W' := by
  obtain ⟨a, c, rfl, q1, q2, q3⟩ := h
  unfold maxLen at q2
  have hni : (ts.length : Int) ≤ 9223372036854775807 := by omega
  have HA := Lib.hid (fun h => all_upto (ts := ts) h)
  have HF := Lib.hid (fun k T h h' => all_hole (ts := ts) (k := k) (T := T) h h')
  generalize ts.all okTr = res at HA HF ⊢
  go_enter Tryz.func46, Tryz.ntmps46
  go_wp2_with fail
  go_loopw [7] (fun i wr => ∃ k : Nat, k ≤ ts.length ∧ i = .int .i64 (k : Int) ∧ (∀ (j : Nat) T, j < k → ts[j]? = some T → okTr T = true) ∧ Below W.heap.size W wr) (fun i _ => ts.length - (intOf i).toNat)
  case atStart => exact ⟨0, by omega, rfl, fun j T hj => by omega, Below.refl _ _⟩
  case round =>
    obtain ⟨k, hk, rfl, hok, hB⟩ := hrel
    by_cases hlt : k < ts.length
    · have hlt2 : (k : Int) < (ts.length : Int) := by omega
      have hl : ts[k]? = some ts[k] := List.getElem?_eq_getElem hlt
      rcases q3 with q3 | ⟨g, off, rfl, q3⟩
      · rw [q3] at hlt; simp at hlt
      have hc := (q3 k _ hl).below hB
      generalize ts[k] = T at hl hc
      obtain ⟨c0, c1, c2, c3⟩ := hc
      have hBA := hB.alloc hB.size (.cells #[.int .i64 T.b, .string T.p, .int .i64 T.x, .int .i64 T.r] 31)
      have hV := ptvalid T.b T.p T.x T.r _ (hL.below hBA hL.lt)
      cases hv : okTr T with
      | true =>
        rw [show validT T.b T.p T.x T.r = true from hv] at hV
        go_wp2_with fail
        go_at_call 75
        refine hV.mono ?_
        rintro e W1 ⟨rfl, b1⟩
        go_wp2_with fail
        go_roundw
        case rel => exact ⟨k + 1, by omega, by go_num, fun j T' hj hl' => by
          by_cases he : j = k
          · subst he
            rw [hl] at hl'
            cases hl'
            exact hv
          · exact hok j T' (by omega) hl', hBA.trans (b1.mono hBA.size)⟩
        case measure => simp [intOf]; omega
      | false =>
        rw [show validT T.b T.p T.x T.r = false from hv] at hV
        have hr := HF.out k T hl hv
        go_wp2_with fail
        go_at_call 75
        refine hV.mono ?_
        rintro e W1 ⟨rfl, b1⟩
        go_wp2_with fail
        go_ret
        exact ⟨by first | rfl | (rw [hr]; rfl), hBA.trans (b1.mono hBA.size)⟩
    · have hkn : k = ts.length := by omega
      have hge : ¬ ((k : Int) < (ts.length : Int)) := by omega
      have hr := HA.out (fun j T hl => hok j T (by have := (List.getElem?_eq_some_iff.1 hl).1; omega) hl)
      go_wp2_with fail
      go_ret
      exact ⟨by first | rfl | (rw [hr]; rfl), hB⟩
/-! ### Blocks of four cells -/
def Four4 (W : World) (g : Nat) (t : TypeId) (c0 c1 c2 c3 : Value) : Prop := W.heap[g]? = some (.cells #[c0, c1, c2, c3] t (0, 0))
theorem Four4.new (W : World) (t : TypeId) (c0 c1 c2 c3 : Value) : Four4 (W.alloc (.cells #[c0, c1, c2, c3] t)) W.heap.size t c0 c1 c2 c3 := heap_alloc_new W _
theorem Four4.lt {W : World} {g : Nat} {t : TypeId} {c0 c1 c2 c3 : Value} (h : Four4 W g t c0 c1 c2 c3) : g < W.heap.size := (Array.getElem?_eq_some_iff.1 h).1
theorem Four4.below {W W' : World} {g : Nat} {t : TypeId} {c0 c1 c2 c3 : Value} (h : Four4 W g t c0 c1 c2 c3) {n : Nat} (hb : Below n W W') (hn : g < n) : Four4 W' g t c0 c1 c2 c3 := (hb.block g hn).trans h
theorem Four4.cells {W : World} {g : Nat} {t : TypeId} {c0 c1 c2 c3 : Value} (h : Four4 W g t c0 c1 c2 c3) :
    W.cell? ⟨g, 0, none⟩ = some c0 ∧ W.cell? ⟨g, 1, none⟩ = some c1 ∧ W.cell? ⟨g, 2, none⟩ = some c2 ∧ W.cell? ⟨g, 3, none⟩ = some c3 := by
  refine ⟨?_, ?_, ?_, ?_⟩
  · rw [cell_of_row _ g 0 _ _ (0, 0) h]; rfl
  · rw [cell_of_row _ g 1 _ _ (0, 0) h]; rfl
  · rw [cell_of_row _ g 2 _ _ (0, 0) h]; rfl
  · rw [cell_of_row _ g 3 _ _ (0, 0) h]; rfl
theorem Four4.frozen {W : World} {g : Nat} {t : TypeId} {c0 c1 c2 c3 : Value} (h : Four4 W g t c0 c1 c2 c3) :
    W.frozen? ⟨g, 0, none⟩ = false ∧ W.frozen? ⟨g, 1, none⟩ = false ∧ W.frozen? ⟨g, 2, none⟩ = false ∧ W.frozen? ⟨g, 3, none⟩ = false := by
  unfold Four4 at h
  refine ⟨?_, ?_, ?_, ?_⟩ <;> (unfold World.frozen?; rw [h]; rfl)
def set44 (U : World) (g : Nat) (d0 d1 d2 d3 : Value) : World := (((U.setCell ⟨g, 0, none⟩ d0).setCell ⟨g, 1, none⟩ d1).setCell ⟨g, 2, none⟩ d2).setCell ⟨g, 3, none⟩ d3
theorem Four4.stored {W : World} {g : Nat} {t : TypeId} {c0 c1 c2 c3 : Value} (h : Four4 W g t c0 c1 c2 c3) (d0 d1 d2 d3 : Value) : Four4 (set44 W g d0 d1 d2 d3) g t d0 d1 d2 d3 := by
  unfold Four4 set44 at *
  have h0 := heap_setCell_same W g 0 _ t d0 h
  have h1 := heap_setCell_same _ g 1 _ t d1 h0
  have h2 := heap_setCell_same _ g 2 _ t d2 h1
  rw [heap_setCell_same _ g 3 _ t d3 h2]
  rfl
theorem set44_below {A U : World} {g n : Nat} (h : Below n A U) (hn : n ≤ g) (d0 d1 d2 d3 : Value) : Below n A (set44 U g d0 d1 d2 d3) :=
  below_cell (below_cell (below_cell (below_cell h hn _) hn _) hn _) hn _

/-! ### A rule by its word -/
def NoRule (N : Nat) (W : World) : Prop := (∃ T v, W.cell? ⟨0, 0, none⟩ = some (.iface T v)) ∧ 0 < N
theorem NoRule.below {N : Nat} {W W' : World} (h : NoRule N W) {n : Nat} (hb : Below n W W') (hn : N ≤ n) : NoRule N W' := by
  obtain ⟨⟨T, v, e⟩, hl⟩ := h
  exact ⟨⟨T, v, (hb.cell (p := ⟨0, 0, none⟩) (Nat.lt_of_lt_of_le hl hn)).trans e⟩, hl⟩
/-- A rule's four values, at its index. -/
def RuleV (k : Nat) (v : Value) : Prop := ∃ w kd tk f, rulesL[k]? = some w ∧ ruleCells[k * 4 + 1]? = some (.string kd) ∧ ruleCells[k * 4 + 2]? = some (.int .i64 tk) ∧ ruleCells[k * 4 + 3]? = some (.func (.func f) #[] #[]) ∧ v = .agg #[.string ⟨w.toArray⟩, .string kd, .int .i64 tk, .func (.func f) #[] #[]]
def RuleR (t : ByteArray) (e : Ending) : Prop := (∃ k v, ixR t.toList = some k ∧ RuleV k v ∧ e = .returned (.tuple #[v, .nilIface])) ∨ (ixR t.toList = none ∧ ∃ T u, e = .returned (.tuple #[.agg #[.string ⟨#[]⟩, .string ⟨#[]⟩, .int .i64 0, .nilFunc], .iface T u]))
set_option maxHeartbeats 4000000 in
theorem ruleOf91 (t : ByteArray) (W : World) {N : Nat} (hE : NoRule N W) (hN : N ≤ W.heap.size) :
    Calls Tryz.prog 45 #[.string t] W fun e W' => RuleR t e ∧ Below W.heap.size W W' := by
  have hR0 := Four4.new W 67 (.string ⟨#[]⟩) (.string ⟨#[]⟩) (.int .i64 0) .nilFunc
  have hZ : Below W.heap.size W (W.alloc (.cells #[.string ⟨#[]⟩, .string ⟨#[]⟩, .int .i64 0, .nilFunc] 67)) := (Below.refl _ W).alloc (Nat.le_refl _) _
  have hRu := RulesAt.new (W.alloc (.cells #[.string ⟨#[]⟩, .string ⟨#[]⟩, .int .i64 0, .nilFunc] 67))
  have hA := hZ.alloc hZ.size (.cells ruleCells 67)
  have hR1 := hR0.below ((Below.refl _ _).alloc (Nat.le_refl _) (.cells ruleCells 67)) hR0.lt
  have hE1 := hE.below hA hN
  rw [World.size_alloc] at hRu
  go_enter Tryz.func45, Tryz.ntmps45
  go_wp2_with fail
  go_at_call 74
  refine (rules90 _).mono ?_
  rintro e W1 ⟨rfl, hW1⟩
  rw [← hW1] at hRu hA hR1 hE1
  have hs1 : W1.heap.size = W.heap.size + 1 + 1 := by rw [hW1]; simp
  clear hW1 hR0 hZ hE
  rw [World.size_alloc]
  go_wp2_with fail
  go_loopw [8] (fun i wr => ∃ k : Nat, k ≤ 11 ∧ i = .int .i64 (k : Int) ∧ (∀ j, j < k → rulesL[j]? ≠ some t.toList) ∧ Below W1.heap.size W1 wr) (fun i _ => 11 - (intOf i).toNat)
  case atStart => exact ⟨0, by omega, rfl, fun j hj => by omega, Below.refl _ _⟩
  case round =>
    obtain ⟨k, hk, rfl, hno, hB⟩ := hrel
    have hRu2 := hRu.below hB (by omega)
    have hR2 := hR1.below hB (by omega)
    have hBW := hA.trans (hB.mono (by omega))
    by_cases hlt : k < 11
    · have hlt2 : (k : Int) < 11 := by omega
      obtain ⟨w, kd, tk, f, hw, q0, q1, q2, q3⟩ := rule_four k hlt
      have c0 := (hRu2.cell _).trans q0
      have c1 := (hRu2.cell _).trans q1
      have c2 := (hRu2.cell _).trans q2
      have c3 := (hRu2.cell _).trans q3
      have hAl : Below wr.heap.size wr (wr.alloc (.cells #[.string ⟨w.toArray⟩, .string kd, .int .i64 tk, .func (.func f) #[] #[]] 67)) := (Below.refl _ wr).alloc (Nat.le_refl _) _
      cases q : (w == t.toList) with
      | true =>
        have hq : w = t.toList := eq_of_beq q
        have HV := Lib.hid (show RuleV k (.agg #[.string ⟨w.toArray⟩, .string kd, .int .i64 tk, .func (.func f) #[] #[]]) from ⟨w, kd, tk, f, hw, q1, q2, q3, rfl⟩)
        have HX := Lib.hid (ix_hit k t.toList hlt (by rw [hw, hq]))
        have hR3 := hR2.below hAl hR2.lt
        have hO := Four4.new wr 67 (.string ⟨w.toArray⟩) (.string kd) (.int .i64 tk) (.func (.func f) #[] #[])
        obtain ⟨o0, o1, o2, o3⟩ := hO.cells
        obtain ⟨r0, r1, r2, r3⟩ := hR2.cells
        obtain ⟨s0, s1, s2, s3⟩ := hR2.frozen
        obtain ⟨u0, u1, u2, u3⟩ := hR3.cells
        obtain ⟨v0, v1, v2, v3⟩ := hR3.frozen
        have hFin := set44_below (hBW.trans (hAl.mono hBW.size)) (Nat.le_refl W.heap.size) (.string ⟨w.toArray⟩) (.string kd) (.int .i64 tk) (.func (.func f) #[] #[])
        obtain ⟨d0, d1, d2, d3⟩ := (hR3.stored (.string ⟨w.toArray⟩) (.string kd) (.int .i64 tk) (.func (.func f) #[] #[])).cells
        clear hq q0 q1 q2 q3 hw hO hR3 hR2 hRu2 hBW hAl hno hRu hR1 hE1 hA hB
        go_wp2_with fail
        unfold set44 at d0 d1 d2 d3 hFin
        exact bodyPost_ret (v := .tuple #[.agg #[.string ⟨w.toArray⟩, .string kd, .int .i64 tk, .func (.func f) #[] #[]], .nilIface]) (by simp [results, Tryz.results45, go_sem, d0, d1, d2, d3]) rfl ⟨.inl ⟨k, _, HX.out, HV.out, rfl⟩, hFin⟩
      | false =>
        have hq : w ≠ t.toList := fun e => by rw [e] at q; simp at q
        have hno2 : ∀ j, j < k + 1 → rulesL[j]? ≠ some t.toList := fun j hj => by
          by_cases he : j = k
          · subst he; rw [hw]; exact fun e => hq (Option.some.inj e)
          · exact hno j (by omega)
        clear hno q0 q1 q2 q3 hw hq
        go_wp2_with fail
        go_roundw
        case rel => exact ⟨k + 1, by omega, by go_num, hno2, hB.trans (hAl.mono hB.size)⟩
        case measure => simp [intOf]; omega
    · have hkn : k = 11 := by omega
      subst hkn
      have HX := Lib.hid (ix_miss hno)
      obtain ⟨⟨T9, v9, q9⟩, _⟩ := hE1.below hB (by omega)
      obtain ⟨r0, r1, r2, r3⟩ := hR2.cells
      obtain ⟨s0, s1, s2, s3⟩ := hR2.frozen
      obtain ⟨d0, d1, d2, d3⟩ := (hR2.stored (.string ⟨#[]⟩) (.string ⟨#[]⟩) (.int .i64 0) .nilFunc).cells
      have hFin := (set44_below hBW (Nat.le_refl W.heap.size) (.string ⟨#[]⟩) (.string ⟨#[]⟩) (.int .i64 0) .nilFunc).drew
      clear hno hR2 hRu2 hBW hRu hR1 hE1 hA hB
      go_wp2_with fail
      go_region
      all_goals go_wp2_with fail
      all_goals unfold set44 at d0 d1 d2 d3 hFin
      all_goals exact bodyPost_ret (v := .tuple #[.agg #[.string ⟨#[]⟩, .string ⟨#[]⟩, .int .i64 0, .nilFunc], .iface T9 v9]) (by simp [results, Tryz.results45, go_sem, d0, d1, d2, d3]) rfl ⟨.inr ⟨HX.out, T9, v9, rfl⟩, hFin⟩
end Go.Proofs.YtgdgbjnmibkmhaaGreatDoor

namespace Go.Proofs.YtgdgbjnmibkmhaaGreatDoor
open Go.ChangeShapes Go.WideShapes Go.ChangeAt Go.RowKit Go.Shelf
attribute [local go_sem] Oper.semAt_some
set_option maxRecDepth 100000

theorem subj178 (b : Int) (p : ByteArray) (x r : Int) (W : World) :
    Calls Tryz.prog 130 #[.agg #[.int .i64 b, .string p, .int .i64 x, .int .i64 r]] W fun e W' => e = .returned (.agg #[.int .i64 0, .string p, .int .i64 x, .int .i64 0]) ∧ Below W.heap.size W W' := by
  have hA : Below W.heap.size W (W.alloc (.cells #[.int .i64 b, .string p, .int .i64 x, .int .i64 r] 31)) := (Below.refl _ W).alloc (Nat.le_refl _) _
  have hB := hA.alloc hA.size (.cells #[.int .i64 0, .string p, .int .i64 x, .int .i64 0] 31)
  go_enter Tryz.func130, Tryz.ntmps130
  go_wp2_with fail
  exact bodyPost_ret (v := .agg #[.int .i64 0, .string p, .int .i64 x, .int .i64 0]) (by simp [results, Tryz.results130, go_sem]) rfl ⟨rfl, hB⟩
theorem by138 (b : Int) (p : ByteArray) (x r : Int) (q : ByteArray) (W : World) :
    Calls Tryz.prog 101 #[.agg #[.int .i64 b, .string p, .int .i64 x, .int .i64 r], .string q] W fun e W' => e = .returned (.agg #[.int .i64 b, .string q, .int .i64 x, .int .i64 r]) ∧ Below W.heap.size W W' := by
  have hA : Below W.heap.size W (W.alloc (.cells #[.int .i64 b, .string q, .int .i64 x, .int .i64 r] 31)) := (Below.refl _ W).alloc (Nat.le_refl _) _
  have hB := hA.alloc hA.size (.cells #[.int .i64 b, .string q, .int .i64 x, .int .i64 r] 31)
  go_enter Tryz.func101, Tryz.ntmps101
  go_wp2_with fail
  exact bodyPost_ret (v := .agg #[.int .i64 b, .string q, .int .i64 x, .int .i64 r]) (by simp [results, Tryz.results101, go_sem]) rfl ⟨rfl, hB⟩
set_option maxHeartbeats 1000000 in
theorem fits93_any (w : ByteArray) (tk : Int) (f : Nat) (p : ByteArray) (W : World) :
    Calls Tryz.prog 47 #[.agg #[.string w, .string ⟨#[]⟩, .int .i64 tk, .func (.func f) #[] #[]], .string p] W fun e W' => e = .returned (.bool true) ∧ Below W.heap.size W W' := by
  have hA : Below W.heap.size W (W.alloc (.cells #[.string w, .string ⟨#[]⟩, .int .i64 tk, .func (.func f) #[] #[]] 67)) := (Below.refl _ W).alloc (Nat.le_refl _) _
  have hF := Four4.new W 67 (.string w) (.string ⟨#[]⟩) (.int .i64 tk) (.func (.func f) #[] #[])
  have hD := (Below.refl (W.alloc (.cells #[.string w, .string ⟨#[]⟩, .int .i64 tk, .func (.func f) #[] #[]] 67)).heap.size (W.alloc (.cells #[.string w, .string ⟨#[]⟩, .int .i64 tk, .func (.func f) #[] #[]] 67))).drew
  have hF2 := hF.below hD hF.lt
  have hB := hA.drew
  obtain ⟨c0, c1, c2, c3⟩ := hF2.cells
  obtain ⟨d0, d1, d2, d3⟩ := hF.cells
  go_enter Tryz.func47, Tryz.ntmps47
  go_wp2_with fail
  go_region
  all_goals go_wp2_with fail
  all_goals go_ret
  all_goals exact ⟨rfl, hB⟩
set_option maxHeartbeats 1000000 in
theorem fits93_seq (w : ByteArray) (tk : Int) (f : Nat) (p : ByteArray) (W : World) {N : Nat} (hL : Laid3 N W) :
    Calls Tryz.prog 47 #[.agg #[.string w, .string ⟨#[59]⟩, .int .i64 tk, .func (.func f) #[] #[]], .string p] W fun e W' => e = .returned (.bool ([59] == kindP p.toList)) ∧ Below W.heap.size W W' := by
  have hA : Below W.heap.size W (W.alloc (.cells #[.string w, .string ⟨#[59]⟩, .int .i64 tk, .func (.func f) #[] #[]] 67)) := (Below.refl _ W).alloc (Nat.le_refl _) _
  have hF := Four4.new W 67 (.string w) (.string ⟨#[59]⟩) (.int .i64 tk) (.func (.func f) #[] #[])
  have hD := (Below.refl (W.alloc (.cells #[.string w, .string ⟨#[59]⟩, .int .i64 tk, .func (.func f) #[] #[]] 67)).heap.size (W.alloc (.cells #[.string w, .string ⟨#[59]⟩, .int .i64 tk, .func (.func f) #[] #[]] 67))).drew
  have hF2 := hF.below hD hF.lt
  have hB := hA.drew
  obtain ⟨c0, c1, c2, c3⟩ := hF2.cells
  obtain ⟨d0, d1, d2, d3⟩ := hF.cells
  have hL1 := (hL.below hA hL.lt)
  have hK := pkind16 p _ (hL1.below hD hL1.lt)
  obtain ⟨kp, hkp⟩ : ∃ kp : ByteArray, kp = ⟨(kindP p.toList).toArray⟩ := ⟨_, rfl⟩
  have HK := Lib.hid (show kp.toList = kindP p.toList by rw [hkp, Lib.toList_data])
  rw [← hkp] at hK
  clear hkp
  clear hL1
  go_enter Tryz.func47, Tryz.ntmps47
  go_wp2_with fail
  go_region_held3 (fun w' => w'.cell? ⟨W.heap.size, 1, none⟩ = some (.string ⟨#[59]⟩)) (first | exact x1 | exact c1 | go_keep) (first | (go_at_call 76; refine hK.mono ?_; rintro e W1 ⟨rfl, b1⟩; obtain ⟨x0, x1, x2, x3⟩ := (hF2.below b1 hF2.lt).cells))
  all_goals go_wp2_with fail
  all_goals go_ret
  all_goals exact ⟨by rw [HK.out]; rfl, hB.trans (b1.mono hB.size)⟩
set_option maxHeartbeats 1000000 in
theorem fits93_or (w : ByteArray) (tk : Int) (f : Nat) (p : ByteArray) (W : World) {N : Nat} (hL : Laid3 N W) :
    Calls Tryz.prog 47 #[.agg #[.string w, .string ⟨#[124]⟩, .int .i64 tk, .func (.func f) #[] #[]], .string p] W fun e W' => e = .returned (.bool ([124] == kindP p.toList)) ∧ Below W.heap.size W W' := by
  have hA : Below W.heap.size W (W.alloc (.cells #[.string w, .string ⟨#[124]⟩, .int .i64 tk, .func (.func f) #[] #[]] 67)) := (Below.refl _ W).alloc (Nat.le_refl _) _
  have hF := Four4.new W 67 (.string w) (.string ⟨#[124]⟩) (.int .i64 tk) (.func (.func f) #[] #[])
  have hD := (Below.refl (W.alloc (.cells #[.string w, .string ⟨#[124]⟩, .int .i64 tk, .func (.func f) #[] #[]] 67)).heap.size (W.alloc (.cells #[.string w, .string ⟨#[124]⟩, .int .i64 tk, .func (.func f) #[] #[]] 67))).drew
  have hF2 := hF.below hD hF.lt
  have hB := hA.drew
  obtain ⟨c0, c1, c2, c3⟩ := hF2.cells
  obtain ⟨d0, d1, d2, d3⟩ := hF.cells
  have hL1 := (hL.below hA hL.lt)
  have hK := pkind16 p _ (hL1.below hD hL1.lt)
  obtain ⟨kp, hkp⟩ : ∃ kp : ByteArray, kp = ⟨(kindP p.toList).toArray⟩ := ⟨_, rfl⟩
  have HK := Lib.hid (show kp.toList = kindP p.toList by rw [hkp, Lib.toList_data])
  rw [← hkp] at hK
  clear hkp
  clear hL1
  go_enter Tryz.func47, Tryz.ntmps47
  go_wp2_with fail
  go_region_held3 (fun w' => w'.cell? ⟨W.heap.size, 1, none⟩ = some (.string ⟨#[124]⟩)) (first | exact x1 | exact c1 | go_keep) (first | (go_at_call 76; refine hK.mono ?_; rintro e W1 ⟨rfl, b1⟩; obtain ⟨x0, x1, x2, x3⟩ := (hF2.below b1 hF2.lt).cells))
  all_goals go_wp2_with fail
  all_goals go_ret
  all_goals exact ⟨by rw [HK.out]; rfl, hB.trans (b1.mono hB.size)⟩
set_option maxHeartbeats 1000000 in
theorem fits93_loop (w : ByteArray) (tk : Int) (f : Nat) (p : ByteArray) (W : World) {N : Nat} (hL : Laid3 N W) :
    Calls Tryz.prog 47 #[.agg #[.string w, .string ⟨#[123]⟩, .int .i64 tk, .func (.func f) #[] #[]], .string p] W fun e W' => e = .returned (.bool ([123] == kindP p.toList)) ∧ Below W.heap.size W W' := by
  have hA : Below W.heap.size W (W.alloc (.cells #[.string w, .string ⟨#[123]⟩, .int .i64 tk, .func (.func f) #[] #[]] 67)) := (Below.refl _ W).alloc (Nat.le_refl _) _
  have hF := Four4.new W 67 (.string w) (.string ⟨#[123]⟩) (.int .i64 tk) (.func (.func f) #[] #[])
  have hD := (Below.refl (W.alloc (.cells #[.string w, .string ⟨#[123]⟩, .int .i64 tk, .func (.func f) #[] #[]] 67)).heap.size (W.alloc (.cells #[.string w, .string ⟨#[123]⟩, .int .i64 tk, .func (.func f) #[] #[]] 67))).drew
  have hF2 := hF.below hD hF.lt
  have hB := hA.drew
  obtain ⟨c0, c1, c2, c3⟩ := hF2.cells
  obtain ⟨d0, d1, d2, d3⟩ := hF.cells
  have hL1 := (hL.below hA hL.lt)
  have hK := pkind16 p _ (hL1.below hD hL1.lt)
  obtain ⟨kp, hkp⟩ : ∃ kp : ByteArray, kp = ⟨(kindP p.toList).toArray⟩ := ⟨_, rfl⟩
  have HK := Lib.hid (show kp.toList = kindP p.toList by rw [hkp, Lib.toList_data])
  rw [← hkp] at hK
  clear hkp
  clear hL1
  go_enter Tryz.func47, Tryz.ntmps47
  go_wp2_with fail
  go_region_held3 (fun w' => w'.cell? ⟨W.heap.size, 1, none⟩ = some (.string ⟨#[123]⟩)) (first | exact x1 | exact c1 | go_keep) (first | (go_at_call 76; refine hK.mono ?_; rintro e W1 ⟨rfl, b1⟩; obtain ⟨x0, x1, x2, x3⟩ := (hF2.below b1 hF2.lt).cells))
  all_goals go_wp2_with fail
  all_goals go_ret
  all_goals exact ⟨by rw [HK.out]; rfl, hB.trans (b1.mono hB.size)⟩
/-- A step, as a value. -/
structure StepD where
  (b : Int) (p : ByteArray) (x r : Int) (rl : ByteArray) (ra : Option Addr) (rn rc : Nat) (pa : Option Addr) (pn pc : Nat) (fa : Option Addr) (fn fc : Nat)
def StepD.row (s : StepD) : Array Value := #[.int .i64 s.b, .string s.p, .int .i64 s.x, .int .i64 s.r, .string s.rl, .slice s.ra s.rn s.rc, .slice s.pa s.pn s.pc, .slice s.fa s.fn s.fc]
def StepD.val (s : StepD) : Value := .agg s.row
def StepAt (W : World) (g : Nat) (s : StepD) : Prop := W.heap[g]? = some (.cells s.row 77 (0, 0))
theorem StepAt.new (W : World) (s : StepD) : StepAt (W.alloc (.cells s.row 77)) W.heap.size s := heap_alloc_new W _
theorem StepAt.lt {W : World} {g : Nat} {s : StepD} (h : StepAt W g s) : g < W.heap.size := (Array.getElem?_eq_some_iff.1 h).1
theorem StepAt.below {W W' : World} {g : Nat} {s : StepD} (h : StepAt W g s) {n : Nat} (hb : Below n W W') (hn : g < n) : StepAt W' g s := (hb.block g hn).trans h
theorem StepAt.cells {W : World} {g : Nat} {s : StepD} (h : StepAt W g s) :
    W.cell? ⟨g, 0, none⟩ = some (.int .i64 s.b) ∧ W.cell? ⟨g, 1, none⟩ = some (.string s.p) ∧ W.cell? ⟨g, 2, none⟩ = some (.int .i64 s.x) ∧ W.cell? ⟨g, 3, none⟩ = some (.int .i64 s.r) ∧ W.cell? ⟨g, 6, none⟩ = some (.slice s.pa s.pn s.pc) ∧ W.cell? ⟨g, 7, none⟩ = some (.slice s.fa s.fn s.fc) := by
  refine ⟨?_, ?_, ?_, ?_, ?_, ?_⟩
  · rw [cell_of_row _ g 0 _ _ (0, 0) h]; rfl
  · rw [cell_of_row _ g 1 _ _ (0, 0) h]; rfl
  · rw [cell_of_row _ g 2 _ _ (0, 0) h]; rfl
  · rw [cell_of_row _ g 3 _ _ (0, 0) h]; rfl
  · rw [cell_of_row _ g 6 _ _ (0, 0) h]; rfl
  · rw [cell_of_row _ g 7 _ _ (0, 0) h]; rfl
set_option maxHeartbeats 1000000 in
theorem reached132 (s : StepD) (W : World) {N : Nat} (hL : Laid3 N W) (hE : NoTrip N W) :
    Calls Tryz.prog 95 #[s.val] W fun e W' => e = .returned (.bool (sureT s.b s.p s.x s.r && alwaysT s.b s.p s.x s.r)) ∧ Below W.heap.size W W' := by
  have hA : Below W.heap.size W (W.alloc (.cells s.row 77)) := (Below.refl _ W).alloc (Nat.le_refl _) _
  have hS := StepAt.new W s
  have hL1 := hL.below hA hL.lt
  have hE1 := hE.below hA hL.lt
  have H1 := psure22 s.b s.p s.x s.r _ hL1 hE1
  obtain ⟨c0, c1, c2, c3, _, _⟩ := hS.cells
  unfold StepD.val StepD.row at *
  go_enter Tryz.func95, Tryz.ntmps95
  go_wp2_with fail
  go_at_call 128
  refine H1.mono ?_
  rintro e W1 ⟨rfl, b1⟩
  have hB := hA.trans (b1.mono hA.size)
  have H2 := palways24 s.b s.p s.x s.r W1 (hL1.below b1 hL1.lt) (hE1.below b1 hL1.lt)
  obtain ⟨d0, d1, d2, d3, _, _⟩ := (hS.below b1 hS.lt).cells
  cases q : sureT s.b s.p s.x s.r with
  | false =>
    go_wp2_with fail
    go_ret
    exact ⟨by first | rfl | (rw [q]; rfl) | simp, hB⟩
  | true =>
    go_wp2_with fail
    go_at_call 129
    refine H2.mono ?_
    rintro e W2 ⟨rfl, b2⟩
    go_wp2_with fail
    go_ret
    exact ⟨by first | rfl | (rw [q]; rfl) | simp, hB.trans (b2.mono hB.size)⟩
set_option maxHeartbeats 1000000 in
theorem rule0 (s : StepD) (W : World) {N : Nat} (hL : Laid3 N W) (hE : NoTrip N W) :
    Calls Tryz.prog 94 #[s.val] W fun e W' => e = .returned (.bool ((s.pn : Int) == 0 && (sureT s.b s.p s.x s.r && alwaysT s.b s.p s.x s.r))) ∧ Below W.heap.size W W' := by
  have hA : Below W.heap.size W (W.alloc (.cells s.row 77)) := (Below.refl _ W).alloc (Nat.le_refl _) _
  have hS := StepAt.new W s
  have hL1 := hL.below hA hL.lt
  have hE1 := hE.below hA hL.lt
  have H1 := reached132 s _ hL1 hE1
  obtain ⟨c0, c1, c2, c3, c6, _⟩ := hS.cells
  unfold StepD.val StepD.row at *
  go_enter Tryz.func94, Tryz.ntmps94
  cases q : ((s.pn : Int) == 0) with
  | false =>
    go_wp2_with fail
    go_ret
    exact ⟨by first | rfl | simp, hA⟩
  | true =>
    go_wp2_with fail
    go_at_call 95
    refine H1.mono ?_
    rintro e W1 ⟨rfl, b1⟩
    go_wp2_with fail
    go_ret
    exact ⟨by first | rfl | simp, hA.trans (b1.mono hA.size)⟩
theorem rule1 (s : StepD) (W : World) :
    Calls Tryz.prog 96 #[s.val] W fun e W' => e = .returned (.bool (s.r == 0)) ∧ Below W.heap.size W W' := by
  have hA : Below W.heap.size W (W.alloc (.cells s.row 77)) := (Below.refl _ W).alloc (Nat.le_refl _) _
  obtain ⟨c0, c1, c2, c3, c6, _⟩ := (StepAt.new W s).cells
  unfold StepD.val StepD.row at *
  go_enter Tryz.func96, Tryz.ntmps96
  go_wp2_with fail
  go_ret
  exact ⟨rfl, hA⟩
/-- The rule 'zero'. -/
theorem rule6 (s : StepD) (W : World) :
    Calls Tryz.prog 103 #[s.val] W fun e W' => e = .returned (.bool (s.x == 0 && s.r == s.b)) ∧ Below W.heap.size W W' := by
  have hA : Below W.heap.size W (W.alloc (.cells s.row 77)) := (Below.refl _ W).alloc (Nat.le_refl _) _
  obtain ⟨c0, c1, c2, c3, c6, _⟩ := (StepAt.new W s).cells
  unfold StepD.val StepD.row at *
  go_enter Tryz.func103, Tryz.ntmps103
  cases q : (s.x == 0) with
  | false =>
    go_wp2_with fail
    go_ret
    exact ⟨by first | rfl | (rw [q]; rfl) | simp, hA⟩
  | true =>
    go_wp2_with fail
    go_ret
    exact ⟨by first | rfl | (rw [q]; rfl) | simp, hA⟩
end Go.Proofs.YtgdgbjnmibkmhaaGreatDoor

namespace Go.Proofs.YtgdgbjnmibkmhaaGreatDoor
open Go.ChangeShapes Go.WideShapes Go.ChangeAt Go.RowKit Go.Shelf
attribute [local go_sem] Oper.semAt_some
set_option maxRecDepth 100000
/-- Two triples compared. -/
def sameT (b : Int) (p : ByteArray) (x r b' : Int) (p' : ByteArray) (x' r' : Int) : Bool := b == b' && (p.toList == p'.toList && (x == x' && r == r'))
theorem eqTrip (b : Int) (p : ByteArray) (x r b' : Int) (p' : ByteArray) (x' r' : Int) (w : World) : (Op.equalIn 10000 31 (.agg #[.int .i64 b, .string p, .int .i64 x, .int .i64 r]) (.agg #[.int .i64 b', .string p', .int .i64 x', .int .i64 r'])).run Tryz.prog w = .ok (sameT b p x r b' p' x' r') w := by
  rw [show (10000 : Nat) = 9999 + 1 from rfl, run_equalIn_struct w 9999 31 _ _ (by kernel_rfl) (by kernel_rfl)]
  have hl : (Tryz.prog.fieldsOf 31).toList = [⟨"Before", 3, 0, false, "", "", 0⟩, ⟨"Program", 9, 1, false, "", "", 8⟩, ⟨"Exit", 3, 2, false, "", "", 24⟩, ⟨"Behind", 3, 3, false, "", "", 32⟩] := by kernel_rfl
  have u3 : ∀ (x y : Int) (w : World), (Op.equalIn 9999 3 (.int .i64 x) (.int .i64 y)).run Tryz.prog w = .ok (x == y) w := fun x y w => run_equalIn_int w 9998 3 .i64 .i64 x y Tryz.underlying3
  have u9 : ∀ (x y : ByteArray) (w : World), (Op.equalIn 9999 9 (.string x) (.string y)).run Tryz.prog w = .ok (x.toList == y.toList) w := fun x y w => run_equalIn_string w 9998 9 x y Tryz.underlying9
  have q0 : ∀ (a : Int) (t : ByteArray) (x r : Int) (w : World), (part 3 #[.int .i64 a, .string t, .int .i64 x, .int .i64 r] 0).run Tryz.prog w = .ok (.int .i64 a) w := fun a t x r w => by kernel_rfl
  have q1 : ∀ (a : Int) (t : ByteArray) (x r : Int) (w : World), (part 9 #[.int .i64 a, .string t, .int .i64 x, .int .i64 r] 1).run Tryz.prog w = .ok (.string t) w := fun a t x r w => by kernel_rfl
  have q2 : ∀ (a : Int) (t : ByteArray) (x r : Int) (w : World), (part 3 #[.int .i64 a, .string t, .int .i64 x, .int .i64 r] 2).run Tryz.prog w = .ok (.int .i64 x) w := fun a t x r w => by kernel_rfl
  have q3 : ∀ (a : Int) (t : ByteArray) (x r : Int) (w : World), (part 3 #[.int .i64 a, .string t, .int .i64 x, .int .i64 r] 3).run Tryz.prog w = .ok (.int .i64 r) w := fun a t x r w => by kernel_rfl
  rw [hl]
  have n1 : "Before" ≠ "_" := by decide
  have n2 : "Program" ≠ "_" := by decide
  have n3 : "Exit" ≠ "_" := by decide
  have n4 : "Behind" ≠ "_" := by decide
  simp only [Op.eqFields, if_pos n1, if_pos n2, if_pos n3, if_pos n4, Sem.run_bind, q0, u3, Result.andThen_ok]
  unfold sameT
  cases h0 : (b == b') with
  | false => simp
  | true =>
    cases h : (p.toList == p'.toList) with
    | false => simp [q1, u9, h]
    | true =>
      cases h' : (x == x') with
      | false => simp [q1, q2, u3, u9, h, h']
      | true =>
        cases h3 : (r == r') with
        | false => simp [q1, q2, q3, u3, u9, h, h', h3]
        | true => simp [q1, q2, q3, u3, u9, h, h', h3]
/-- A step's first triple, and one of its parts, where they stand. -/
def FirstAt (W : World) (s : StepD) (T : Trip) : Prop := ∃ g o, s.fa = some ⟨g, o, none⟩ ∧ 0 < s.fn ∧ TripCells W g o T
def PartAt (W : World) (s : StepD) (j : Nat) (q : ByteArray) : Prop := ∃ h i, s.pa = some ⟨h, i, none⟩ ∧ j < s.pn ∧ W.cell? ⟨h, i + j, none⟩ = some (.string q)
set_option maxHeartbeats 2000000 in
/-- The rule 'left'. -/
theorem rule4 (s : StepD) (T : Trip) (q : ByteArray) (W : World) (hF : FirstAt W s T) (hP : PartAt W s 0 q) :
    Calls Tryz.prog 100 #[s.val] W fun e W' => e = .returned (.bool (sameT T.b T.p T.x T.r s.b q s.x s.r)) ∧ Below W.heap.size W W' := by
  have hA : Below W.heap.size W (W.alloc (.cells s.row 77)) := (Below.refl _ W).alloc (Nat.le_refl _) _
  have hS := StepAt.new W s
  obtain ⟨g, o, f1, f2, f3⟩ := hF
  obtain ⟨h, i, f4, f5, f6⟩ := hP
  have t4 := f3.below hA
  have u0 := cell_below hA f6
  obtain ⟨b, p, x, r, rl, ra, rn, rc, pa, pn, pc, fa, fn, fc⟩ := s
  dsimp only at *
  subst f1 f4
  obtain ⟨c0, c1, c2, c3, c6, c7⟩ := hS.cells
  have HB := fun X => by138 b p x r q X
  have n1 : (0 : Int) < (fn : Int) := by omega
  have n2 : (0 : Int) < (pn : Int) := by omega
  obtain ⟨t0, t1, t2, t3⟩ := id t4
  dsimp only at *
  have hAd := hA.drew
  have hDr := (Below.refl (W.alloc (.cells (StepD.row ⟨b, p, x, r, rl, ra, rn, rc, some ⟨h, i, none⟩, pn, pc, some ⟨g, o, none⟩, fn, fc⟩) 77)).heap.size (W.alloc (.cells (StepD.row ⟨b, p, x, r, rl, ra, rn, rc, some ⟨h, i, none⟩, pn, pc, some ⟨g, o, none⟩, fn, fc⟩) 77))).drew
  have hSd := hS.below hDr hS.lt
  have t4d := t4.below hDr
  have u0d := cell_below hDr u0
  obtain ⟨k0, k1, k2, k3, k6, k7⟩ := hSd.cells
  obtain ⟨l0, l1, l2, l3⟩ := id t4d
  dsimp only at *
  unfold StepD.val StepD.row at *
  clear hDr f3 f6
  have he : ∀ w : World, _ := fun w => eqTrip T.b T.p T.x T.r b q x r w
  go_enter Tryz.func100, Tryz.ntmps100
  go_wp2_with fail
  go_region_held3 (fun w' => w'.cell? ⟨W.heap.size, 7, none⟩ = some (.slice (some ⟨g, o, none⟩) fn fc) ∧ w'.cell? ⟨W.heap.size, 6, none⟩ = some (.slice (some ⟨h, i, none⟩) pn pc) ∧ w'.cell? ⟨W.heap.size, 0, none⟩ = some (.int .i64 b) ∧ w'.cell? ⟨W.heap.size, 1, none⟩ = some (.string p) ∧ w'.cell? ⟨W.heap.size, 2, none⟩ = some (.int .i64 x) ∧ w'.cell? ⟨W.heap.size, 3, none⟩ = some (.int .i64 r) ∧ w'.cell? ⟨g, o, none⟩ = some (.int .i64 T.b) ∧ w'.cell? ⟨g, o + 1, none⟩ = some (.string T.p) ∧ w'.cell? ⟨g, o + 2, none⟩ = some (.int .i64 T.x) ∧ w'.cell? ⟨g, o + 3, none⟩ = some (.int .i64 T.r) ∧ w'.cell? ⟨h, i, none⟩ = some (.string q)) (first | exact ⟨m7, m6, m0, m1, m2, m3, v0, v1, v2, v3, u02⟩ | exact ⟨k7, k6, k0, k1, k2, k3, l0, l1, l2, l3, u0d⟩ | go_keep) (first | (go_at_call 101; refine (HB _).mono ?_; rintro e W1 ⟨rfl, b1⟩; obtain ⟨m0, m1, m2, m3, m6, m7⟩ := (hSd.below b1 hSd.lt).cells; obtain ⟨v0, v1, v2, v3⟩ := t4d.below b1; have u02 := cell_below b1 u0d; dsimp only at m0 m1 m2 m3 m6 m7))
  all_goals go_wp2_with fail
  all_goals go_ret
  all_goals exact ⟨rfl, hAd.trans (b1.mono hAd.size)⟩
set_option maxHeartbeats 2000000 in
/-- The rule 'right'. -/
theorem rule5 (s : StepD) (T : Trip) (q : ByteArray) (W : World) (hF : FirstAt W s T) (hP : PartAt W s 1 q) :
    Calls Tryz.prog 102 #[s.val] W fun e W' => e = .returned (.bool (sameT T.b T.p T.x T.r s.b q s.x s.r)) ∧ Below W.heap.size W W' := by
  have hA : Below W.heap.size W (W.alloc (.cells s.row 77)) := (Below.refl _ W).alloc (Nat.le_refl _) _
  have hS := StepAt.new W s
  obtain ⟨g, o, f1, f2, f3⟩ := hF
  obtain ⟨h, i, f4, f5, f6⟩ := hP
  have t4 := f3.below hA
  have u0 := cell_below hA f6
  obtain ⟨b, p, x, r, rl, ra, rn, rc, pa, pn, pc, fa, fn, fc⟩ := s
  dsimp only at *
  subst f1 f4
  obtain ⟨c0, c1, c2, c3, c6, c7⟩ := hS.cells
  have HB := fun X => by138 b p x r q X
  have n1 : (0 : Int) < (fn : Int) := by omega
  have n2 : (1 : Int) < (pn : Int) := by omega
  obtain ⟨t0, t1, t2, t3⟩ := id t4
  dsimp only at *
  have hAd := hA.drew
  have hDr := (Below.refl (W.alloc (.cells (StepD.row ⟨b, p, x, r, rl, ra, rn, rc, some ⟨h, i, none⟩, pn, pc, some ⟨g, o, none⟩, fn, fc⟩) 77)).heap.size (W.alloc (.cells (StepD.row ⟨b, p, x, r, rl, ra, rn, rc, some ⟨h, i, none⟩, pn, pc, some ⟨g, o, none⟩, fn, fc⟩) 77))).drew
  have hSd := hS.below hDr hS.lt
  have t4d := t4.below hDr
  have u0d := cell_below hDr u0
  obtain ⟨k0, k1, k2, k3, k6, k7⟩ := hSd.cells
  obtain ⟨l0, l1, l2, l3⟩ := id t4d
  dsimp only at *
  unfold StepD.val StepD.row at *
  clear hDr f3 f6
  have he : ∀ w : World, _ := fun w => eqTrip T.b T.p T.x T.r b q x r w
  go_enter Tryz.func102, Tryz.ntmps102
  go_wp2_with fail
  go_region_held3 (fun w' => w'.cell? ⟨W.heap.size, 7, none⟩ = some (.slice (some ⟨g, o, none⟩) fn fc) ∧ w'.cell? ⟨W.heap.size, 6, none⟩ = some (.slice (some ⟨h, i, none⟩) pn pc) ∧ w'.cell? ⟨W.heap.size, 0, none⟩ = some (.int .i64 b) ∧ w'.cell? ⟨W.heap.size, 1, none⟩ = some (.string p) ∧ w'.cell? ⟨W.heap.size, 2, none⟩ = some (.int .i64 x) ∧ w'.cell? ⟨W.heap.size, 3, none⟩ = some (.int .i64 r) ∧ w'.cell? ⟨g, o, none⟩ = some (.int .i64 T.b) ∧ w'.cell? ⟨g, o + 1, none⟩ = some (.string T.p) ∧ w'.cell? ⟨g, o + 2, none⟩ = some (.int .i64 T.x) ∧ w'.cell? ⟨g, o + 3, none⟩ = some (.int .i64 T.r) ∧ w'.cell? ⟨h, i + 1, none⟩ = some (.string q)) (first | exact ⟨m7, m6, m0, m1, m2, m3, v0, v1, v2, v3, u02⟩ | exact ⟨k7, k6, k0, k1, k2, k3, l0, l1, l2, l3, u0d⟩ | go_keep) (first | (go_at_call 101; refine (HB _).mono ?_; rintro e W1 ⟨rfl, b1⟩; obtain ⟨m0, m1, m2, m3, m6, m7⟩ := (hSd.below b1 hSd.lt).cells; obtain ⟨v0, v1, v2, v3⟩ := t4d.below b1; have u02 := cell_below b1 u0d; dsimp only at m0 m1 m2 m3 m6 m7))
  all_goals go_wp2_with fail
  all_goals go_ret
  all_goals exact ⟨rfl, hAd.trans (b1.mono hAd.size)⟩
set_option maxHeartbeats 2000000 in
/-- The rules 'stop' and 'fail'. -/
theorem fails136 (s : StepD) (T : Trip) (q : ByteArray) (W : World) (hF : FirstAt W s T) (hP : PartAt W s 0 q) (hx : s.x = 0 ∨ s.x = 1) :
    Calls Tryz.prog 99 #[s.val] W fun e W' => e = .returned (.bool (s.x == 1 && sameT T.b T.p T.x T.r s.b q s.x s.r)) ∧ Below W.heap.size W W' := by
  have hA : Below W.heap.size W (W.alloc (.cells s.row 77)) := (Below.refl _ W).alloc (Nat.le_refl _) _
  have hS := StepAt.new W s
  obtain ⟨g, o, f1, f2, f3⟩ := hF
  obtain ⟨h, i, f4, f5, f6⟩ := hP
  have t4 := f3.below hA
  have u0 := cell_below hA f6
  obtain ⟨b, p, x, r, rl, ra, rn, rc, pa, pn, pc, fa, fn, fc⟩ := s
  dsimp only at *
  subst f1 f4
  obtain ⟨c0, c1, c2, c3, c6, c7⟩ := hS.cells
  have HB := fun X => by138 b p x r q X
  have n1 : (0 : Int) < (fn : Int) := by omega
  have n2 : (0 : Int) < (pn : Int) := by omega
  obtain ⟨t0, t1, t2, t3⟩ := id t4
  dsimp only at *
  have hAd := hA.drew
  have hDr := (Below.refl (W.alloc (.cells (StepD.row ⟨b, p, x, r, rl, ra, rn, rc, some ⟨h, i, none⟩, pn, pc, some ⟨g, o, none⟩, fn, fc⟩) 77)).heap.size (W.alloc (.cells (StepD.row ⟨b, p, x, r, rl, ra, rn, rc, some ⟨h, i, none⟩, pn, pc, some ⟨g, o, none⟩, fn, fc⟩) 77))).drew
  have hSd := hS.below hDr hS.lt
  have t4d := t4.below hDr
  have u0d := cell_below hDr u0
  obtain ⟨k0, k1, k2, k3, k6, k7⟩ := hSd.cells
  obtain ⟨l0, l1, l2, l3⟩ := id t4d
  dsimp only at *
  unfold StepD.val StepD.row at *
  clear hDr f3 f6
  have he : ∀ w : World, _ := fun w => eqTrip T.b T.p T.x T.r b q x r w
  go_enter Tryz.func99, Tryz.ntmps99
  rcases hx with rfl | rfl
  · go_wp2_with fail
    go_region
    all_goals go_wp2_with fail
    all_goals go_ret
    all_goals exact ⟨by first | rfl | (simp), hAd⟩
  · go_wp2_with fail
    go_region_held3 (fun w' => w'.cell? ⟨W.heap.size, 7, none⟩ = some (.slice (some ⟨g, o, none⟩) fn fc) ∧ w'.cell? ⟨W.heap.size, 6, none⟩ = some (.slice (some ⟨h, i, none⟩) pn pc) ∧ w'.cell? ⟨W.heap.size, 0, none⟩ = some (.int .i64 b) ∧ w'.cell? ⟨W.heap.size, 1, none⟩ = some (.string p) ∧ w'.cell? ⟨W.heap.size, 2, none⟩ = some (.int .i64 1) ∧ w'.cell? ⟨W.heap.size, 3, none⟩ = some (.int .i64 r) ∧ w'.cell? ⟨g, o, none⟩ = some (.int .i64 T.b) ∧ w'.cell? ⟨g, o + 1, none⟩ = some (.string T.p) ∧ w'.cell? ⟨g, o + 2, none⟩ = some (.int .i64 T.x) ∧ w'.cell? ⟨g, o + 3, none⟩ = some (.int .i64 T.r) ∧ w'.cell? ⟨h, i, none⟩ = some (.string q)) (first | exact ⟨m7, m6, m0, m1, m2, m3, v0, v1, v2, v3, u02⟩ | exact ⟨k7, k6, k0, k1, k2, k3, l0, l1, l2, l3, u0d⟩ | go_keep) (first | (go_at_call 101; refine (HB _).mono ?_; rintro e W1 ⟨rfl, b1⟩; obtain ⟨m0, m1, m2, m3, m6, m7⟩ := (hSd.below b1 hSd.lt).cells; obtain ⟨v0, v1, v2, v3⟩ := t4d.below b1; have u02 := cell_below b1 u0d; dsimp only at m0 m1 m2 m3 m6 m7))
    all_goals go_wp2_with fail
    all_goals go_ret
    all_goals exact ⟨by first | rfl | (simp), hAd.trans (b1.mono hAd.size)⟩
end Go.Proofs.YtgdgbjnmibkmhaaGreatDoor

namespace Go.Proofs.YtgdgbjnmibkmhaaGreatDoor
open Go.ChangeShapes Go.WideShapes Go.ChangeAt Go.RowKit Go.Shelf
attribute [local go_sem] Oper.semAt_some
set_option maxRecDepth 100000
/-- A step's first two triples, where they stand. -/
def TwoAt (W : World) (s : StepD) (T U : Trip) : Prop := ∃ g o, s.fa = some ⟨g, o, none⟩ ∧ 1 < s.fn ∧ TripCells W g o T ∧ TripCells W g (o + 4) U
set_option maxHeartbeats 2000000 in
theorem goesOn135 (s : StepD) (T U : Trip) (q0 q : ByteArray) (W : World) (hF : TwoAt W s T U) (hP : PartAt W s 0 q0) :
    Calls Tryz.prog 98 #[s.val, .string q] W fun e W' => e = .returned (.bool (sameT T.b T.p T.x T.r s.b q0 0 T.r && sameT U.b U.p U.x U.r T.r q s.x s.r)) ∧ Below W.heap.size W W' := by
  have hA : Below W.heap.size W (W.alloc (.cells s.row 77)) := (Below.refl _ W).alloc (Nat.le_refl _) _
  have hS := StepAt.new W s
  obtain ⟨g, o, f1, f2, f3, f7⟩ := hF
  obtain ⟨h, i, f4, f5, f6⟩ := hP
  rw [Nat.add_zero] at f6
  have hg := cell_ltO f3.1
  have t4 := f3.below hA
  have t5 := f7.below hA
  have u0 := cell_below hA f6
  obtain ⟨b, p, x, r, rl, ra, rn, rc, pa, pn, pc, fa, fn, fc⟩ := s
  dsimp only at *
  subst f1 f4
  have hF0 := TripAt.new (W.alloc (.cells (StepD.row ⟨b, p, x, r, rl, ra, rn, rc, some ⟨h, i, none⟩, pn, pc, some ⟨g, o, none⟩, fn, fc⟩) 77)) b q0 0 T.r
  obtain ⟨c0, c1, c2, c3, c6, c7⟩ := hS.cells
  have hX := ((Below.refl _ (W.alloc (.cells (StepD.row ⟨b, p, x, r, rl, ra, rn, rc, some ⟨h, i, none⟩, pn, pc, some ⟨g, o, none⟩, fn, fc⟩) 77))).alloc (Nat.le_refl _) (.cells #[.int .i64 b, .string q0, .int .i64 0, .int .i64 T.r] 31))
  have hAX := hA.trans (hX.mono hA.size)
  have hSX := hS.below hX hS.lt
  have hFX := hF0
  have t4X := t4.below hX
  have t5X := t5.below hX
  have hY := (Below.refl _ (((W.alloc (.cells (StepD.row ⟨b, p, x, r, rl, ra, rn, rc, some ⟨h, i, none⟩, pn, pc, some ⟨g, o, none⟩, fn, fc⟩) 77)).alloc (.cells #[.int .i64 b, .string q0, .int .i64 0, .int .i64 T.r] 31)))).alloc (Nat.le_refl _) (.cells #[.int .i64 T.r, .string q, .int .i64 x, .int .i64 r] 31)
  have hR0 := TripAt.new (((W.alloc (.cells (StepD.row ⟨b, p, x, r, rl, ra, rn, rc, some ⟨h, i, none⟩, pn, pc, some ⟨g, o, none⟩, fn, fc⟩) 77)).alloc (.cells #[.int .i64 b, .string q0, .int .i64 0, .int .i64 T.r] 31))) T.r q x r
  have hAY := hAX.trans (hY.mono hAX.size)
  have hAYd := hAY.drew.drew
  obtain ⟨y0, y1, y2, y3, y6, y7⟩ := (hSX.below hY hSX.lt).cells
  obtain ⟨z0, z1, z2, z3⟩ := t4X.below hY
  obtain ⟨a0, a1, a2, a3⟩ := t5X.below hY
  obtain ⟨b0, b1, b2, b3⟩ := (hFX.below hY hFX.lt).cells
  obtain ⟨r0, r1, r2, r3⟩ := hR0.cells
  obtain ⟨k0, k1, k2, k3, k6, k7⟩ := hSX.cells
  obtain ⟨l0, l1, l2, l3⟩ := id t4X
  obtain ⟨m0, m1, m2, m3⟩ := id t5X
  obtain ⟨w0, w1, w2, w3⟩ := hFX.cells
  have n1 : (1 : Int) < (fn : Int) := by omega
  have n2 : (0 : Int) < (pn : Int) := by omega
  have n3 : (0 : Int) < (fn : Int) := by omega
  obtain ⟨t0, t1, t2, t3⟩ := id t4
  obtain ⟨v0, v1, v2, v3⟩ := id t5
  dsimp only at *
  unfold StepD.val StepD.row at *
  clear f3 f6 f7
  have he := fun w : World => eqTrip T.b T.p T.x T.r b q0 0 T.r w
  have he2 := fun w : World => eqTrip U.b U.p U.x U.r T.r q x r w
  obtain ⟨e1, hE1⟩ : ∃ e1, e1 = sameT T.b T.p T.x T.r b q0 0 T.r := ⟨_, rfl⟩
  obtain ⟨e2, hE2⟩ : ∃ e2, e2 = sameT U.b U.p U.x U.r T.r q x r := ⟨_, rfl⟩
  simp only [← hE1] at he
  simp only [← hE2] at he2
  have E1 := Lib.hid hE1
  have E2 := Lib.hid hE2
  clear hE1 hE2
  go_enter Tryz.func98, Tryz.ntmps98
  go_wp2_with fail
  go_region_held3 (fun w' => w'.cell? ⟨W.heap.size, 7, none⟩ = some (.slice (some ⟨g, o, none⟩) fn fc) ∧ w'.cell? ⟨W.heap.size, 6, none⟩ = some (.slice (some ⟨h, i, none⟩) pn pc) ∧ w'.cell? ⟨W.heap.size, 0, none⟩ = some (.int .i64 b) ∧ w'.cell? ⟨W.heap.size, 1, none⟩ = some (.string p) ∧ w'.cell? ⟨W.heap.size, 2, none⟩ = some (.int .i64 x) ∧ w'.cell? ⟨W.heap.size, 3, none⟩ = some (.int .i64 r) ∧ w'.cell? ⟨g, o, none⟩ = some (.int .i64 T.b) ∧ w'.cell? ⟨g, o + 1, none⟩ = some (.string T.p) ∧ w'.cell? ⟨g, o + 2, none⟩ = some (.int .i64 T.x) ∧ w'.cell? ⟨g, o + 3, none⟩ = some (.int .i64 T.r) ∧ w'.cell? ⟨g, o + 4, none⟩ = some (.int .i64 U.b) ∧ w'.cell? ⟨g, o + 4 + 1, none⟩ = some (.string U.p) ∧ w'.cell? ⟨g, o + 4 + 2, none⟩ = some (.int .i64 U.x) ∧ w'.cell? ⟨g, o + 4 + 3, none⟩ = some (.int .i64 U.r) ∧ w'.cell? ⟨h, i, none⟩ = some (.string q0)) (first | exact ⟨c7, c6, c0, c1, c2, c3, t0, t1, t2, t3, v0, v1, v2, v3, u0⟩ | go_keep) (fail)
  all_goals go_wp2_with fail
  cases e1 with
  | false =>
    go_region
    all_goals go_wp2_with fail
    all_goals go_ret
    all_goals exact ⟨by rw [← E1.out, ← E2.out]; rfl, hAYd⟩
  | true =>
    go_region
    all_goals go_wp2_with fail
    all_goals go_ret
    all_goals exact ⟨by rw [← E1.out, ← E2.out]; rfl, hAYd⟩
theorem StepAt.cells45 {W : World} {g : Nat} {s : StepD} (h : StepAt W g s) : W.cell? ⟨g, 4, none⟩ = some (.string s.rl) ∧ W.cell? ⟨g, 5, none⟩ = some (.slice s.ra s.rn s.rc) := by
  refine ⟨?_, ?_⟩
  · rw [cell_of_row _ g 4 _ _ (0, 0) h]; rfl
  · rw [cell_of_row _ g 5 _ _ (0, 0) h]; rfl
set_option maxHeartbeats 1000000 in
/-- The rule 'seq'. -/
theorem rule2 (s : StepD) (T U : Trip) (q0 q : ByteArray) (W : World) (hF : TwoAt W s T U) (hP : PartAt W s 0 q0) (hQ : PartAt W s 1 q) :
    Calls Tryz.prog 97 #[s.val] W fun e W' => e = .returned (.bool (sameT T.b T.p T.x T.r s.b q0 0 T.r && sameT U.b U.p U.x U.r T.r q s.x s.r)) ∧ Below W.heap.size W W' := by
  have hA : Below W.heap.size W (W.alloc (.cells s.row 77)) := (Below.refl _ W).alloc (Nat.le_refl _) _
  have hAd := hA.drew
  have hS := StepAt.new W s
  have HG := goesOn135 s T U q0 q (W.alloc (.cells s.row 77)).drew (by obtain ⟨g, o, f1, f2, f3, f7⟩ := hF; exact ⟨g, o, f1, f2, f3.below hAd, f7.below hAd⟩) (by obtain ⟨h, i, f4, f5, f6⟩ := hP; exact ⟨h, i, f4, f5, cell_below hAd f6⟩)
  have hDr := (Below.refl (W.alloc (.cells s.row 77)).heap.size (W.alloc (.cells s.row 77))).drew
  have hSd := hS.below hDr hS.lt
  obtain ⟨h, i, f4, f5, f6⟩ := hQ
  have u0d := cell_below hAd f6
  clear hF hP f6
  obtain ⟨k4, k5⟩ := hSd.cells45
  obtain ⟨b, p, x, r, rl, ra, rn, rc, pa, pn, pc, fa, fn, fc⟩ := s
  dsimp only at *
  subst f4
  obtain ⟨k0, k1, k2, k3, k6, k7⟩ := hSd.cells
  have n2 : (1 : Int) < (pn : Int) := by omega
  dsimp only at *
  clear hDr
  unfold StepD.val StepD.row at *
  go_enter Tryz.func97, Tryz.ntmps97
  go_wp2_with fail
  go_region_held3 (fun w' => w'.cell? ⟨W.heap.size, 0, none⟩ = some (.int .i64 b) ∧ w'.cell? ⟨W.heap.size, 1, none⟩ = some (.string p) ∧ w'.cell? ⟨W.heap.size, 2, none⟩ = some (.int .i64 x) ∧ w'.cell? ⟨W.heap.size, 3, none⟩ = some (.int .i64 r) ∧ w'.cell? ⟨W.heap.size, 4, none⟩ = some (.string rl) ∧ w'.cell? ⟨W.heap.size, 5, none⟩ = some (.slice ra rn rc) ∧ w'.cell? ⟨W.heap.size, 6, none⟩ = some (.slice (some ⟨h, i, none⟩) pn pc) ∧ w'.cell? ⟨W.heap.size, 7, none⟩ = some (.slice fa fn fc) ∧ w'.cell? ⟨h, i + 1, none⟩ = some (.string q)) (first | exact ⟨m0, m1, m2, m3, m4, m5, m6, m7, u02⟩ | exact ⟨k0, k1, k2, k3, k4, k5, k6, k7, u0d⟩ | go_keep) (first | (go_at_call 98; refine HG.mono ?_; rintro e W1 ⟨rfl, b1⟩; obtain ⟨m0, m1, m2, m3, m6, m7⟩ := (hSd.below b1 hSd.lt).cells; obtain ⟨m4, m5⟩ := (hSd.below b1 hSd.lt).cells45; have u02 := cell_below b1 u0d; dsimp only at m0 m1 m2 m3 m4 m5 m6 m7))
  all_goals go_wp2_with fail
  all_goals go_ret
  all_goals exact ⟨rfl, hAd.trans (b1.mono hAd.size)⟩
set_option maxHeartbeats 1000000 in
/-- The rule 'once'. -/
theorem rule7 (s : StepD) (T U : Trip) (q0 : ByteArray) (W : World) (hF : TwoAt W s T U) (hP : PartAt W s 0 q0) :
    Calls Tryz.prog 104 #[s.val] W fun e W' => e = .returned (.bool (sameT T.b T.p T.x T.r s.b q0 0 T.r && sameT U.b U.p U.x U.r T.r s.p s.x s.r)) ∧ Below W.heap.size W W' := by
  have hA : Below W.heap.size W (W.alloc (.cells s.row 77)) := (Below.refl _ W).alloc (Nat.le_refl _) _
  have hS := StepAt.new W s
  have HG := goesOn135 s T U q0 s.p (W.alloc (.cells s.row 77)) (by obtain ⟨g, o, f1, f2, f3, f7⟩ := hF; exact ⟨g, o, f1, f2, f3.below hA, f7.below hA⟩) (by obtain ⟨h, i, f4, f5, f6⟩ := hP; exact ⟨h, i, f4, f5, cell_below hA f6⟩)
  clear hF hP
  obtain ⟨b, p, x, r, rl, ra, rn, rc, pa, pn, pc, fa, fn, fc⟩ := s
  obtain ⟨c0, c1, c2, c3, c6, c7⟩ := hS.cells
  dsimp only at *
  unfold StepD.val StepD.row at *
  go_enter Tryz.func104, Tryz.ntmps104
  go_wp2_with fail
  go_at_call 98
  refine HG.mono ?_
  rintro e W1 ⟨rfl, b1⟩
  go_wp2_with fail
  go_ret
  exact ⟨rfl, hA.trans (b1.mono hA.size)⟩
end Go.Proofs.YtgdgbjnmibkmhaaGreatDoor

namespace Go.Proofs.YtgdgbjnmibkmhaaGreatDoor
open Go.ChangeShapes Go.WideShapes Go.ChangeAt Go.RowKit
set_option maxRecDepth 100000

theorem gNoR : Tryz.prog.globalNamed "loop.example/surelywrong/impl.errNoRule" = some 0 := by kernel_rfl
theorem tNoR : (Tryz.prog.globals[0]?).map (·.type) = some 69 := by kernel_rfl
/-- What the rows list. -/
def laidV6 : List (String × DataW Unit) := [("loop.example/surelywrong/impl.comparedWithNumbers", Rows.laid_loop_example_surelywrong_impl_comparedWithNumbers), ("loop.example/surelywrong/impl.comparedVariables", Rows.laid_loop_example_surelywrong_impl_comparedVariables), ("loop.example/surelywrong/impl.errNoProgram", Rows.laid_loop_example_surelywrong_impl_errNoProgram), ("loop.example/surelywrong/impl.assignments", Rows.laid_loop_example_surelywrong_impl_assignments), ("loop.example/surelywrong/impl.errNoTriple", Rows.laid_loop_example_surelywrong_impl_errNoTriple), ("loop.example/surelywrong/impl.errNoRule", Rows.laid_loop_example_surelywrong_impl_errNoRule)]

/-- What the condition gives. -/
theorem of_laid6 {W : World} (h : laidMet Tryz.prog laidV6 W) : Laid3 W.heap.size W ∧ NoTrip W.heap.size W ∧ NoRule W.heap.size W := by
  obtain ⟨an, sn, hn, _, _, _⟩ := laid_sentinel (h.tail.tail.tail.tail) gNoT tNoT Tryz.underlying69 rowPtr Tryz.underlying224 Tryz.underlying239 rfl rfl Tryz.underlying9 cellsStruct cellsString
  obtain ⟨ar, sr, hr, _, _, _⟩ := laid_sentinel (h.tail.tail.tail.tail.tail) gNoR tNoR Tryz.underlying69 rowPtr Tryz.underlying224 Tryz.underlying239 rfl rfl Tryz.underlying9 cellsStruct cellsString
  have dn : W.cell? ⟨1, 0, none⟩ = some (.iface 224 (.pointer (some an))) := by simpa using World.var?_cell gNoT hn 0
  have dr : W.cell? ⟨0, 0, none⟩ = some (.iface 224 (.pointer (some ar))) := by simpa using World.var?_cell gNoR hr 0
  obtain ⟨ae, se, he, hse, _, _⟩ := laid_sentinel (h.tail.tail) gErr tErr Tryz.underlying69 rowPtr Tryz.underlying224 Tryz.underlying239 rfl rfl Tryz.underlying9 cellsStruct cellsString
  obtain ⟨_, ⟨g0, t0, cs0, f0, p0, q0, hg0, ht0, hv0, hd0, ⟨g1, t1, cs1, f1, p1, q1, hg1, ht1, hv1, hd1, ⟨g2, t2, cs2, f2, p2, q2, hg2, ht2, hv2, hd2, ⟨g3, t3, cs3, f3, p3, q3, hg3, ht3, hv3, hd3, _, _⟩, _⟩, _⟩, _⟩, _, _⟩ := h
  obtain rfl := Option.some.inj (gNums.symm.trans hg0)
  obtain rfl := Option.some.inj (gVars.symm.trans hg1)
  obtain rfl := Option.some.inj (gAsg.symm.trans hg3)
  obtain rfl := Option.some.inj (tNums.symm.trans ht0)
  obtain rfl := Option.some.inj (tVars.symm.trans ht1)
  obtain rfl := Option.some.inj (tAsg.symm.trans ht3)
  obtain ⟨x0, c0, e0, k0⟩ := table_of (bs := tails) Tryz.underlying74 hd0
  obtain ⟨x1, c1, e1, k1⟩ := table_of (bs := both) Tryz.underlying74 hd1
  obtain ⟨x3, c3, e3, k3⟩ := table_of (bs := twos) Tryz.underlying74 hd3
  have d0 : W.cell? ⟨8, 0, none⟩ = some (.slice (some x0) 8 c0) := by rw [World.var?_cell hg0 hv0 0, ← Array.getElem?_toList, e0]; rfl
  have d1 : W.cell? ⟨7, 0, none⟩ = some (.slice (some x1) 4 c1) := by rw [World.var?_cell hg1 hv1 0, ← Array.getElem?_toList, e1]; rfl
  have d3 : W.cell? ⟨4, 0, none⟩ = some (.slice (some x3) 12 c3) := by rw [World.var?_cell hg3 hv3 0, ← Array.getElem?_toList, e3]; rfl
  have de : W.cell? ⟨3, 0, none⟩ = some (.iface 224 (.pointer (some ae))) := by simpa using World.var?_cell gErr he 0
  have b0 := lt_of_cell' (k0 0 _ rfl)
  have b1 := lt_of_cell' (k1 0 _ rfl)
  have b3 := lt_of_cell' (k3 0 _ rfl)
  rw [add_block] at b0 b1 b3
  refine ⟨?_, ⟨⟨224, _, dn⟩, lt_of_cell' dn⟩, ⟨⟨224, _, dr⟩, lt_of_cell' dr⟩⟩
  exact ⟨⟨⟨x0, c0, d0, k0, lt_of_cell' d0, b0⟩, ⟨x1, c1, d1, k1, lt_of_cell' d1, b1⟩, Nat.le_refl _⟩, ⟨x3, c3, d3, k3, lt_of_cell' d3, b3⟩, ⟨224, _, de⟩, lt_of_cell' de⟩

theorem trodVars_len6 {H : Type} {enc : TypeId × Value → H} {P : Program} {w : World} {sp : Nat → Bool} {n0 n1 n2 n3 n4 n5 : String} {gs : List (DataW H)} {ps : List MemPlace} (h : DataW.TrodVars enc P w sp [n0, n1, n2, n3, n4, n5] gs ps) : ∃ d0 d1 d2 d3 d4 d5, gs = [d0, d1, d2, d3, d4, d5] := by
  have hl := trodVars_len h
  match gs, hl with
  | [d0, d1, d2, d3, d4, d5], _ => exact ⟨d0, d1, d2, d3, d4, d5, rfl⟩
end Go.Proofs.YtgdgbjnmibkmhaaGreatDoor
