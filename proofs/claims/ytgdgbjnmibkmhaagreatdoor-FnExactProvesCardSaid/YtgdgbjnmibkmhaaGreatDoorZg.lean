/- Chapter 6: does a proof end with a triple, in the model and in the program. Chapter 6: the walk of the exact law on what a proof proves. A triple that is an argument, opened and shut. -/
import Derived.Test.YtgdgbjnmibkmhaaGreatDoorZf
import Derived.Test.YtgdgbjnmibkmhaaGreatDoorTW0
import Derived.Test.YtgdgbjnmibkmhaaGreatDoorL5
import Derived.Lib.SmallJoins
namespace Go.Proofs.YtgdgbjnmibkmhaaGreatDoor
open Go.ChangeShapes Go.WideShapes Go.ChangeAt Go.RowKit Go.Shelf
attribute [local go_sem] Oper.semAt_some
set_option maxRecDepth 100000

theorem faultF_cases (ls : List LineD) : ∀ n i, faultF ls n i = -1 ∨ ∃ k : Nat, faultF ls n i = (k : Int)
  | 0, _ => .inl rfl
  | n + 1, i => by
    unfold faultF
    split
    · exact .inr ⟨i, rfl⟩
    · exact faultF_cases ls n (i + 1)
theorem fault_cases (ls : List LineD) : faultZ ls = -1 ∨ ∃ k : Nat, faultZ ls = (k : Int) := faultF_cases ls _ _
/-- Whether a proof ends with a triple. -/
def provesB (ls : List LineD) (b : Int) (p : ByteArray) (x r : Int) : Bool := (faultZ ls == -1) && (match ls[ls.length - 1]? with | some l => sameT l.t.b l.t.p l.t.x l.t.r b p x r | none => false)
theorem proves_nil (b : Int) (p : ByteArray) (x r : Int) : provesB [] b p x r = false := rfl
theorem proves_bad {ls : List LineD} {k : Nat} (h : faultZ ls = (k : Int)) (b : Int) (p : ByteArray) (x r : Int) : provesB ls b p x r = false := by
  unfold provesB
  rw [h, beq_eq_false_iff_ne.2 (show (k : Int) ≠ -1 by omega)]
  rfl
theorem proves_last {ls : List LineD} {l : LineD} (h : faultZ ls = -1) (hl : ls[ls.length - 1]? = some l) (b : Int) (p : ByteArray) (x r : Int) : provesB ls b p x r = sameT l.t.b l.t.p l.t.x l.t.r b p x r := by
  unfold provesB
  rw [h, hl]
  rfl
/-- The cells of the last line's triple and of another triple. -/
def PvAt (X : World) (g o gt : Nat) (l : LineD) (b : Int) (p : ByteArray) (x r : Int) : Prop := X.cell? ⟨g, o, none⟩ = some (.int .i64 l.t.b) ∧ X.cell? ⟨g, o + 1, none⟩ = some (.string l.t.p) ∧ X.cell? ⟨g, o + 2, none⟩ = some (.int .i64 l.t.x) ∧ X.cell? ⟨g, o + 3, none⟩ = some (.int .i64 l.t.r) ∧ X.cell? ⟨gt, 0, none⟩ = some (.int .i64 b) ∧ X.cell? ⟨gt, 1, none⟩ = some (.string p) ∧ X.cell? ⟨gt, 2, none⟩ = some (.int .i64 x) ∧ X.cell? ⟨gt, 3, none⟩ = some (.int .i64 r)
theorem PvAt.through {A' X Y : World} {g o gt : Nat} {l : LineD} {b : Int} {p : ByteArray} {x r : Int} {m : Nat} (bk : Below m X Y) (h : PvAt A' g o gt l b p x r) (e : A'.heap = X.heap) (hn : X.heap.size ≤ m) : PvAt Y g o gt l b p x r := by
  have hX : PvAt X g o gt l b p x r := by unfold PvAt World.cell? at *; rw [← e]; exact h
  have bk := bk.mono hn
  obtain ⟨h0, h1, h2, h3, h4, h5, h6, h7⟩ := hX
  exact ⟨cell_below bk h0, cell_below bk h1, cell_below bk h2, cell_below bk h3, cell_below bk h4, cell_below bk h5, cell_below bk h6, cell_below bk h7⟩
set_option maxHeartbeats 4000000 in
theorem pproves_gen {v : Value} {ls : List LineD} {w : World} (h : LinesAt w v ls) (hlen : ls.length ≤ 1048576) (b : Int) (p : ByteArray) (x r : Int) (hC : ∀ X, Below w.heap.size w X → Calls Tryz.prog 20 #[v] X fun e W' => e = .returned (.int .i64 (faultZ ls)) ∧ Below X.heap.size X W') :
    Calls Tryz.prog 25 #[v, .agg #[.int .i64 b, .string p, .int .i64 x, .int .i64 r]] w fun e W' => e = .returned (.bool (provesB ls b p x r)) ∧ Below w.heap.size w W' := by
  obtain ⟨a, c, hv, q1, q2, q3⟩ := h
  subst hv
  have hA : Below w.heap.size w (w.alloc (.cells #[.int .i64 b, .string p, .int .i64 x, .int .i64 r] 31)) := (Below.refl _ w).alloc (Nat.le_refl _) _
  have hT := TripAt.new w b p x r
  obtain ⟨t0, t1, t2, t3⟩ := hT.cells
  have hC1 := hC _ hA.drew
  clear hC
  rcases Nat.eq_zero_or_pos ls.length with hz | hpos
  · have hnil := List.length_eq_zero_iff.1 hz
    subst hnil
    rw [proves_nil]
    clear q3 hC1 hT
    go_enter Tryz.func25, Tryz.ntmps25
    go_wp2_with fail
    go_region
    all_goals go_wp2_with fail
    all_goals go_ret
    all_goals exact ⟨rfl, hA.drew⟩
  · obtain ⟨m, hm⟩ : ∃ m, ls.length = m + 1 := ⟨ls.length - 1, by omega⟩
    have hmI : (ls.length : Int) - 1 = (m : Int) := by omega
    have hp0 : (0 : Int) < (ls.length : Int) := by omega
    have hm1 : (m : Int) < (ls.length : Int) := by omega
    have hml : m < ls.length := by omega
    have hl : ls[m]? = some ls[m] := List.getElem?_eq_getElem hml
    have hl2 : ls[ls.length - 1]? = some ls[m] := by rw [show ls.length - 1 = m by omega]; exact hl
    rcases q3 with q3 | ⟨g, off, ha, q3⟩
    · rw [q3] at hpos; simp at hpos
    subst ha
    have hc := (q3 m _ hl).1.below hA
    generalize ls[m] = l at hl hl2 hc
    obtain ⟨m0, m1, m2, m3⟩ := hc
    have hq : PvAt (w.alloc (.cells #[.int .i64 b, .string p, .int .i64 x, .int .i64 r] 31)) g (off + m * 6) w.heap.size l b p x r := ⟨m0, m1, m2, m3, t0, t1, t2, t3⟩
    have he := fun w : World => eqTrip l.t.b l.t.p l.t.x l.t.r b p x r w
    have hlb : (ls.length : Int) ≤ 1048576 := by omega
    have hwr : IntKind.i64.wrap (m : Int) = (m : Int) := by rw [IntKind.wrap_i64]; omega
    clear hT q3 hm
    rcases fault_cases ls with hf | ⟨k, hf⟩
    · rw [proves_last hf hl2]
      rw [hf] at hC1
      generalize sameT l.t.b l.t.p l.t.x l.t.r b p x r = res at he ⊢
      clear hl hl2 hf
      go_enter Tryz.func25, Tryz.ntmps25
      go_wp2_with fail
      refine wp_region_held (S := fun w' => PvAt w' g (off + m * 6) w.heap.size l b p x r) (by kernel_rfl) ?_
      refine wpAnyH_take (i := 0) (v := .slice (some ⟨g, off, none⟩) ls.length c) rfl (by kernel_rfl) (by kernel_rfl) (by kernel_rfl) (fun _ _ _ h => h) (Or.inl ⟨by rfl, fun w hw => by go_simp⟩) hq ?_
      go_simp
      refine wpAnyH_take (i := 1) (v := .int .i64 (ls.length : Int)) rfl (by kernel_rfl) (by kernel_rfl) (by kernel_rfl) (fun _ _ _ h => h) (Or.inl ⟨by rfl, fun w hw => by go_simp⟩) hq ?_
      go_simp
      refine wpAnyH_take (i := 2) (v := .bool true) rfl (by kernel_rfl) (by kernel_rfl) (by kernel_rfl) (fun _ _ _ h => h) (Or.inl ⟨by rfl, fun w hw => by go_simp⟩) hq ?_
      go_simp
      refine wpAnyH_take (i := 3) (v := .bool true) rfl (by kernel_rfl) (by kernel_rfl) (by kernel_rfl) (fun _ _ _ h => h) (Or.inl ⟨by rfl, fun w hw => by go_simp⟩) hq ?_
      go_simp
      refine wpAnyH_take (i := 4) (v := .slice (some ⟨g, off, none⟩) ls.length c) rfl (by kernel_rfl) (by kernel_rfl) (by kernel_rfl) (fun _ _ _ h => h) (Or.inl ⟨by rfl, fun w hw => by go_simp⟩) hq ?_
      go_simp
      refine wpAnyH_ready (rs := [5]) (by kernel_rfl) (by simp) ?_
      refine AllReadyH.cons rfl (fun K hK => ?_) AllReadyH.nil
      go_simp
      go_wp2_with (go_at_call 20; refine hC1.mono ?_; rintro e Wk1 ⟨rfl, bk1⟩)
      refine hK _ _ (PvAt.through bk1 hq rfl (Nat.le_refl _)) (fun hR1 => ?_)
      clear hK K
      go_simp
      refine wpAnyH_take (i := 6) (v := .bool true) rfl (by kernel_rfl) (by kernel_rfl) (by kernel_rfl) (fun _ _ _ h => h) (Or.inl ⟨by rfl, fun w hw => by go_simp⟩) hR1 ?_
      go_simp
      refine wpAnyH_take (i := 7) (v := .bool true) rfl (by kernel_rfl) (by kernel_rfl) (by kernel_rfl) (fun _ _ _ h => h) (Or.inl ⟨by rfl, fun w hw => by go_simp⟩) hR1 ?_
      go_simp
      refine wpAnyH_take (i := 8) (v := .bool true) rfl (by kernel_rfl) (by kernel_rfl) (by kernel_rfl) (fun _ _ _ h => h) (Or.inl ⟨by rfl, fun w hw => by go_simp⟩) hR1 ?_
      go_simp
      refine wpAnyH_take (i := 9) (v := .slice (some ⟨g, off, none⟩) ls.length c) rfl (by kernel_rfl) (by kernel_rfl) (by kernel_rfl) (fun _ _ _ h => h) (Or.inl ⟨by rfl, fun w hw => by go_simp⟩) hR1 ?_
      go_simp
      refine wpAnyH_take (i := 10) (v := .slice (some ⟨g, off, none⟩) ls.length c) rfl (by kernel_rfl) (by kernel_rfl) (by kernel_rfl) (fun _ _ _ h => h) (Or.inl ⟨by rfl, fun w hw => by go_simp⟩) hR1 ?_
      go_simp
      refine wpAnyH_take (i := 11) (v := .int .i64 (ls.length : Int)) rfl (by kernel_rfl) (by kernel_rfl) (by kernel_rfl) (fun _ _ _ h => h) (Or.inl ⟨by rfl, fun w hw => by go_simp⟩) hR1 ?_
      go_simp
      refine wpAnyH_take (i := 12) (v := .int .i64 (m : Int)) rfl (by kernel_rfl) (by kernel_rfl) (by kernel_rfl) (fun _ _ _ h => h) (Or.inl ⟨by rfl, fun w hw => by go_simp⟩) hR1 ?_
      go_simp
      refine wpAnyH_take (i := 13) (v := .pointer (some ⟨g, off + m * 6, none⟩)) rfl (by kernel_rfl) (by kernel_rfl) (by kernel_rfl) (fun _ _ _ h => h) (Or.inl ⟨by rfl, fun w hw => by go_simp⟩) hR1 ?_
      go_simp
      refine wpAnyH_take (i := 14) (v := .pointer (some ⟨g, off + m * 6, none⟩)) rfl (by kernel_rfl) (by kernel_rfl) (by kernel_rfl) (fun _ _ _ h => h) (Or.inl ⟨by rfl, fun w hw => by go_simp⟩) hR1 ?_
      go_simp
      refine wpAnyH_take (i := 15) (v := .agg #[.int .i64 l.t.b, .string l.t.p, .int .i64 l.t.x, .int .i64 l.t.r]) rfl (by kernel_rfl) (by kernel_rfl) (by kernel_rfl) (fun _ _ _ h => h) (Or.inl ⟨by rfl, fun w hw => by obtain ⟨l0, l1, l2, l3, l4, l5, l6, l7⟩ := hw; first | (go_simp; done) | rfl⟩) hR1 ?_
      go_simp
      refine wpAnyH_take (i := 16) (v := .agg #[.int .i64 b, .string p, .int .i64 x, .int .i64 r]) rfl (by kernel_rfl) (by kernel_rfl) (by kernel_rfl) (fun _ _ _ h => h) (Or.inl ⟨by rfl, fun w hw => by obtain ⟨l0, l1, l2, l3, l4, l5, l6, l7⟩ := hw; first | (go_simp; done) | rfl⟩) hR1 ?_
      go_simp
      refine wpAnyH_take (i := 17) (v := .bool res) rfl (by kernel_rfl) (by kernel_rfl) (by kernel_rfl) (fun _ _ _ h => h) (Or.inl ⟨by rfl, fun w hw => by go_simp⟩) hR1 ?_
      go_simp
      refine wpAnyH_take (i := 18) (v := .bool res) rfl (by kernel_rfl) (by kernel_rfl) (by kernel_rfl) (fun _ _ _ h => h) (Or.inl ⟨by rfl, fun w hw => by go_simp⟩) hR1 ?_
      go_simp
      refine wpAnyH_take (i := 19) (v := .bool res) rfl (by kernel_rfl) (by kernel_rfl) (by kernel_rfl) (fun _ _ _ h => h) (Or.inl ⟨by rfl, fun w hw => by go_simp⟩) hR1 ?_
      go_simp
      refine wpAnyH_done (by kernel_rfl) ?_ _
      go_wp2_with fail
      go_ret
      exact ⟨rfl, hA.drew.trans (bk1.mono hA.size)⟩
    · rw [proves_bad hf]
      rw [hf] at hC1
      have hk : ¬ (k : Int) = -1 := by omega
      have hk2 : ¬ (k : Int) < 0 := by omega
      have hk3 : ((k : Int) == -1) = false := beq_eq_false_iff_ne.2 hk
      clear hl hl2 hf
      go_enter Tryz.func25, Tryz.ntmps25
      go_wp2_with fail
      refine wp_region_held (S := fun w' => PvAt w' g (off + m * 6) w.heap.size l b p x r) (by kernel_rfl) ?_
      refine wpAnyH_take (i := 0) (v := .slice (some ⟨g, off, none⟩) ls.length c) rfl (by kernel_rfl) (by kernel_rfl) (by kernel_rfl) (fun _ _ _ h => h) (Or.inl ⟨by rfl, fun w hw => by go_simp⟩) hq ?_
      go_simp
      refine wpAnyH_take (i := 1) (v := .int .i64 (ls.length : Int)) rfl (by kernel_rfl) (by kernel_rfl) (by kernel_rfl) (fun _ _ _ h => h) (Or.inl ⟨by rfl, fun w hw => by go_simp⟩) hq ?_
      go_simp
      refine wpAnyH_take (i := 2) (v := .bool true) rfl (by kernel_rfl) (by kernel_rfl) (by kernel_rfl) (fun _ _ _ h => h) (Or.inl ⟨by rfl, fun w hw => by go_simp⟩) hq ?_
      go_simp
      refine wpAnyH_take (i := 3) (v := .bool true) rfl (by kernel_rfl) (by kernel_rfl) (by kernel_rfl) (fun _ _ _ h => h) (Or.inl ⟨by rfl, fun w hw => by go_simp⟩) hq ?_
      go_simp
      refine wpAnyH_take (i := 4) (v := .slice (some ⟨g, off, none⟩) ls.length c) rfl (by kernel_rfl) (by kernel_rfl) (by kernel_rfl) (fun _ _ _ h => h) (Or.inl ⟨by rfl, fun w hw => by go_simp⟩) hq ?_
      go_simp
      refine wpAnyH_ready (rs := [5]) (by kernel_rfl) (by simp) ?_
      refine AllReadyH.cons rfl (fun K hK => ?_) AllReadyH.nil
      go_simp
      go_wp2_with (go_at_call 20; refine hC1.mono ?_; rintro e Wk1 ⟨rfl, bk1⟩)
      refine hK _ _ (PvAt.through bk1 hq rfl (Nat.le_refl _)) (fun hR1 => ?_)
      clear hK K
      go_simp
      refine wpAnyH_take (i := 6) (v := .bool false) rfl (by kernel_rfl) (by kernel_rfl) (by kernel_rfl) (fun _ _ _ h => h) (Or.inl ⟨by rfl, fun w hw => by go_simp⟩) hR1 ?_
      go_simp
      refine wpAnyH_take (i := 7) (v := .bool false) rfl (by kernel_rfl) (by kernel_rfl) (by kernel_rfl) (fun _ _ _ h => h) (Or.inl ⟨by rfl, fun w hw => by go_simp⟩) hR1 ?_
      go_simp
      refine wpAnyH_take (i := 8) (v := .bool false) rfl (by kernel_rfl) (by kernel_rfl) (by kernel_rfl) (fun _ _ _ h => h) (Or.inl ⟨by rfl, fun w hw => by go_simp⟩) hR1 ?_
      go_simp
      refine wpAnyH_take (i := 9) (v := undef) rfl (by kernel_rfl) (by kernel_rfl) (by kernel_rfl) (fun _ _ _ h => h) (Or.inr ⟨by rfl, rfl⟩) hR1 ?_
      go_simp
      refine wpAnyH_take (i := 10) (v := undef) rfl (by kernel_rfl) (by kernel_rfl) (by kernel_rfl) (fun _ _ _ h => h) (Or.inr ⟨by rfl, rfl⟩) hR1 ?_
      go_simp
      refine wpAnyH_take (i := 11) (v := undef) rfl (by kernel_rfl) (by kernel_rfl) (by kernel_rfl) (fun _ _ _ h => h) (Or.inr ⟨by rfl, rfl⟩) hR1 ?_
      go_simp
      refine wpAnyH_take (i := 12) (v := undef) rfl (by kernel_rfl) (by kernel_rfl) (by kernel_rfl) (fun _ _ _ h => h) (Or.inr ⟨by rfl, rfl⟩) hR1 ?_
      go_simp
      refine wpAnyH_take (i := 13) (v := undef) rfl (by kernel_rfl) (by kernel_rfl) (by kernel_rfl) (fun _ _ _ h => h) (Or.inr ⟨by rfl, rfl⟩) hR1 ?_
      go_simp
      refine wpAnyH_take (i := 14) (v := undef) rfl (by kernel_rfl) (by kernel_rfl) (by kernel_rfl) (fun _ _ _ h => h) (Or.inr ⟨by rfl, rfl⟩) hR1 ?_
      go_simp
      refine wpAnyH_take (i := 15) (v := undef) rfl (by kernel_rfl) (by kernel_rfl) (by kernel_rfl) (fun _ _ _ h => h) (Or.inr ⟨by rfl, rfl⟩) hR1 ?_
      go_simp
      refine wpAnyH_take (i := 16) (v := undef) rfl (by kernel_rfl) (by kernel_rfl) (by kernel_rfl) (fun _ _ _ h => h) (Or.inr ⟨by rfl, rfl⟩) hR1 ?_
      go_simp
      refine wpAnyH_take (i := 17) (v := undef) rfl (by kernel_rfl) (by kernel_rfl) (by kernel_rfl) (fun _ _ _ h => h) (Or.inr ⟨by rfl, rfl⟩) hR1 ?_
      go_simp
      refine wpAnyH_take (i := 18) (v := .bool false) rfl (by kernel_rfl) (by kernel_rfl) (by kernel_rfl) (fun _ _ _ h => h) (Or.inl ⟨by rfl, fun w hw => by go_simp⟩) hR1 ?_
      go_simp
      refine wpAnyH_take (i := 19) (v := .bool false) rfl (by kernel_rfl) (by kernel_rfl) (by kernel_rfl) (fun _ _ _ h => h) (Or.inl ⟨by rfl, fun w hw => by go_simp⟩) hR1 ?_
      go_simp
      refine wpAnyH_done (by kernel_rfl) ?_ _
      go_wp2_with fail
      go_ret
      exact ⟨rfl, hA.drew.trans (bk1.mono hA.size)⟩
set_option maxHeartbeats 4000000 in
theorem mproves_gen {v : Value} {ls : List LineD} {w : World} (h : LinesAt w v ls) (hlen : ls.length ≤ 1048576) (b : Int) (p : ByteArray) (x r : Int) (hC : ∀ X, Below w.heap.size w X → Calls Tryz.prog 18 #[v] X fun e W' => e = .returned (.int .i64 (faultZ ls)) ∧ Below X.heap.size X W') :
    Calls Tryz.prog 23 #[v, .agg #[.int .i64 b, .string p, .int .i64 x, .int .i64 r]] w fun e W' => e = .returned (.bool (provesB ls b p x r)) ∧ Below w.heap.size w W' := by
  obtain ⟨a, c, hv, q1, q2, q3⟩ := h
  subst hv
  have hA : Below w.heap.size w (w.alloc (.cells #[.int .i64 b, .string p, .int .i64 x, .int .i64 r] 31)) := (Below.refl _ w).alloc (Nat.le_refl _) _
  have hT := TripAt.new w b p x r
  obtain ⟨t0, t1, t2, t3⟩ := hT.cells
  have hC1 := hC _ hA.drew
  clear hC
  rcases Nat.eq_zero_or_pos ls.length with hz | hpos
  · have hnil := List.length_eq_zero_iff.1 hz
    subst hnil
    rw [proves_nil]
    clear q3 hC1 hT
    go_enter Tryz.func23, Tryz.ntmps23
    go_wp2_with fail
    go_region
    all_goals go_wp2_with fail
    all_goals go_ret
    all_goals exact ⟨rfl, hA.drew⟩
  · obtain ⟨m, hm⟩ : ∃ m, ls.length = m + 1 := ⟨ls.length - 1, by omega⟩
    have hmI : (ls.length : Int) - 1 = (m : Int) := by omega
    have hp0 : (0 : Int) < (ls.length : Int) := by omega
    have hm1 : (m : Int) < (ls.length : Int) := by omega
    have hml : m < ls.length := by omega
    have hl : ls[m]? = some ls[m] := List.getElem?_eq_getElem hml
    have hl2 : ls[ls.length - 1]? = some ls[m] := by rw [show ls.length - 1 = m by omega]; exact hl
    rcases q3 with q3 | ⟨g, off, ha, q3⟩
    · rw [q3] at hpos; simp at hpos
    subst ha
    have hc := (q3 m _ hl).1.below hA
    generalize ls[m] = l at hl hl2 hc
    obtain ⟨m0, m1, m2, m3⟩ := hc
    have hq : PvAt (w.alloc (.cells #[.int .i64 b, .string p, .int .i64 x, .int .i64 r] 31)) g (off + m * 6) w.heap.size l b p x r := ⟨m0, m1, m2, m3, t0, t1, t2, t3⟩
    have he := fun w : World => eqTrip l.t.b l.t.p l.t.x l.t.r b p x r w
    have hlb : (ls.length : Int) ≤ 1048576 := by omega
    have hwr : IntKind.i64.wrap (m : Int) = (m : Int) := by rw [IntKind.wrap_i64]; omega
    clear hT q3 hm
    rcases fault_cases ls with hf | ⟨k, hf⟩
    · rw [proves_last hf hl2]
      rw [hf] at hC1
      generalize sameT l.t.b l.t.p l.t.x l.t.r b p x r = res at he ⊢
      clear hl hl2 hf
      go_enter Tryz.func23, Tryz.ntmps23
      go_wp2_with fail
      refine wp_region_held (S := fun w' => PvAt w' g (off + m * 6) w.heap.size l b p x r) (by kernel_rfl) ?_
      refine wpAnyH_take (i := 0) (v := .slice (some ⟨g, off, none⟩) ls.length c) rfl (by kernel_rfl) (by kernel_rfl) (by kernel_rfl) (fun _ _ _ h => h) (Or.inl ⟨by rfl, fun w hw => by go_simp⟩) hq ?_
      go_simp
      refine wpAnyH_take (i := 1) (v := .int .i64 (ls.length : Int)) rfl (by kernel_rfl) (by kernel_rfl) (by kernel_rfl) (fun _ _ _ h => h) (Or.inl ⟨by rfl, fun w hw => by go_simp⟩) hq ?_
      go_simp
      refine wpAnyH_take (i := 2) (v := .bool true) rfl (by kernel_rfl) (by kernel_rfl) (by kernel_rfl) (fun _ _ _ h => h) (Or.inl ⟨by rfl, fun w hw => by go_simp⟩) hq ?_
      go_simp
      refine wpAnyH_take (i := 3) (v := .bool true) rfl (by kernel_rfl) (by kernel_rfl) (by kernel_rfl) (fun _ _ _ h => h) (Or.inl ⟨by rfl, fun w hw => by go_simp⟩) hq ?_
      go_simp
      refine wpAnyH_take (i := 4) (v := .slice (some ⟨g, off, none⟩) ls.length c) rfl (by kernel_rfl) (by kernel_rfl) (by kernel_rfl) (fun _ _ _ h => h) (Or.inl ⟨by rfl, fun w hw => by go_simp⟩) hq ?_
      go_simp
      refine wpAnyH_ready (rs := [5]) (by kernel_rfl) (by simp) ?_
      refine AllReadyH.cons rfl (fun K hK => ?_) AllReadyH.nil
      go_simp
      go_wp2_with (go_at_call 18; refine hC1.mono ?_; rintro e Wk1 ⟨rfl, bk1⟩)
      refine hK _ _ (PvAt.through bk1 hq rfl (Nat.le_refl _)) (fun hR1 => ?_)
      clear hK K
      go_simp
      refine wpAnyH_take (i := 6) (v := .bool true) rfl (by kernel_rfl) (by kernel_rfl) (by kernel_rfl) (fun _ _ _ h => h) (Or.inl ⟨by rfl, fun w hw => by go_simp⟩) hR1 ?_
      go_simp
      refine wpAnyH_take (i := 7) (v := .bool true) rfl (by kernel_rfl) (by kernel_rfl) (by kernel_rfl) (fun _ _ _ h => h) (Or.inl ⟨by rfl, fun w hw => by go_simp⟩) hR1 ?_
      go_simp
      refine wpAnyH_take (i := 8) (v := .bool true) rfl (by kernel_rfl) (by kernel_rfl) (by kernel_rfl) (fun _ _ _ h => h) (Or.inl ⟨by rfl, fun w hw => by go_simp⟩) hR1 ?_
      go_simp
      refine wpAnyH_take (i := 9) (v := .slice (some ⟨g, off, none⟩) ls.length c) rfl (by kernel_rfl) (by kernel_rfl) (by kernel_rfl) (fun _ _ _ h => h) (Or.inl ⟨by rfl, fun w hw => by go_simp⟩) hR1 ?_
      go_simp
      refine wpAnyH_take (i := 10) (v := .slice (some ⟨g, off, none⟩) ls.length c) rfl (by kernel_rfl) (by kernel_rfl) (by kernel_rfl) (fun _ _ _ h => h) (Or.inl ⟨by rfl, fun w hw => by go_simp⟩) hR1 ?_
      go_simp
      refine wpAnyH_take (i := 11) (v := .int .i64 (ls.length : Int)) rfl (by kernel_rfl) (by kernel_rfl) (by kernel_rfl) (fun _ _ _ h => h) (Or.inl ⟨by rfl, fun w hw => by go_simp⟩) hR1 ?_
      go_simp
      refine wpAnyH_take (i := 12) (v := .int .i64 (m : Int)) rfl (by kernel_rfl) (by kernel_rfl) (by kernel_rfl) (fun _ _ _ h => h) (Or.inl ⟨by rfl, fun w hw => by go_simp⟩) hR1 ?_
      go_simp
      refine wpAnyH_take (i := 13) (v := .pointer (some ⟨g, off + m * 6, none⟩)) rfl (by kernel_rfl) (by kernel_rfl) (by kernel_rfl) (fun _ _ _ h => h) (Or.inl ⟨by rfl, fun w hw => by go_simp⟩) hR1 ?_
      go_simp
      refine wpAnyH_take (i := 14) (v := .pointer (some ⟨g, off + m * 6, none⟩)) rfl (by kernel_rfl) (by kernel_rfl) (by kernel_rfl) (fun _ _ _ h => h) (Or.inl ⟨by rfl, fun w hw => by go_simp⟩) hR1 ?_
      go_simp
      refine wpAnyH_take (i := 15) (v := .agg #[.int .i64 l.t.b, .string l.t.p, .int .i64 l.t.x, .int .i64 l.t.r]) rfl (by kernel_rfl) (by kernel_rfl) (by kernel_rfl) (fun _ _ _ h => h) (Or.inl ⟨by rfl, fun w hw => by obtain ⟨l0, l1, l2, l3, l4, l5, l6, l7⟩ := hw; first | (go_simp; done) | rfl⟩) hR1 ?_
      go_simp
      refine wpAnyH_take (i := 16) (v := .agg #[.int .i64 b, .string p, .int .i64 x, .int .i64 r]) rfl (by kernel_rfl) (by kernel_rfl) (by kernel_rfl) (fun _ _ _ h => h) (Or.inl ⟨by rfl, fun w hw => by obtain ⟨l0, l1, l2, l3, l4, l5, l6, l7⟩ := hw; first | (go_simp; done) | rfl⟩) hR1 ?_
      go_simp
      refine wpAnyH_take (i := 17) (v := .bool res) rfl (by kernel_rfl) (by kernel_rfl) (by kernel_rfl) (fun _ _ _ h => h) (Or.inl ⟨by rfl, fun w hw => by go_simp⟩) hR1 ?_
      go_simp
      refine wpAnyH_take (i := 18) (v := .bool res) rfl (by kernel_rfl) (by kernel_rfl) (by kernel_rfl) (fun _ _ _ h => h) (Or.inl ⟨by rfl, fun w hw => by go_simp⟩) hR1 ?_
      go_simp
      refine wpAnyH_take (i := 19) (v := .bool res) rfl (by kernel_rfl) (by kernel_rfl) (by kernel_rfl) (fun _ _ _ h => h) (Or.inl ⟨by rfl, fun w hw => by go_simp⟩) hR1 ?_
      go_simp
      refine wpAnyH_done (by kernel_rfl) ?_ _
      go_wp2_with fail
      go_ret
      exact ⟨rfl, hA.drew.trans (bk1.mono hA.size)⟩
    · rw [proves_bad hf]
      rw [hf] at hC1
      have hk : ¬ (k : Int) = -1 := by omega
      have hk2 : ¬ (k : Int) < 0 := by omega
      have hk3 : ((k : Int) == -1) = false := beq_eq_false_iff_ne.2 hk
      clear hl hl2 hf
      go_enter Tryz.func23, Tryz.ntmps23
      go_wp2_with fail
      refine wp_region_held (S := fun w' => PvAt w' g (off + m * 6) w.heap.size l b p x r) (by kernel_rfl) ?_
      refine wpAnyH_take (i := 0) (v := .slice (some ⟨g, off, none⟩) ls.length c) rfl (by kernel_rfl) (by kernel_rfl) (by kernel_rfl) (fun _ _ _ h => h) (Or.inl ⟨by rfl, fun w hw => by go_simp⟩) hq ?_
      go_simp
      refine wpAnyH_take (i := 1) (v := .int .i64 (ls.length : Int)) rfl (by kernel_rfl) (by kernel_rfl) (by kernel_rfl) (fun _ _ _ h => h) (Or.inl ⟨by rfl, fun w hw => by go_simp⟩) hq ?_
      go_simp
      refine wpAnyH_take (i := 2) (v := .bool true) rfl (by kernel_rfl) (by kernel_rfl) (by kernel_rfl) (fun _ _ _ h => h) (Or.inl ⟨by rfl, fun w hw => by go_simp⟩) hq ?_
      go_simp
      refine wpAnyH_take (i := 3) (v := .bool true) rfl (by kernel_rfl) (by kernel_rfl) (by kernel_rfl) (fun _ _ _ h => h) (Or.inl ⟨by rfl, fun w hw => by go_simp⟩) hq ?_
      go_simp
      refine wpAnyH_take (i := 4) (v := .slice (some ⟨g, off, none⟩) ls.length c) rfl (by kernel_rfl) (by kernel_rfl) (by kernel_rfl) (fun _ _ _ h => h) (Or.inl ⟨by rfl, fun w hw => by go_simp⟩) hq ?_
      go_simp
      refine wpAnyH_ready (rs := [5]) (by kernel_rfl) (by simp) ?_
      refine AllReadyH.cons rfl (fun K hK => ?_) AllReadyH.nil
      go_simp
      go_wp2_with (go_at_call 18; refine hC1.mono ?_; rintro e Wk1 ⟨rfl, bk1⟩)
      refine hK _ _ (PvAt.through bk1 hq rfl (Nat.le_refl _)) (fun hR1 => ?_)
      clear hK K
      go_simp
      refine wpAnyH_take (i := 6) (v := .bool false) rfl (by kernel_rfl) (by kernel_rfl) (by kernel_rfl) (fun _ _ _ h => h) (Or.inl ⟨by rfl, fun w hw => by go_simp⟩) hR1 ?_
      go_simp
      refine wpAnyH_take (i := 7) (v := .bool false) rfl (by kernel_rfl) (by kernel_rfl) (by kernel_rfl) (fun _ _ _ h => h) (Or.inl ⟨by rfl, fun w hw => by go_simp⟩) hR1 ?_
      go_simp
      refine wpAnyH_take (i := 8) (v := .bool false) rfl (by kernel_rfl) (by kernel_rfl) (by kernel_rfl) (fun _ _ _ h => h) (Or.inl ⟨by rfl, fun w hw => by go_simp⟩) hR1 ?_
      go_simp
      refine wpAnyH_take (i := 9) (v := undef) rfl (by kernel_rfl) (by kernel_rfl) (by kernel_rfl) (fun _ _ _ h => h) (Or.inr ⟨by rfl, rfl⟩) hR1 ?_
      go_simp
      refine wpAnyH_take (i := 10) (v := undef) rfl (by kernel_rfl) (by kernel_rfl) (by kernel_rfl) (fun _ _ _ h => h) (Or.inr ⟨by rfl, rfl⟩) hR1 ?_
      go_simp
      refine wpAnyH_take (i := 11) (v := undef) rfl (by kernel_rfl) (by kernel_rfl) (by kernel_rfl) (fun _ _ _ h => h) (Or.inr ⟨by rfl, rfl⟩) hR1 ?_
      go_simp
      refine wpAnyH_take (i := 12) (v := undef) rfl (by kernel_rfl) (by kernel_rfl) (by kernel_rfl) (fun _ _ _ h => h) (Or.inr ⟨by rfl, rfl⟩) hR1 ?_
      go_simp
      refine wpAnyH_take (i := 13) (v := undef) rfl (by kernel_rfl) (by kernel_rfl) (by kernel_rfl) (fun _ _ _ h => h) (Or.inr ⟨by rfl, rfl⟩) hR1 ?_
      go_simp
      refine wpAnyH_take (i := 14) (v := undef) rfl (by kernel_rfl) (by kernel_rfl) (by kernel_rfl) (fun _ _ _ h => h) (Or.inr ⟨by rfl, rfl⟩) hR1 ?_
      go_simp
      refine wpAnyH_take (i := 15) (v := undef) rfl (by kernel_rfl) (by kernel_rfl) (by kernel_rfl) (fun _ _ _ h => h) (Or.inr ⟨by rfl, rfl⟩) hR1 ?_
      go_simp
      refine wpAnyH_take (i := 16) (v := undef) rfl (by kernel_rfl) (by kernel_rfl) (by kernel_rfl) (fun _ _ _ h => h) (Or.inr ⟨by rfl, rfl⟩) hR1 ?_
      go_simp
      refine wpAnyH_take (i := 17) (v := undef) rfl (by kernel_rfl) (by kernel_rfl) (by kernel_rfl) (fun _ _ _ h => h) (Or.inr ⟨by rfl, rfl⟩) hR1 ?_
      go_simp
      refine wpAnyH_take (i := 18) (v := .bool false) rfl (by kernel_rfl) (by kernel_rfl) (by kernel_rfl) (fun _ _ _ h => h) (Or.inl ⟨by rfl, fun w hw => by go_simp⟩) hR1 ?_
      go_simp
      refine wpAnyH_take (i := 19) (v := .bool false) rfl (by kernel_rfl) (by kernel_rfl) (by kernel_rfl) (fun _ _ _ h => h) (Or.inl ⟨by rfl, fun w hw => by go_simp⟩) hR1 ?_
      go_simp
      refine wpAnyH_done (by kernel_rfl) ?_ _
      go_wp2_with fail
      go_ret
      exact ⟨rfl, hA.drew.trans (bk1.mono hA.size)⟩
end Go.Proofs.YtgdgbjnmibkmhaaGreatDoor

namespace Go.Proofs.YtgdgbjnmibkmhaaGreatDoor
open Go.ChangeShapes Go.WideShapes Go.ChangeAt Go.RowKit Go.Shelf
attribute [local go_sem] Oper.semAt_some
set_option maxRecDepth 100000

set_option maxHeartbeats 8000000 in
theorem walkProves (v : Value) (ls : List LineD) (b : Int) (p : ByteArray) (x r : Int) (w : World) (hls : LinesAt w v ls) (hsz : ∀ l ∈ ls, l.t.p.size ≤ maxLen ∧ l.rule.size ≤ maxLen) (hp : p.size ≤ maxLen) {N : Nat} (hL : Laid3 N w) (hE : NoTrip N w) (hR : NoRule N w) :
    Calls Tryz.prog 5 #[v, .agg #[.int .i64 b, .string p, .int .i64 x, .int .i64 r]] w fun e w' => e = .returned (.bool true) ∧ Below w.heap.size w w' := by
  have hpm := (show p.size ≤ 9223372036854775807 from hp)
  have hX := Four4.new w 23 (.int .i64 b) (.string p) (.int .i64 x) (.int .i64 r)
  have B0 : Below w.heap.size w (w.alloc (.cells #[.int .i64 b, .string p, .int .i64 x, .int .i64 r] 23)) := (Below.refl _ w).alloc (Nat.le_refl _) _
  obtain ⟨c0, c1, c2, c3⟩ := hX.cells
  have hS := szS55 (hls.below B0) hsz 1048576 (by omega) (by omega)
  by_cases hfit : ls.length + wtL ls ≤ 1048576
  · have hso : szOf (ls.length + wtL ls) 1048576 = 1048576 - ((ls.length + wtL ls : Nat) : Int) := if_pos (by omega)
    rw [hso] at hS
    have hnn : ¬ ((1048576 : Int) - ((ls.length + wtL ls : Nat) : Int) < 0) := by omega
    have hlo : (0 : Int) ≤ 1048576 - ((ls.length + wtL ls : Nat) : Int) := by omega
    have hhi : (1048576 : Int) - ((ls.length + wtL ls : Nat) : Int) ≤ 1048576 := by omega
    have hn : ls.length ≤ 1048576 := by omega
    have hrl : ∀ l ∈ ls, l.refs.length ≤ 1048576 := fun l hl => by have := wt_line hl; unfold wt1 at this; omega
    have hpl : ∀ l ∈ ls, l.t.p.size ≤ 9000000 := fun l hl => by have := wt_line hl; unfold wt1 at this; omega
    have hZ := fun X => sz12 b p x r (1048576 - ((ls.length + wtL ls : Nat) : Int)) X hlo hhi hpm
    by_cases hf2 : (p.size : Int) ≤ 1048576 - ((ls.length + wtL ls : Nat) : Int)
    · rw [if_pos hf2] at hZ
      have hnn2 : ¬ ((1048576 : Int) - ((ls.length + wtL ls : Nat) : Int) - p.size < 0) := by omega
      have hTo := fun X => to14 b p x r X
      have HM := fun X (h : LinesAt X (.slice (some ⟨X.heap.size, 0, none⟩) ls.length ls.length) ls) => h
      clear HM
      generalize hle : (1048576 : Int) - ((ls.length + wtL ls : Nat) : Int) = left at hS hnn hZ hnn2
      generalize hle2 : left - (p.size : Int) = left2 at hZ hnn2
      clear hso hfit hsz hf2 hlo hhi hle hle2
      go_enter Tryz.func5, Tryz.ntmps5
      go_wp2_with fail
      go_at_call 17
      refine hS.mono ?_
      rintro e W1 ⟨rfl, b1⟩
      have B1 := B0.trans (b1.mono B0.size)
      have hX := hX.below b1 hX.lt
      obtain ⟨c0, c1, c2, c3⟩ := hX.cells
      go_wp2_with fail
      go_at_call 22
      refine (hZ _).mono ?_
      rintro e W2 ⟨rfl, b2⟩
      have B2 := B1.trans (b2.mono B1.size)
      have hX := hX.below b2 hX.lt
      obtain ⟨c0, c1, c2, c3⟩ := hX.cells
      have l2 := hls.below B2
      have B2d := B2.drew
      have e2 := (Below.refl W2.heap.size W2).drew
      clear hS hZ l2
      go_wp2_with fail
      go_region_held3 (fun w' => w'.cell? ⟨w.heap.size, 0, none⟩ = some (.int .i64 b) ∧ w'.cell? ⟨w.heap.size, 1, none⟩ = some (.string p) ∧ w'.cell? ⟨w.heap.size, 2, none⟩ = some (.int .i64 x) ∧ w'.cell? ⟨w.heap.size, 3, none⟩ = some (.int .i64 r)) (first | exact ⟨c0, c1, c2, c3⟩ | exact ⟨cell_below b3 (c0), cell_below b3 (c1), cell_below b3 (c2), cell_below b3 (c3)⟩ | exact ⟨cell_below b4 (cell_below b3 (c0)), cell_below b4 (cell_below b3 (c1)), cell_below b4 (cell_below b3 (c2)), cell_below b4 (cell_below b3 (c3))⟩ | exact ⟨cell_below b5 (cell_below b4 (cell_below b3 (c0))), cell_below b5 (cell_below b4 (cell_below b3 (c1))), cell_below b5 (cell_below b4 (cell_below b3 (c2))), cell_below b5 (cell_below b4 (cell_below b3 (c3)))⟩ | go_keep)
        (first
          | (go_at_call 19; refine (toS56 (hls.below B2d) hn hrl).mono ?_; rintro e W3 ⟨rfl, _, o3, b3⟩; have b3 := e2.trans b3; have a3 := lines_at hn o3; clear o3)
          | (go_at_call 24; refine (hTo _).mono ?_; rintro e W4 ⟨rfl, b4⟩; have a4 := a3.below b4)
          | (go_at_call 23; refine (mproves_gen a4 hn b p x r (fun X hb => mcheck18 (a4.below hb) hn hrl hpl)).mono ?_; rintro e W5 ⟨rfl, b5⟩))
      have B3 := B2.trans (b3.mono B2.size)
      have B4 := B3.trans (b4.mono B3.size)
      have B5 := B4.trans (b5.mono B4.size)
      have X3 := hX.below b3 hX.lt
      have X4 := X3.below b4 X3.lt
      have X5 := X4.below b5 X4.lt
      clear c0 c1 c2 c3 a3 a4 X3 X4 hX b3 b4 b5
      go_wp2_with fail
      go_at_call 19
      refine (toS56 (hls.below B5) hn hrl).mono ?_
      rintro e W6 ⟨rfl, _, o6, b6⟩
      have B6 := B5.trans (b6.mono B5.size)
      have a6 := lines_at hn o6
      have X6 := X5.below b6 X5.lt
      obtain ⟨c0, c1, c2, c3⟩ := X6.cells
      clear o6 b6 X5
      go_wp2_with fail
      go_at_call 24
      refine (hTo _).mono ?_
      rintro e W7 ⟨rfl, b7⟩
      have a7 := a6.below b7
      have B7 := B6.trans (b7.mono B6.size)
      clear c0 c1 c2 c3 X6
      go_wp2_with fail
      go_at_call 25
      refine (pproves_gen a7 hn b p x r (fun X hb => pcheck20 (a7.below hb) hn hrl (hL.below (B7.trans (hb.mono B7.size)) hL.lt) (hE.below (B7.trans (hb.mono B7.size)) hL.lt) (hR.below (B7.trans (hb.mono B7.size)) hL.lt))).mono ?_
      rintro e W8 ⟨rfl, b8⟩
      have B8 := B7.trans (b8.mono B7.size)
      have a8 := a7.below b8
      clear a6 a7
      generalize provesB ls b p x r = z
      go_wp2_with fail
      go_at_call 19
      refine (toS56 (hls.below B8) hn hrl).mono ?_
      rintro e W9 ⟨rfl, _, o9, b9⟩
      have B9 := B8.trans (b9.mono B8.size)
      have a9 := a8.below b9
      have c9 := lines_at hn o9
      clear o9 a8
      go_wp2_with fail
      go_at_call 21
      refine (eqS57 a9 c9 hn).mono ?_
      rintro e W10 ⟨rfl, b10⟩
      go_wp2_with fail
      go_ret
      exact ⟨rfl, B9.trans (b10.mono B9.size)⟩
    · rw [if_neg hf2] at hZ
      generalize hle : (1048576 : Int) - ((ls.length + wtL ls : Nat) : Int) = left at hS hnn hZ
      clear hso hfit hsz hf2 hlo hhi hle
      go_enter Tryz.func5, Tryz.ntmps5
      go_wp2_with fail
      go_at_call 17
      refine hS.mono ?_
      rintro e W1 ⟨rfl, b1⟩
      have B1 := B0.trans (b1.mono B0.size)
      have hX := hX.below b1 hX.lt
      obtain ⟨c0, c1, c2, c3⟩ := hX.cells
      go_wp2_with fail
      go_at_call 22
      refine (hZ _).mono ?_
      rintro e W2 ⟨rfl, b2⟩
      go_wp2_with fail
      go_ret
      exact ⟨rfl, B1.trans (b2.mono B1.size)⟩
  · have hso : szOf (ls.length + wtL ls) 1048576 = -1 := if_neg (by omega)
    rw [hso] at hS
    go_enter Tryz.func5, Tryz.ntmps5
    go_wp2_with fail
    go_at_call 17
    refine hS.mono ?_
    rintro e W1 ⟨rfl, b1⟩
    go_wp2_with fail
    go_ret
    exact ⟨rfl, B0.trans (b1.mono B0.size)⟩
end Go.Proofs.YtgdgbjnmibkmhaaGreatDoor

namespace Go.Proofs.YtgdgbjnmibkmhaaGreatDoor
open Go.ChangeShapes Go.WideShapes Go.ChangeAt Go.RowKit
open Go.ChangeMaps (shut_string)
open Go.Joins (open_agg4 shut_agg4 field_of_Trod)
set_option maxRecDepth 100000

theorem open_trip {H : Type} {enc : TypeId × Value → H} {W : World} {b0 base : Nat} {sp : Nat → Bool} {held : Bool} {rr : Reach} {v : Value} {d : DataW H} {q : List MemPlace} (hv : Value.okWide Tryz.prog W rr b0 23 v) (h : DataW.Trod enc Tryz.prog W base sp held 23 v d q) :
    ∃ (b : Int) (t : ByteArray) (x r : Int), v = .agg #[.int .i64 b, .string t, .int .i64 x, .int .i64 r] ∧ t.size ≤ maxLen ∧ ∀ (W' : World) (base' : Nat) (sp' : Nat → Bool) (held' : Bool), DataW.Trod enc Tryz.prog W' base' sp' held' 23 (.agg #[.int .i64 b, .string t, .int .i64 x, .int .i64 r]) d q := by
  obtain ⟨v0, v1, v2, v3, y0, y1, y2, y3, n, rfl, rfl, rfl, h0, h1, h2, h3⟩ := open_agg4 Tryz.underlying23 (by kernel_rfl) (by kernel_rfl) hv h
  obtain ⟨b, e0, rfl, w0⟩ := DataW.trod_int Tryz.underlying3 h0
  obtain ⟨t, e1, rfl, w1⟩ := DataW.trod_string Tryz.underlying9 h1
  obtain ⟨x, e2, rfl, w2⟩ := DataW.trod_int Tryz.underlying3 h2
  obtain ⟨r, e3, rfl, w3⟩ := DataW.trod_int Tryz.underlying3 h3
  obtain rfl : v0 = .int .i64 b := by simpa using e0
  obtain rfl : v1 = .string t := by simpa using e1
  obtain rfl : v2 = .int .i64 x := by simpa using e2
  obtain rfl : v3 = .int .i64 r := by simpa using e3
  refine ⟨b, t, x, r, rfl, w1, fun W' base' sp' held' => ?_⟩
  exact shut_agg4 Tryz.underlying23 (by kernel_rfl) (by kernel_rfl) (field_of_Trod (shut_int Tryz.underlying3 w0) rfl) (field_of_Trod (shut_string Tryz.underlying9 w1) rfl) (field_of_Trod (shut_int Tryz.underlying3 w2) rfl) (field_of_Trod (shut_int Tryz.underlying3 w3) rfl)
end Go.Proofs.YtgdgbjnmibkmhaaGreatDoor
