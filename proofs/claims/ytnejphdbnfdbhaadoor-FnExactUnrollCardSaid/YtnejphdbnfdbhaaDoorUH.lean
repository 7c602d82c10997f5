/- The program's Unroll and CutLoops. -/
import Derived.Test.YtnejphdbnfdbhaaDoorUE
import Derived.Test.YtnejphdbnfdbhaaDoorUG
namespace Go.Proofs.YtnejphdbnfdbhaaDoor
open Go.ChangeShapes Go.WideShapes Go.ChangeAt Go.RowKit Go.Shelf
attribute [local go_sem] Oper.semAt_some
set_option maxRecDepth 100000

theorem wrA_ne (f : Nat → List UInt8) (j L : Nat) : wrA f j L ≠ [] := by
  cases j with
  | zero => unfold wrA; simp
  | succ j => unfold wrA; split <;> simp
theorem wrN_ne (k : Nat) (nd : Node) (hok : nd.ok) (L : Nat) : wrN k nd L ≠ [] := by
  cases nd with
  | atom a =>
    rcases hok with rfl | rfl | h | ⟨t, _, rfl⟩
    · unfold wrN; simp
    · unfold wrN; simp
    · obtain ⟨c, d, rfl, _⟩ := twos_shape h
      unfold wrN; simp
    · unfold wrN; simp
  | loop p => exact wrA_ne _ _ _
  | pair c p q => unfold wrN; simp
theorem u_new (w : World) (T : Nat) : UIs w.heap.size w.heap.size T [] (w.alloc (.cells #[.int .i64 (T : Int), .pointer none, .slice none 0 0] 65)) :=
  .inl ⟨Nat.le_refl _, .slice none 0 0, heap_alloc_new w _, World.ownsRow_nil _ _ _ _, by simp [Value.ownBlock]⟩
theorem unroll_no {t : ByteArray} {k : Int} (h : unrollOk t k = false) : unrollT t k = [] := by
  unfold unrollOk at h
  unfold unrollT
  split at h
  · rw [h]; rfl
  · rfl
/-- The answer of Unroll. -/
def unrollV (t : ByteArray) (k : Int) : Value := .tuple #[.string ⟨(unrollT t k).toArray⟩, .bool (unrollOk t k)]
theorem unroll_not {t : ByteArray} {k : Int} (h : unrollOk t k = false) : unrollV t k = .tuple #[.string ⟨#[]⟩, .bool false] := by unfold unrollV; rw [unroll_no h, h]

set_option maxHeartbeats 1000000 in
theorem pun_none (t : ByteArray) (k : Int) (w : World) {N : Nat} (hE : Laid3 N w) (hP : readP t.toList = none) :
    Calls Tryd.prog 11 #[.string t, .int .i64 k] w fun e w' => e = .returned (.tuple #[.string ⟨#[]⟩, .bool false]) ∧ Below w.heap.size w w' := by
  have hr := pread40 t.toList w hE
  rw [bytes_eta] at hr
  have HP := Lib.hid hP
  clear hP
  go_enter Tryd.func11, Tryd.ntmps11
  go_wp2_with (go_at_call 22; refine hr.mono ?_; rintro e W1 ⟨hb, hm⟩; rw [HP.out] at hm; obtain ⟨T, v, rfl⟩ := hm)
  go_ret2
  exact ⟨rfl, hb⟩
set_option maxHeartbeats 1000000 in
theorem pun_times (t : ByteArray) (k : Int) (hK : isK k = false) (w : World) {N : Nat} (hE : Laid3 N w) {nd : Node} (hP : readP t.toList = some nd) :
    Calls Tryd.prog 11 #[.string t, .int .i64 k] w fun e w' => e = .returned (.tuple #[.string ⟨#[]⟩, .bool false]) ∧ Below w.heap.size w w' := by
  have hr := pread40 t.toList w hE
  rw [bytes_eta] at hr
  have HP := Lib.hid hP
  have HK := Lib.hid hK
  clear hP hK
  go_enter Tryd.func11, Tryd.ntmps11
  go_wp2_with (first
    | (go_at_call 22; refine hr.mono ?_; rintro e W1 ⟨hb, hm⟩; rw [HP.out] at hm; obtain rfl := hm)
    | (go_at_call 25; refine (ptimes _ _).mono ?_; rintro e w' ⟨rfl, rfl⟩; rw [HK.out]))
  go_ret2
  exact ⟨rfl, hb⟩
set_option maxHeartbeats 1000000 in
theorem pun_ok (t : ByteArray) (T : Nat) (hT : T ≤ 12) (w : World) {N : Nat} (hE : Laid3 N w) {nd : Node} (hP : readP t.toList = some nd) :
    Calls Tryd.prog 11 #[.string t, .int .i64 (T : Int)] w fun e w' => e = .returned (if 60 < (wrN T nd 0).length then .tuple #[.string ⟨#[]⟩, .bool false] else .tuple #[.string ⟨(wrN T nd 0).toArray⟩, .bool true]) ∧ Below w.heap.size w w' := by
  have hr := pread40 t.toList w hE
  rw [bytes_eta] at hr
  obtain ⟨hok, htx, hl, hlo⟩ := readP_iff.1 hP
  have hK : isK (T : Int) = true := inB_yes (by omega)
  have hb1 := bnd_small hT hok hlo (by rw [← htx]; exact hl)
  have hwl := wrN_le T nd 0
  have hne := wrN_ne T nd hok 0
  have hv := fun (W : World) => uvisit T hT nd hok W.heap.size W.heap.size [] _ (u_new W T) (by simp) (by simp; omega)
  have HP := Lib.hid hP
  have HK := Lib.hid hK
  clear hP hK hl htx
  have hv : ∀ W : World, Calls Tryd.prog 31 #[nodeV nd, .iface 59 (.pointer (some ⟨W.heap.size, 0, none⟩))] (W.alloc (.cells #[.int .i64 (T : Int), .pointer none, .slice none 0 0] 65)) (Wrote W.heap.size W.heap.size T [] (wrN T nd 0) (W.alloc (.cells #[.int .i64 (T : Int), .pointer none, .slice none 0 0] 65))) := hv
  generalize wrN T nd 0 = l at hv hwl hne ⊢
  by_cases hL : 60 < l.length
  · rw [if_pos hL]
    go_enter Tryd.func11, Tryd.ntmps11
    go_wp2_with (first
      | (go_at_call 22; refine hr.mono ?_; rintro e W1 ⟨hb, hm⟩; rw [HP.out] at hm; obtain rfl := hm)
      | (go_at_call 25; refine (ptimes _ _).mono ?_; rintro e w' ⟨rfl, rfl⟩; rw [HK.out]))
    refine (hv W1).mono ?_
    rintro e W2 ⟨rfl, hU, hb2⟩
    rw [List.nil_append] at hU
    have hlong := fun w' h' => u_long W1.heap.size W1.heap.size T (Lib.byteCells l) w' h' (by rw [Lib.byteCells_length]; omega)
    have htext := fun w' h' => utext W1.heap.size W1.heap.size T l w' h' hne
    rw [Lib.byteCells_length] at hlong
    have hal : Below W1.heap.size W1 (W1.alloc (.cells #[.int .i64 (T : Int), .pointer none, .slice none 0 0] 65)) := (Below.refl _ _).alloc (Nat.le_refl _) _
    have hb3 := hb.trans ((hal.trans hb2).mono hb.size)
    rw [decide_eq_true hL] at hlong
    go_wp2_with (go_at_call 32; refine (hlong _ hU).mono ?_; rintro e w' ⟨rfl, rfl⟩)
    go_ret2
    exact ⟨rfl, hb3⟩
  · rw [if_neg hL]
    go_enter Tryd.func11, Tryd.ntmps11
    go_wp2_with (first
      | (go_at_call 22; refine hr.mono ?_; rintro e W1 ⟨hb, hm⟩; rw [HP.out] at hm; obtain rfl := hm)
      | (go_at_call 25; refine (ptimes _ _).mono ?_; rintro e w' ⟨rfl, rfl⟩; rw [HK.out]))
    refine (hv W1).mono ?_
    rintro e W2 ⟨rfl, hU, hb2⟩
    rw [List.nil_append] at hU
    have hlong := fun w' h' => u_long W1.heap.size W1.heap.size T (Lib.byteCells l) w' h' (by rw [Lib.byteCells_length]; omega)
    have htext := fun w' h' => utext W1.heap.size W1.heap.size T l w' h' hne
    rw [Lib.byteCells_length] at hlong
    have hal : Below W1.heap.size W1 (W1.alloc (.cells #[.int .i64 (T : Int), .pointer none, .slice none 0 0] 65)) := (Below.refl _ _).alloc (Nat.le_refl _) _
    have hb3 := hb.trans ((hal.trans hb2).mono hb.size)
    rw [decide_eq_false hL] at hlong
    go_wp2_with (first
      | (go_at_call 32; refine (hlong _ hU).mono ?_; rintro e w' ⟨rfl, rfl⟩)
      | (go_at_call 33; refine (htext _ hU).mono ?_; rintro e W3 ⟨rfl, hb4⟩))
    go_ret2
    exact ⟨rfl, hb3.trans (hb4.mono hb.size)⟩
end Go.Proofs.YtnejphdbnfdbhaaDoor

