/- The program's Unroll and CutLoops. The model: Unroll and CutLoops. -/
import Derived.Test.YtnejphdbnfdbhaaGreatDoorUE
import Derived.Test.YtnejphdbnfdbhaaGreatDoorUG
import Derived.Test.YtnejphdbnfdbhaaGreatDoorUK
namespace Go.Proofs.YtnejphdbnfdbhaaGreatDoor
open Go.ChangeShapes Go.WideShapes Go.ChangeAt Go.RowKit Go.Shelf
attribute [local go_sem] Oper.semAt_some
set_option maxRecDepth 100000

theorem wrA_ne (f : Nat → List UInt8) (j L : Nat) : wrA f j L ≠ [] := by
  cases j with
  | zero => unfold wrA; simp
  | succ j => unfold wrA; split <;> simp
theorem wrN_ne (k : Nat) (nd : Node) (hok : nd.ok) (L : Nat) : wrN k nd L ≠ [] := by
  cases nd with
  | atom a =>
    rcases hok with rfl | rfl | h | ⟨t, _, rfl⟩
    · unfold wrN; simp
    · unfold wrN; simp
    · obtain ⟨c, d, rfl, _⟩ := twos_shape h
      unfold wrN; simp
    · unfold wrN; simp
  | loop p => exact wrA_ne _ _ _
  | pair c p q => unfold wrN; simp
theorem u_new (w : World) (T : Nat) : UIs w.heap.size w.heap.size T [] (w.alloc (.cells #[.int .i64 (T : Int), .pointer none, .slice none 0 0] 90)) :=
  .inl ⟨Nat.le_refl _, .slice none 0 0, heap_alloc_new w _, World.ownsRow_nil _ _ _ _, by simp [Value.ownBlock]⟩
theorem unroll_no {t : ByteArray} {k : Int} (h : unrollOk t k = false) : unrollT t k = [] := by
  unfold unrollOk at h
  unfold unrollT
  split at h
  · rw [h]; rfl
  · rfl
/-- The answer of Unroll. -/
def unrollV (t : ByteArray) (k : Int) : Value := .tuple #[.string ⟨(unrollT t k).toArray⟩, .bool (unrollOk t k)]
theorem unroll_not {t : ByteArray} {k : Int} (h : unrollOk t k = false) : unrollV t k = .tuple #[.string ⟨#[]⟩, .bool false] := by unfold unrollV; rw [unroll_no h, h]

set_option maxHeartbeats 1000000 in
theorem pun_none (t : ByteArray) (k : Int) (w : World) {N : Nat} (hE : Laid3 N w) (hP : readP t.toList = none) :
    Calls Tryz.prog 15 #[.string t, .int .i64 k] w fun e w' => e = .returned (.tuple #[.string ⟨#[]⟩, .bool false]) ∧ Below w.heap.size w w' := by
  have hr := pread40 t.toList w hE
  rw [bytes_eta] at hr
  have HP := Lib.hid hP
  clear hP
  go_enter Tryz.func15, Tryz.ntmps15
  go_wp2_with (go_at_call 37; refine hr.mono ?_; rintro e W1 ⟨hb, hm⟩; rw [HP.out] at hm; obtain ⟨T, v, rfl⟩ := hm)
  go_ret2
  exact ⟨rfl, hb⟩
set_option maxHeartbeats 1000000 in
theorem pun_times (t : ByteArray) (k : Int) (hK : isK k = false) (w : World) {N : Nat} (hE : Laid3 N w) {nd : Node} (hP : readP t.toList = some nd) :
    Calls Tryz.prog 15 #[.string t, .int .i64 k] w fun e w' => e = .returned (.tuple #[.string ⟨#[]⟩, .bool false]) ∧ Below w.heap.size w w' := by
  have hr := pread40 t.toList w hE
  rw [bytes_eta] at hr
  have HP := Lib.hid hP
  have HK := Lib.hid hK
  clear hP hK
  go_enter Tryz.func15, Tryz.ntmps15
  go_wp2_with (first
    | (go_at_call 37; refine hr.mono ?_; rintro e W1 ⟨hb, hm⟩; rw [HP.out] at hm; obtain rfl := hm)
    | (go_at_call 40; refine (ptimes _ _).mono ?_; rintro e w' ⟨rfl, rfl⟩; rw [HK.out]))
  go_ret2
  exact ⟨rfl, hb⟩
set_option maxHeartbeats 1000000 in
theorem pun_ok (t : ByteArray) (T : Nat) (hT : T ≤ 12) (w : World) {N : Nat} (hE : Laid3 N w) {nd : Node} (hP : readP t.toList = some nd) :
    Calls Tryz.prog 15 #[.string t, .int .i64 (T : Int)] w fun e w' => e = .returned (if 60 < (wrN T nd 0).length then .tuple #[.string ⟨#[]⟩, .bool false] else .tuple #[.string ⟨(wrN T nd 0).toArray⟩, .bool true]) ∧ Below w.heap.size w w' := by
  have hr := pread40 t.toList w hE
  rw [bytes_eta] at hr
  obtain ⟨hok, htx, hl, hlo⟩ := readP_iff.1 hP
  have hK : isK (T : Int) = true := inB_yes (by omega)
  have hb1 := bnd_small hT hok hlo (by rw [← htx]; exact hl)
  have hwl := wrN_le T nd 0
  have hne := wrN_ne T nd hok 0
  have hv := fun (W : World) => uvisit T hT nd hok W.heap.size W.heap.size [] _ (u_new W T) (by simp) (by simp; omega)
  have HP := Lib.hid hP
  have HK := Lib.hid hK
  clear hP hK hl htx
  have hv : ∀ W : World, Calls Tryz.prog 52 #[nodeV nd, .iface 85 (.pointer (some ⟨W.heap.size, 0, none⟩))] (W.alloc (.cells #[.int .i64 (T : Int), .pointer none, .slice none 0 0] 90)) (Wrote W.heap.size W.heap.size T [] (wrN T nd 0) (W.alloc (.cells #[.int .i64 (T : Int), .pointer none, .slice none 0 0] 90))) := hv
  generalize wrN T nd 0 = l at hv hwl hne ⊢
  by_cases hL : 60 < l.length
  · rw [if_pos hL]
    go_enter Tryz.func15, Tryz.ntmps15
    go_wp2_with (first
      | (go_at_call 37; refine hr.mono ?_; rintro e W1 ⟨hb, hm⟩; rw [HP.out] at hm; obtain rfl := hm)
      | (go_at_call 40; refine (ptimes _ _).mono ?_; rintro e w' ⟨rfl, rfl⟩; rw [HK.out]))
    refine (hv W1).mono ?_
    rintro e W2 ⟨rfl, hU, hb2⟩
    rw [List.nil_append] at hU
    have hlong := fun w' h' => u_long W1.heap.size W1.heap.size T (Lib.byteCells l) w' h' (by rw [Lib.byteCells_length]; omega)
    have htext := fun w' h' => utext W1.heap.size W1.heap.size T l w' h' hne
    rw [Lib.byteCells_length] at hlong
    have hal : Below W1.heap.size W1 (W1.alloc (.cells #[.int .i64 (T : Int), .pointer none, .slice none 0 0] 90)) := (Below.refl _ _).alloc (Nat.le_refl _) _
    have hb3 := hb.trans ((hal.trans hb2).mono hb.size)
    rw [decide_eq_true hL] at hlong
    go_wp2_with (go_at_call 53; refine (hlong _ hU).mono ?_; rintro e w' ⟨rfl, rfl⟩)
    go_ret2
    exact ⟨rfl, hb3⟩
  · rw [if_neg hL]
    go_enter Tryz.func15, Tryz.ntmps15
    go_wp2_with (first
      | (go_at_call 37; refine hr.mono ?_; rintro e W1 ⟨hb, hm⟩; rw [HP.out] at hm; obtain rfl := hm)
      | (go_at_call 40; refine (ptimes _ _).mono ?_; rintro e w' ⟨rfl, rfl⟩; rw [HK.out]))
    refine (hv W1).mono ?_
    rintro e W2 ⟨rfl, hU, hb2⟩
    rw [List.nil_append] at hU
    have hlong := fun w' h' => u_long W1.heap.size W1.heap.size T (Lib.byteCells l) w' h' (by rw [Lib.byteCells_length]; omega)
    have htext := fun w' h' => utext W1.heap.size W1.heap.size T l w' h' hne
    rw [Lib.byteCells_length] at hlong
    have hal : Below W1.heap.size W1 (W1.alloc (.cells #[.int .i64 (T : Int), .pointer none, .slice none 0 0] 90)) := (Below.refl _ _).alloc (Nat.le_refl _) _
    have hb3 := hb.trans ((hal.trans hb2).mono hb.size)
    rw [decide_eq_false hL] at hlong
    go_wp2_with (first
      | (go_at_call 53; refine (hlong _ hU).mono ?_; rintro e w' ⟨rfl, rfl⟩)
      | (go_at_call 54; refine (htext _ hU).mono ?_; rintro e W3 ⟨rfl, hb4⟩))
    go_ret2
    exact ⟨rfl, hb3.trans (hb4.mono hb.size)⟩
end Go.Proofs.YtnejphdbnfdbhaaGreatDoor

namespace Go.Proofs.YtnejphdbnfdbhaaGreatDoor
open Go.ChangeShapes Go.WideShapes Go.ChangeAt Go.RowKit Go.Shelf
attribute [local go_sem] Oper.semAt_some
set_option maxRecDepth 100000

/-- **THE MODEL'S TEXT OF A PROGRAM UNROLLED.** -/
theorem nu30 (T : Nat) (hT : T ≤ 12) : ∀ (nd : Node), nd.ok → nd.text.length ≤ 60 → NU T nd
  | .atom a, _, _ => nu_atom T a
  | .loop p, hok, hl => by
    have e : (Node.loop p).text.length = p.text.length + 2 := by show (123 :: (p.text ++ [125])).length = _; simp
    exact nu_loop T hT p (by omega) (nu30 T hT p hok (by omega))
  | .pair k p q, hok, hl => by
    have e : (Node.pair k p q).text.length = p.text.length + q.text.length + 3 := by show (40 :: (p.text ++ k :: (q.text ++ [41]))).length = _; simp; omega
    exact nu_pair T k hok.1 p q (by omega) (by omega) (nu30 T hT p hok.2.1 (by omega)) (nu30 T hT q hok.2.2 (by omega))
/-- What the maker says of a text alone. -/
def aloneV (out : ByteArray) : Value := .tuple #[.string (if isP out.toList then out else ⟨#[]⟩), .bool (isP out.toList)]
set_option maxHeartbeats 1000000 in
theorem made_alone (out : ByteArray) (ho : out.size ≤ 9000000) (W : World) :
    Calls Tryz.prog 56 #[.string out, .slice none 0 0] W fun e W' => e = .returned (aloneV out) ∧ Below W.heap.size W W' := by
  have hv := valid21 out ho
  unfold aloneV
  cases hp : isP out.toList with
  | true =>
    rw [hp] at hv
    clear hp
    go_enter Tryz.func56, Tryz.ntmps56
    go_wp2
    go_loopw [10] (fun i wr => i = .int .i64 0 ∧ wr = W) (fun i _ => 0)
    case atStart => exact ⟨rfl, rfl⟩
    case round =>
      obtain ⟨rfl, rfl⟩ := hrel
      go_wp2_with (go_at_call 82; refine (hv _).mono ?_; rintro e W1 ⟨rfl, hb⟩)
      go_ret2
      exact ⟨rfl, hb⟩
  | false =>
    rw [hp] at hv
    clear hp
    go_enter Tryz.func56, Tryz.ntmps56
    go_wp2
    go_loopw [10] (fun i wr => i = .int .i64 0 ∧ wr = W) (fun i _ => 0)
    case atStart => exact ⟨rfl, rfl⟩
    case round =>
      obtain ⟨rfl, rfl⟩ := hrel
      go_wp2_with (go_at_call 82; refine (hv _).mono ?_; rintro e W1 ⟨rfl, hb⟩)
      go_ret2
      exact ⟨rfl, hb⟩
theorem alone_munN {nd : Node} (hok : nd.ok) (k : Nat) : aloneV ⟨(munN k nd).toArray⟩ = if (unrN k nd).text.length ≤ 60 then .tuple #[.string ⟨(unrN k nd).text.toArray⟩, .bool true] else .tuple #[.string ⟨#[]⟩, .bool false] := by
  obtain ⟨h1, h2⟩ := munN_fits k nd
  have e : (⟨(munN k nd).toArray⟩ : ByteArray).toList = munN k nd := by rw [Lib.toList_data]
  unfold aloneV isP
  rw [e]
  by_cases hl : (unrN k nd).text.length ≤ 60
  · rw [if_pos hl, h1 hl, unr_read hok k hl]
    rfl
  · rw [if_neg hl]
    have : readP (munN k nd) = none := by
      cases hr : readP (munN k nd) with
      | none => rfl
      | some x => exact absurd (readP_iff.1 hr).2.2.1 (by have := h2 (by omega); omega)
    rw [this]
    rfl
theorem unrollV_at {t : ByteArray} {nd : Node} (hP : readP t.toList = some nd) {T : Nat} (hT : T ≤ 12) : unrollV t (T : Int) = if (unrN T nd).text.length ≤ 60 then .tuple #[.string ⟨(unrN T nd).text.toArray⟩, .bool true] else .tuple #[.string ⟨#[]⟩, .bool false] := by
  have hK : isK (T : Int) = true := inB_yes (by omega)
  unfold unrollV unrollT unrollOk
  rw [hP, hK, Int.toNat_natCast]
  dsimp only
  by_cases hl : (unrN T nd).text.length ≤ 60
  · rw [if_pos hl, decide_eq_true hl]; rfl
  · rw [if_neg hl, decide_eq_false hl]; rfl
theorem unroll_bad {t : ByteArray} {k : Int} (h : readP t.toList = none ∨ isK k = false) : unrollOk t k = false := by
  unfold unrollOk
  split
  · rename_i nd hP
    rcases h with h | h
    · rw [hP] at h; cases h
    · rw [h]; rfl
  · rfl
set_option maxHeartbeats 2000000 in
theorem munroll (t : ByteArray) (ht : t.size ≤ 9000000) (k : Int) (W : World) :
    Calls Tryz.prog 16 #[.string t, .int .i64 k] W fun e W' => e = .returned (unrollV t k) ∧ Below W.heap.size W W' := by
  have hr := read42 t ht
  cases hP : readP t.toList with
  | none =>
    rw [unroll_not (unroll_bad (.inl hP))]
    have HP := Lib.hid hP
    clear hP
    go_enter Tryz.func16, Tryz.ntmps16
    go_wp2_with (go_at_call 55; refine (hr _).mono ?_; rintro e W1 ⟨hb1, hm⟩; rw [HP.out] at hm; obtain rfl := hm)
    go_ret2
    exact ⟨rfl, hb1.alloc hb1.size _⟩
  | some nd =>
    cases hK : isK k with
    | false =>
      rw [unroll_not (unroll_bad (.inr hK))]
      have HP := Lib.hid hP
      have HK := Lib.hid hK
      clear hP hK
      go_enter Tryz.func16, Tryz.ntmps16
      go_wp2_with (first
        | (go_at_call 55; refine (hr _).mono ?_; rintro e W1 ⟨hb1, hm⟩; rw [HP.out] at hm; obtain ⟨kk, s1, ad, n, cap, rfl, hnd⟩ := hm)
        | (go_at_call 44; refine (inB40 _ _ _ _).mono ?_; rintro e w' ⟨rfl, rfl⟩; rw [show inB k 0 12 = false from HK.out]))
      go_ret2
      exact ⟨rfl, hb1.alloc hb1.size _⟩
    | true =>
      obtain ⟨T, hT, rfl⟩ : ∃ T : Nat, T ≤ 12 ∧ k = (T : Int) := by
        have := of_decide_eq_true hK
        exact ⟨k.toNat, by omega, by omega⟩
      obtain ⟨hok, htx, hl, hlo⟩ := readP_iff.1 hP
      have hl60 : nd.text.length ≤ 60 := by rw [← htx]; exact hl
      rw [unrollV_at hP hT, ← alone_munN hok T]
      have hsz := munN_le T nd
      have hal := made_alone ⟨(munN T nd).toArray⟩ (by simp [ByteArray.size]; omega)
      have hnu := nu30 T hT nd hok hl60
      unfold NU at hnu
      have HP := Lib.hid hP
      have HK := Lib.hid hK
      clear hP hK hl htx
      unfold aloneV at hal ⊢
      generalize isP (⟨(munN T nd).toArray⟩ : ByteArray).toList = b at hal ⊢
      generalize (⟨(munN T nd).toArray⟩ : ByteArray) = tx at hal hnu ⊢
      generalize (if b = true then tx else ⟨#[]⟩) = out at hal ⊢
      go_enter Tryz.func16, Tryz.ntmps16
      go_wp2_with (first
        | (go_at_call 55; refine (hr _).mono ?_; rintro e W1 ⟨hb1, hm⟩; rw [HP.out] at hm; obtain ⟨kk, s1, ad, n, cap, rfl, hnd⟩ := hm)
        | (go_at_call 44; refine (inB40 _ _ _ _).mono ?_; rintro e w' ⟨rfl, rfl⟩; rw [show inB (T : Int) 0 12 = true from HK.out]))
      have hal2 : Below W1.heap.size W1 (W1.alloc (.cells #[.int .u8 kk, .string s1, .slice ad n cap] 69)) := (Below.refl _ W1).alloc (Nat.le_refl _) _
      have hN := hnd.below hal2 (Nat.le_refl _)
      refine (hnu _ _ _ kk s1 ad n cap hN hal2.size).mono ?_
      rintro e W2 ⟨rfl, hb2⟩
      have h1 := hb1.trans (hal2.mono hb1.size)
      have h2 := h1.trans (hb2.mono h1.size)
      go_wp2_with (go_at_call 56; refine (hal _).mono ?_; rintro e W3 ⟨rfl, hb3⟩)
      go_ret2
      exact ⟨rfl, h2.trans (hb3.mono h2.size)⟩
theorem munroll' (t : ByteArray) (ht : t.size ≤ 9000000) (k : Int) (W : World) :
    Calls Tryz.prog 16 #[.string t, .int .i64 k] W fun e W' => e = .returned (.tuple #[.string ⟨(unrollT t k).toArray⟩, .bool (unrollOk t k)]) ∧ Below W.heap.size W W' := munroll t ht k W
theorem mcut (t : ByteArray) (ht : t.size ≤ 9000000) (W : World) :
    Calls Tryz.prog 18 #[.string t] W fun e W' => e = .returned (.tuple #[.string ⟨(unrollT t 0).toArray⟩, .bool (unrollOk t 0)]) ∧ Below W.heap.size W W' := by
  have hu := munroll' t ht 0
  generalize unrollT t 0 = z at hu ⊢
  generalize unrollOk t 0 = b at hu ⊢
  go_enter Tryz.func18, Tryz.ntmps18
  go_wp2_with (go_at_call 16; refine (hu _).mono ?_; rintro e W1 ⟨rfl, hb1⟩)
  go_ret2
  exact ⟨rfl, hb1⟩
theorem wrN_at (T : Nat) (nd : Node) : (if 60 < (wrN T nd 0).length then Value.tuple #[.string ⟨#[]⟩, .bool false] else .tuple #[.string ⟨(wrN T nd 0).toArray⟩, .bool true]) = if (unrN T nd).text.length ≤ 60 then .tuple #[.string ⟨(unrN T nd).text.toArray⟩, .bool true] else .tuple #[.string ⟨#[]⟩, .bool false] := by
  obtain ⟨h1, h2⟩ := wrN_fits T nd 0
  by_cases hl : (unrN T nd).text.length ≤ 60
  · rw [if_pos hl, h1 (by omega), if_neg (by omega)]
  · rw [if_neg hl, if_pos (by have := h2 (by omega); omega)]
theorem punroll (t : ByteArray) (k : Int) (W : World) {N : Nat} (hE : Laid3 N W) :
    Calls Tryz.prog 15 #[.string t, .int .i64 k] W fun e W' => e = .returned (.tuple #[.string ⟨(unrollT t k).toArray⟩, .bool (unrollOk t k)]) ∧ Below W.heap.size W W' := by
  show Calls _ _ _ _ fun e W' => e = .returned (unrollV t k) ∧ _
  cases hP : readP t.toList with
  | none =>
    rw [unroll_not (unroll_bad (.inl hP))]
    exact pun_none t k W hE hP
  | some nd =>
    cases hK : isK k with
    | false =>
      rw [unroll_not (unroll_bad (.inr hK))]
      exact pun_times t k hK W hE hP
    | true =>
      obtain ⟨T, hT, rfl⟩ : ∃ T : Nat, T ≤ 12 ∧ k = (T : Int) := by
        have := of_decide_eq_true hK
        exact ⟨k.toNat, by omega, by omega⟩
      rw [unrollV_at hP hT, ← wrN_at]
      exact pun_ok t T hT W hE hP
theorem pcut (t : ByteArray) (W : World) {N : Nat} (hE : Laid3 N W) :
    Calls Tryz.prog 17 #[.string t] W fun e W' => e = .returned (.tuple #[.string ⟨(unrollT t 0).toArray⟩, .bool (unrollOk t 0)]) ∧ Below W.heap.size W W' := by
  have hu := punroll t 0 W hE
  generalize unrollT t 0 = z at hu ⊢
  generalize unrollOk t 0 = b at hu ⊢
  go_enter Tryz.func17, Tryz.ntmps17
  go_wp2_with (go_at_call 15; refine hu.mono ?_; rintro e W1 ⟨rfl, hb1⟩)
  go_ret2
  exact ⟨rfl, hb1⟩
end Go.Proofs.YtnejphdbnfdbhaaGreatDoor
