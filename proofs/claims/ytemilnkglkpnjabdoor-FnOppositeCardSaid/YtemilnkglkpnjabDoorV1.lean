/- The law on where tests hold: its walk. -/
import Derived.Test.YtemilnkglkpnjabDoorD1
namespace Go.Proofs.YtemilnkglkpnjabDoor
open Go.ChangeShapes Go.WideShapes Go.ChangeAt Go.RowKit Go.Shelf
set_option maxRecDepth 100000
attribute [local go_sem] Oper.semAt_some

theorem where_bd : (tests.all fun p => decide (0 ≤ whereL p ∧ whereL p ≤ 511)) = true := by decide +kernel
theorem where_bd' {p : List UInt8} (h : p ∈ tests) : 0 ≤ whereL p ∧ whereL p ≤ 511 := of_decide_eq_true (List.all_eq_true.1 where_bd p h)

theorem within19 (a b : Int) (ha : 0 ≤ a ∧ a ≤ 511) (hb : 0 ≤ b ∧ b ≤ 511) (w : World) :
    Calls Tryd.prog 19 #[.int .i64 a, .int .i64 b] w fun e w' => e = .returned (.bool (bits .andNot .i64 a b == 0)) ∧ w = w' := by
  have h1 : isSet a = true := decide_eq_true ha
  have h2 : isSet b = true := decide_eq_true hb
  go_enter Tryd.func19, Tryd.ntmps19
  go_wp2_with (first | (go_at_call_of 44 (Value.int IntKind.i64 a); refine (sv24 a _).mono ?_; rintro e w' ⟨rfl, rfl⟩; rw [h1]) | (go_at_call_of 44 (Value.int IntKind.i64 b); refine (sv24 b _).mono ?_; rintro e w' ⟨rfl, rfl⟩; rw [h2]))
  go_ret
  exact ⟨rfl, rfl⟩

theorem within_all : (tests.all fun p => (List.range 9).all fun k => (bits .andNot .i64 (2 ^ k) (whereL p) == 0) == holdsL p k) = true := by decide +kernel
theorem within_holds {p : List UInt8} (h : p ∈ tests) {k : Nat} (hk : k ≤ 8) : (bits .andNot .i64 (2 ^ k) (whereL p) == 0) = holdsL p k := by
  have h1 := List.all_eq_true.1 within_all p h
  have h2 := List.all_eq_true.1 h1 k (List.mem_range.2 (by omega))
  simpa using h2
theorem holdsT_at {t : ByteArray} (h : isTest t = true) {k : Nat} (hk : k ≤ 8) : holdsT t (k : Int) = holdsL t.toList k := by
  unfold holdsT
  rw [h, inB_yes ⟨by omega, by omega⟩]
  rfl
theorem first_some {p : List UInt8} (h : p ∈ tests) : ∃ q, firstOf (whereL p) = some q ∧ q ∈ tests ∧ whereL q = whereL p := by
  cases hf : firstOf (whereL p) with
  | none =>
    have := List.find?_eq_none.1 hf p h
    simp at this
  | some q =>
    have h1 := List.find?_some hf
    exact ⟨q, rfl, List.mem_of_find?_eq_some hf, by simpa using h1⟩
theorem whereT_list {q : List UInt8} (h : q ∈ tests) : whereT ⟨q.toArray⟩ = whereL q ∧ isTest ⟨q.toArray⟩ = true := by
  have e : (⟨q.toArray⟩ : ByteArray).toList = q := by rw [Lib.toList_data]
  have ht : isTest ⟨q.toArray⟩ = true := decide_eq_true (by rw [e]; exact h)
  exact ⟨by unfold whereT; rw [if_pos ht, e], ht⟩

theorem long_where (w : World) (a a' : Option Addr) (len cap len' cap' : Nat) (h : 1048576 < len ∨ (len ≤ 1048576 ∧ 1048576 < len')) :
    Calls Tryd.prog 3 #[.slice a len cap, .slice a' len' cap'] w fun e w' => e = .returned (.bool true) ∧ Below w.heap.size w w' := by
  rcases h with h | ⟨h, h'⟩
  · have h1 : (1048576 : Int) < (len : Int) := by omega
    go_enter Tryd.func3, Tryd.ntmps3
    go_wp2
    go_ret
    exact ⟨rfl, Below.refl _ _⟩
  · have h1 : (len : Int) ≤ 1048576 := by omega
    have h2 : (1048576 : Int) < (len' : Int) := by omega
    go_enter Tryd.func3, Tryd.ntmps3
    go_wp2
    go_ret
    exact ⟨rfl, Below.refl _ _⟩

set_option maxHeartbeats 8000000 in
theorem where_walk (w : World) (a a' : Option Addr) (len cap len' cap' : Nat) (hc : Code w.heap.size w a len cap) (hc' : Code w.heap.size w a' len' cap') (hl : len ≤ 1048576) (hl' : len' ≤ 1048576) {N : Nat} (hL : Laid N w) :
    Calls Tryd.prog 3 #[.slice a len cap, .slice a' len' cap'] w fun e w' => e = .returned (.bool true) ∧ Below w.heap.size w w' := by
  have l1 : (len : Int) ≤ 1048576 := by omega
  have l2 : (len' : Int) ≤ 1048576 := by omega
  have HC := Lib.hid hc
  have HC' := Lib.hid hc'
  clear hc hc'
  go_enter Tryd.func3, Tryd.ntmps3
  go_wp2_with fail
  go_at_call 11
  refine (drawW11 HC.out (Nat.le_refl _)).mono ?_
  rintro e W1 ⟨t, ht, rfl, B1⟩
  go_wp2_with fail
  go_at_call 12
  refine (where12 t _ (hL.below B1 hL.lt)).mono ?_
  rintro e W2 ⟨rfl, b2⟩
  have B2 := B1.trans (b2.mono B1.size)
  go_wp2_with fail
  go_at_call 13
  refine (where13 t _).mono ?_
  rintro e W3 ⟨rfl, b3⟩
  have B3 := B2.trans (b3.mono B2.size)
  go_wp2_with fail
  go_at_call 14
  refine (drawH14 (HC'.out.below B3) B3.size).mono ?_
  rintro e W4 ⟨u, s, hu, rfl, b4⟩
  have B4 := B3.trans (b4.mono B3.size)
  cases hok : isTest t with
  | false =>
    have H := Lib.hid hok
    clear hok
    go_wp2_with fail
    go_at_call 15
    refine (valid15 t _ (hL.below B4 hL.lt)).mono ?_
    rintro e W5 ⟨rfl, b5⟩
    have B5 := B4.trans (b5.mono B4.size)
    rw [H.out]
    go_wp2_with fail
    go_at_call 16
    refine (valid16 t _).mono ?_
    rintro e W6 ⟨rfl, b6⟩
    have B6 := B5.trans (b6.mono B5.size)
    rw [H.out]
    go_wp2_with fail
    go_at_call 17
    refine (holds17 u s _ (hL.below B6 hL.lt)).mono ?_
    rintro e W7 ⟨rfl, b7⟩
    have B7 := B6.trans (b7.mono B6.size)
    go_wp2_with fail
    go_at_call 18
    refine (holds18 u s _).mono ?_
    rintro e W8 ⟨rfl, b8⟩
    have B8 := B7.trans (b8.mono B7.size)
    go_wp2_with fail
    go_at_call 15
    refine (valid15 t _ (hL.below B8 hL.lt)).mono ?_
    rintro e W9 ⟨rfl, b9⟩
    have B9 := B8.trans (b9.mono B8.size)
    rw [H.out]
    go_wp2_with fail
    go_at_call 16
    refine (valid16 t _).mono ?_
    rintro e W10 ⟨rfl, b10⟩
    have B10 := B9.trans (b10.mono B9.size)
    rw [H.out]
    go_wp2_with fail
    go_at_call 17
    refine (holds17 u s _ (hL.below B10 hL.lt)).mono ?_
    rintro e W11 ⟨rfl, b11⟩
    have B11 := B10.trans (b11.mono B10.size)
    go_wp2_with fail
    go_at_call 18
    refine (holds18 u s _).mono ?_
    rintro e W12 ⟨rfl, b12⟩
    have B12 := B11.trans (b12.mono B11.size)
    go_wp2
    go_ret
    exact ⟨rfl, B12⟩
  | true =>
    have H := Lib.hid hok
    have hwt : whereT t = whereL t.toList := by unfold whereT; rw [if_pos hok]
    rw [hwt]
    clear hok hwt
    obtain ⟨p, hp⟩ : ∃ p, p = t.toList := ⟨_, rfl⟩
    have hpt : p ∈ tests := by rw [hp]; exact mem_of H.out
    have HP := Lib.hid hpt
    have HE := Lib.hid hp
    rw [← hp]
    clear hp hpt
    go_wp2_with fail
    go_at_call 15
    refine (valid15 t _ (hL.below B4 hL.lt)).mono ?_
    rintro e W5 ⟨rfl, b5⟩
    have B5 := B4.trans (b5.mono B4.size)
    rw [H.out]
    go_wp2_with fail
    go_at_call 16
    refine (valid16 t _).mono ?_
    rintro e W6 ⟨rfl, b6⟩
    have B6 := B5.trans (b6.mono B5.size)
    rw [H.out]
    go_wp2_with fail
    go_at_call 17
    refine (holds17 u s _ (hL.below B6 hL.lt)).mono ?_
    rintro e W7 ⟨rfl, b7⟩
    have B7 := B6.trans (b7.mono B6.size)
    go_wp2_with fail
    go_at_call 18
    refine (holds18 u s _).mono ?_
    rintro e W8 ⟨rfl, b8⟩
    have B8 := B7.trans (b8.mono B7.size)
    go_wp2_with fail
    go_loopw [104] (fun i wr => ∃ k : Nat, k ≤ 9 ∧ i = .int .i64 k ∧ Below w.heap.size w wr) (fun i _ => 9 - (intOf i).toNat)
    case atStart => exact ⟨0, by omega, rfl, B8⟩
    case round =>
      obtain ⟨k, hk, rfl, hB⟩ := hrel
      by_cases hlt : k < 9
      · have k0 : (0 : Int) ≤ (k : Int) := by omega
        have k8 : (k : Int) ≤ 8 := by omega
        have tz0 := (pow_bd9 ⟨k, by omega⟩).1
        have tz1 := (pow_bd9 ⟨k, by omega⟩).2
        dsimp only at tz0 tz1
        have hw := where_bd' HP.out
        go_wp2_with fail
        go_at_call 17
        refine (holds17 t (k : Int) _ (hL.below hB hL.lt)).mono ?_
        rintro e Wa ⟨rfl, ba⟩
        have Ba := hB.trans (ba.mono hB.size)
        rw [holdsT_at H.out (by omega), ← HE.out]
        go_wp2_with fail
        go_at_call 19
        refine (within19 _ _ ⟨tz0, by omega⟩ hw _).mono ?_
        rintro e Wb ⟨rfl, rfl⟩
        rw [within_holds HP.out (by omega)]
        go_wp2_with fail
        go_roundw
        case rel => exact ⟨k + 1, by omega, by go_num, Ba⟩
        case measure => simp [intOf]; omega
      · obtain rfl : k = 9 := by omega
        obtain ⟨q, hq, hqt, hqw⟩ := first_some HP.out
        have hT : firstT (whereL p) = q := by unfold firstT; rw [hq]; rfl
        have hF : firstB (whereL p) = true := by unfold firstB; rw [hq]; rfl
        have HT := Lib.hid hT
        have HF := Lib.hid hF
        have HQ := Lib.hid hqt
        have HW := Lib.hid hqw
        clear hT hF hq hqt hqw
        go_wp2_with fail
        go_at_call 20
        refine (for20 (whereL p) _ (hL.below hB hL.lt)).mono ?_
        rintro e Wa ⟨rfl, ba⟩
        have Ba := hB.trans (ba.mono hB.size)
        rw [HT.out, HF.out]
        go_wp2_with fail
        go_at_call 12
        refine (where12 _ _ (hL.below Ba hL.lt)).mono ?_
        rintro e Wb ⟨rfl, bb⟩
        have Bb := Ba.trans (bb.mono Ba.size)
        rw [(whereT_list HQ.out).1, (whereT_list HQ.out).2, HW.out]
        go_wp2
        go_ret
        exact ⟨rfl, Bb⟩

theorem walkWhere (a0 : Option Addr) (len0 cap0 : Nat) (z0 : List Int) (a1 : Option Addr) (len1 cap1 : Nat) (z1 : List Int) (w : World) (w0 : IsRow .u8 w a0 len0 cap0 z0) (w1 : IsRow .u8 w a1 len1 cap1 z1) {N : Nat} (hL : Laid N w) :
    Calls Tryd.prog 3 #[.slice a0 len0 cap0, .slice a1 len1 cap1] w fun e w' => e = .returned (.bool true) ∧ Below w.heap.size w w' := by
  by_cases h : len0 ≤ 1048576
  · by_cases h' : len1 ≤ 1048576
    · exact where_walk w a0 a1 len0 cap0 len1 cap1 (Code.ofRow w0) (Code.ofRow w1) h h' hL
    · exact long_where w a0 a1 len0 cap0 len1 cap1 (.inr ⟨h, by omega⟩)
  · exact long_where w a0 a1 len0 cap0 len1 cap1 (.inl (by omega))
end Go.Proofs.YtemilnkglkpnjabDoor

