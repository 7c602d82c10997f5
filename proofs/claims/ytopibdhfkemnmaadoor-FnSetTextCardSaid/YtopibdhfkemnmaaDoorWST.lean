/- The law on texts of sets, walked. -/
import Derived.Test.YtopibdhfkemnmaaDoorST3
namespace Go.Proofs.YtopibdhfkemnmaaDoor
open Go.ChangeShapes Go.WideShapes Go.ChangeAt Go.RowKit Go.Shelf

set_option maxRecDepth 100000 in
theorem long_text (w : World) (a a' : Option Addr) (len cap len' cap' : Nat) (h : 1048576 < len ∨ (len ≤ 1048576 ∧ 1048576 < len')) :
    Calls Tryd.prog 3 #[.slice a len cap, .slice a' len' cap'] w fun e w' => e = .returned (.bool true) ∧ Below w.heap.size w w' := by
  rcases h with h | ⟨h, h'⟩
  · have h1 : (1048576 : Int) < (len : Int) := by omega
    go_enter Tryd.func3, Tryd.ntmps3
    go_wp2
    go_ret
    exact ⟨rfl, Below.refl _ _⟩
  · have h1 : (len : Int) ≤ 1048576 := by omega
    have h2 : (1048576 : Int) < (len' : Int) := by omega
    go_enter Tryd.func3, Tryd.ntmps3
    go_wp2
    go_ret
    exact ⟨rfl, Below.refl _ _⟩

theorem again {W W' w : World} {b : Nat} {v : Value} (h : W.cell? ⟨b, 0, none⟩ = some v) (hb : Below w.heap.size W W') (hlt : b < w.heap.size) : W'.cell? ⟨b, 0, none⟩ = some v := (hb.cell (p := ⟨b, 0, none⟩) hlt).trans h

theorem ok_back {t : List UInt8} (h : parseOk t = true) : setL (parseN t) = t := by
  unfold parseOk at h
  obtain ⟨n, hn⟩ := Option.isSome_iff_exists.1 h
  unfold parseN
  rw [hn]
  exact text_back hn

set_option maxRecDepth 100000 in
set_option maxHeartbeats 4000000 in
theorem text_walk (w : World) (a a' : Option Addr) (len cap len' cap' : Nat) (hc : Code w.heap.size w a len cap) (hc' : Code w.heap.size w a' len' cap') (hl : len ≤ 1048576) (hl' : len' ≤ 1048576) (u0 u1 : TypeId) (v0 v1 : Value)
    (hE0 : w.cell? ⟨0, 0, none⟩ = some (.iface u0 v0)) (hE1 : w.cell? ⟨1, 0, none⟩ = some (.iface u1 v1)) (hz : 1 < w.heap.size) :
    Calls Tryd.prog 3 #[.slice a len cap, .slice a' len' cap'] w fun e w' => e = .returned (.bool true) ∧ Below w.heap.size w w' := by
  have l1 : (len : Int) ≤ 1048576 := by omega
  have l2 : (len' : Int) ≤ 1048576 := by omega
  have HC := Lib.hid hc'
  have E0 := Lib.hid hE0
  have E1 := Lib.hid hE1
  have HZ := Lib.hid hz
  clear hc' hE0 hE1 hz
  have PS : ∀ (t : ByteArray) (W : World), t.size ≤ 1048576 → Below w.heap.size w W → Calls Tryd.prog 7 #[.string t] W fun e W' => e = .returned (.tuple #[.int .i64 (parseN t.data.toList), .bool (parseOk t.data.toList)]) ∧ Below W.heap.size W W' :=
    fun t W ht hB => ps7 t ht W u0 u1 v0 v1 (again E0.out hB (Nat.lt_of_succ_lt HZ.out)) (again E1.out hB HZ.out) (Nat.lt_of_lt_of_le HZ.out hB.size)
  have HP := Lib.hid PS
  clear PS
  go_enter Tryd.func3, Tryd.ntmps3
  go_wp2_with fail
  go_at_call 5
  refine (draw5 hc (Nat.le_refl _)).mono ?_
  rintro e W1 ⟨s, rfl, B1⟩
  clear hc
  go_wp2_with fail
  go_at_call 6
  refine (fs27 s _).mono ?_
  rintro e W2 ⟨rfl, b2⟩
  have B2 := B1.trans (b2.mono B1.size)
  have hsl := setL_len s
  go_wp2_with fail
  go_at_call 7
  refine (HP.out ⟨(setL s).toArray⟩ _ (by simp [ByteArray.size]; omega) B2).mono ?_
  rintro e W3 ⟨rfl, b3⟩
  have B3 := B2.trans (b3.mono B2.size)
  go_wp2_with fail
  go_at_call 8
  refine (fs26 s _).mono ?_
  rintro e W4 ⟨rfl, b4⟩
  have B4 := B3.trans (b4.mono B3.size)
  go_wp2_with fail
  go_at_call 9
  refine (sv24 s _).mono ?_
  rintro e W5 ⟨rfl, rfl⟩
  go_wp2_with fail
  go_at_call 10
  refine (sv25 s _).mono ?_
  rintro e W6 ⟨rfl, rfl⟩
  go_wp2_with fail
  go_at_call 9
  refine (sv24 s _).mono ?_
  rintro e W7 ⟨rfl, rfl⟩
  clear hsl B1 B2 B3 b2 b3 b4
  cases hset : isSet s with
  | false =>
    have hok := back_no hset
    go_wp2_with fail
    go_at_call 11
    refine (draw11t (HC.out.below B4) B4.size).mono ?_
    rintro e W8 ⟨t, ht, rfl, b8⟩
    have B8 := B4.trans (b8.mono B4.size)
    go_wp2_with fail
    go_at_call 7
    refine (HP.out t _ ht B8).mono ?_
    rintro e W9 ⟨rfl, b9⟩
    have B9 := B8.trans (b9.mono B8.size)
    go_wp2_with fail
    go_at_call 12
    refine (mp12 t ht _).mono ?_
    rintro e W10 ⟨rfl, b10⟩
    have B10 := B9.trans (b10.mono B9.size)
    cases hf : parseOk t.data.toList with
    | false =>
      go_wp2
      go_ret
      exact ⟨rfl, B10⟩
    | true =>
      have hback := ok_back hf
      have hcmp : (setL (parseN t.data.toList) == t.toList) = true := by rw [Lib.toList_data, hback]; simp
      clear hback
      go_wp2_with fail
      go_at_call 6
      refine (fs27 _ _).mono ?_
      rintro e W11 ⟨rfl, b11⟩
      go_wp2
      go_ret
      exact ⟨rfl, B10.trans (b11.mono B10.size)⟩
  | true =>
    have hok := (back_set hset).2
    have hn := (back_set hset).1
    go_wp2_with fail
    go_at_call 11
    refine (draw11t (HC.out.below B4) B4.size).mono ?_
    rintro e W8 ⟨t, ht, rfl, b8⟩
    have B8 := B4.trans (b8.mono B4.size)
    go_wp2_with fail
    go_at_call 7
    refine (HP.out t _ ht B8).mono ?_
    rintro e W9 ⟨rfl, b9⟩
    have B9 := B8.trans (b9.mono B8.size)
    go_wp2_with fail
    go_at_call 12
    refine (mp12 t ht _).mono ?_
    rintro e W10 ⟨rfl, b10⟩
    have B10 := B9.trans (b10.mono B9.size)
    cases hf : parseOk t.data.toList with
    | false =>
      go_wp2
      go_ret
      exact ⟨rfl, B10⟩
    | true =>
      have hback := ok_back hf
      have hcmp : (setL (parseN t.data.toList) == t.toList) = true := by rw [Lib.toList_data, hback]; simp
      clear hback
      go_wp2_with fail
      go_at_call 6
      refine (fs27 _ _).mono ?_
      rintro e W11 ⟨rfl, b11⟩
      go_wp2
      go_ret
      exact ⟨rfl, B10.trans (b11.mono B10.size)⟩
theorem walkSetText (a0 : Option Addr) (len0 cap0 : Nat) (z0 : List Int) (a1 : Option Addr) (len1 cap1 : Nat) (z1 : List Int) (w : World) (w0 : IsRow .u8 w a0 len0 cap0 z0) (w1 : IsRow .u8 w a1 len1 cap1 z1) (u0 u1 : TypeId) (v0 v1 : Value)
    (hE0 : w.cell? ⟨0, 0, none⟩ = some (.iface u0 v0)) (hE1 : w.cell? ⟨1, 0, none⟩ = some (.iface u1 v1)) (hz : 1 < w.heap.size) :
    Calls Tryd.prog 3 #[.slice a0 len0 cap0, .slice a1 len1 cap1] w fun e w' => e = .returned (.bool true) ∧ Below w.heap.size w w' := by
  by_cases h : len0 ≤ 1048576
  · by_cases h' : len1 ≤ 1048576
    · exact text_walk w a0 a1 len0 cap0 len1 cap1 (Code.ofRow w0) (Code.ofRow w1) h h' u0 u1 v0 v1 hE0 hE1 hz
    · exact long_text w a0 a1 len0 cap0 len1 cap1 (.inr ⟨h, by omega⟩)
  · exact long_text w a0 a1 len0 cap0 len1 cap1 (.inl (by omega))
end Go.Proofs.YtopibdhfkemnmaaDoor
