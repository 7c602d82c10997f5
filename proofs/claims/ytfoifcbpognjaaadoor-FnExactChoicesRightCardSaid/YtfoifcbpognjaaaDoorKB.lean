/- Chapter 10, the program: choices by what they are for. -/
import Derived.Test.YtfoifcbpognjaaaDoorKA
import Derived.Test.YtfoifcbpognjaaaDoorR2
namespace Go.Proofs.YtfoifcbpognjaaaDoor
open Go.ChangeShapes Go.WideShapes Go.ChangeAt Go.RowKit Go.Shelf
attribute [local go_sem] Oper.semAt_some
set_option maxRecDepth 100000

theorem NotRight.grown {N rb : Nat} {W W' : World} (h : NotRight N W) (hg : W.grownBy W' (some rb)) (hr : N ≤ rb) : NotRight N W' := h.foot (foot_grown none hg) hr (fun k e => by cases e)

theorem u8_ne {c d : UInt8} (h : c ≠ d) : ((c.toNat : Int) == (d.toNat : Int)) = false := by
  simp only [beq_eq_false_iff_ne, ne_eq]
  intro e
  exact h (UInt8.toNat_inj.1 (by omega))
/-! ### A loop: more or the end -/
set_option maxHeartbeats 1000000 in
theorem pagain_hit {c : UInt8} {l : List UInt8} {rb s : Nat} {tv : Value} {W : World} (hc : c = 109 ∨ c = 101) (h : PR W rb s (c :: l) tv) :
    Calls Tryd.prog 34 #[.pointer (some ⟨rb, 0, none⟩)] W fun e W' => e = .returned (.bool (c == 109)) ∧ PR W' rb s l tv ∧ W.grownBy W' (some rb) := by
  have hch := pchoose_some h
  rcases hc with rfl | rfl
  all_goals
    go_enter Tryd.func34, Tryd.ntmps34
    go_wp2_with (go_at_call 46; refine hch.mono ?_; rintro e W1 ⟨rfl, hr, hg⟩)
    go_ret
    exact ⟨rfl, hr, hg⟩
set_option maxHeartbeats 1000000 in
theorem pagain_miss {c : UInt8} {l : List UInt8} {rb s N : Nat} {tv : Value} {W : World} (hc1 : c ≠ 109) (hc2 : c ≠ 101) (h : PR W rb s (c :: l) tv) (hE : NotRight N W) (hN : N ≤ rb) :
    Calls Tryd.prog 34 #[.pointer (some ⟨rb, 0, none⟩)] W fun e W' => Bad e ∧ W.grownBy W' (some rb) := by
  have hch := pchoose_some h
  have n1 : ((c.toNat : Int) == 109) = false := (by exact u8_ne hc1)
  have n2 : ((c.toNat : Int) == 101) = false := (by exact u8_ne hc2)
  go_enter Tryd.func34, Tryd.ntmps34
  go_wp2_with (go_at_call 46; refine hch.mono ?_; rintro e W1 ⟨rfl, hr, hg⟩; obtain ⟨⟨v, ce⟩, _⟩ := hE.grown hg hN)
  exact ⟨rfl, ⟨v, rfl⟩, hg⟩
set_option maxHeartbeats 1000000 in
theorem pagain_none {rb s N : Nat} {tv : Value} {W : World} (h : PR W rb s [] tv) (hE : NotRight N W) :
    Calls Tryd.prog 34 #[.pointer (some ⟨rb, 0, none⟩)] W fun e W' => Bad e ∧ W.grownBy W' (some rb) := by
  have hch := pchoose_none h hE
  go_enter Tryd.func34, Tryd.ntmps34
  go_wp2_with (go_at_call 46; refine hch.mono ?_; rintro e W1 ⟨⟨v, rfl⟩, rfl⟩)
  exact ⟨rfl, ⟨v, rfl⟩, below_self_grown _ _⟩

/-! ### A choice: left or right -/
def ChV (x y : Value) : Array Value := #[x, y]
set_option maxHeartbeats 1000000 in
theorem ppart_l {l : List UInt8} {rb s : Nat} {tv x y : Value} {T1 T2 : TypeId} {W : World} (h : PR W rb s (108 :: l) tv) :
    Calls Tryd.prog 33 #[.pointer (some ⟨rb, 0, none⟩), .agg #[.iface T1 x, .iface T2 y]] W fun e W' => e = .returned (.iface T1 x) ∧ PR W' rb s l tv ∧ W.grownBy W' (some rb) := by
  have h1 : PR (W.alloc (.cells #[.iface T1 x, .iface T2 y] 74)) rb s (108 :: l) tv := h.kept ((Below.refl _ _).alloc (Nat.le_refl _) _)
  have hch := pchoose_some h1
  have hrl := h.lt
  have L0 := Lies.new W #[.iface T1 x, .iface T2 y] 74
  go_enter Tryd.func33, Tryd.ntmps33
  go_wp2_with (go_at_call 46; refine hch.mono ?_; rintro e W1 ⟨rfl, hr, hg⟩; obtain ⟨d0, d1, _, _⟩ := (L0.kept hg (by simp; omega)).cells)
  go_ret
  exact ⟨rfl, hr, grown_trans (World.grownBy_alloc W _ (some rb)) hg⟩
set_option maxHeartbeats 1000000 in
theorem ppart_r {l : List UInt8} {rb s : Nat} {tv x y : Value} {T1 T2 : TypeId} {W : World} (h : PR W rb s (114 :: l) tv) :
    Calls Tryd.prog 33 #[.pointer (some ⟨rb, 0, none⟩), .agg #[.iface T1 x, .iface T2 y]] W fun e W' => e = .returned (.iface T2 y) ∧ PR W' rb s l tv ∧ W.grownBy W' (some rb) := by
  have h1 : PR (W.alloc (.cells #[.iface T1 x, .iface T2 y] 74)) rb s (114 :: l) tv := h.kept ((Below.refl _ _).alloc (Nat.le_refl _) _)
  have hch := pchoose_some h1
  have hrl := h.lt
  have L0 := Lies.new W #[.iface T1 x, .iface T2 y] 74
  go_enter Tryd.func33, Tryd.ntmps33
  go_wp2_with (go_at_call 46; refine hch.mono ?_; rintro e W1 ⟨rfl, hr, hg⟩; obtain ⟨d0, d1, _, _⟩ := (L0.kept hg (by simp; omega)).cells)
  go_ret
  exact ⟨rfl, hr, grown_trans (World.grownBy_alloc W _ (some rb)) hg⟩
set_option maxHeartbeats 1000000 in
theorem ppart_miss {c : UInt8} {l : List UInt8} {rb s N : Nat} {tv x y : Value} {T1 T2 : TypeId} {W : World} (hc1 : c ≠ 108) (hc2 : c ≠ 114) (h : PR W rb s (c :: l) tv) (hE : NotRight N W) (hN : N ≤ rb) :
    Calls Tryd.prog 33 #[.pointer (some ⟨rb, 0, none⟩), .agg #[.iface T1 x, .iface T2 y]] W fun e W' => Bad e ∧ W.grownBy W' (some rb) := by
  have h1 : PR (W.alloc (.cells #[.iface T1 x, .iface T2 y] 74)) rb s (c :: l) tv := h.kept ((Below.refl _ _).alloc (Nat.le_refl _) _)
  have hch := pchoose_some h1
  have hrl := h.lt
  have hE1 := hE.grown (World.grownBy_alloc W (.cells #[.iface T1 x, .iface T2 y] 74) (some rb)) hN
  have n1 : ((c.toNat : Int) == 108) = false := (by exact u8_ne hc1)
  have n2 : ((c.toNat : Int) == 114) = false := (by exact u8_ne hc2)
  go_enter Tryd.func33, Tryd.ntmps33
  go_wp2_with (go_at_call 46; refine hch.mono ?_; rintro e W1 ⟨rfl, hr, hg⟩; obtain ⟨⟨v, ce⟩, _⟩ := hE1.grown hg hN)
  exact ⟨rfl, ⟨v, rfl⟩, grown_trans (World.grownBy_alloc W _ (some rb)) hg⟩
set_option maxHeartbeats 1000000 in
theorem ppart_none {rb s N : Nat} {tv x y : Value} {T1 T2 : TypeId} {W : World} (h : PR W rb s [] tv) (hE : NotRight N W) (hN : N ≤ rb) :
    Calls Tryd.prog 33 #[.pointer (some ⟨rb, 0, none⟩), .agg #[.iface T1 x, .iface T2 y]] W fun e W' => Bad e ∧ W.grownBy W' (some rb) := by
  have h1 : PR (W.alloc (.cells #[.iface T1 x, .iface T2 y] 74)) rb s [] tv := h.kept ((Below.refl _ _).alloc (Nat.le_refl _) _)
  have hE1 := hE.grown (World.grownBy_alloc W (.cells #[.iface T1 x, .iface T2 y] 74) (some rb)) hN
  have hch := pchoose_none h1 hE1
  go_enter Tryd.func33, Tryd.ntmps33
  go_wp2_with (go_at_call 46; refine hch.mono ?_; rintro e W1 ⟨⟨v, rfl⟩, rfl⟩)
  exact ⟨rfl, ⟨v, rfl⟩, World.grownBy_alloc W _ (some rb)⟩

/-! ### A value -/
set_option maxHeartbeats 1000000 in
theorem pdigit_hit {c : UInt8} {l : List UInt8} {rb s : Nat} {tv : Value} {W : World} (hc : c = 48 ∨ c = 49 ∨ c = 50) (h : PR W rb s (c :: l) tv) :
    Calls Tryd.prog 48 #[.pointer (some ⟨rb, 0, none⟩)] W fun e W' => e = .returned (.string ⟨#[c]⟩) ∧ PR W' rb s l tv ∧ W.grownBy W' (some rb) := by
  have hch := pchoose_some h
  rcases hc with rfl | rfl | rfl
  all_goals
    go_enter Tryd.func48, Tryd.ntmps48
    go_wp2_with (go_at_call 46; refine hch.mono ?_; rintro e W1 ⟨rfl, hr, hg⟩)
    go_ret
    exact ⟨rfl, hr, hg⟩
set_option maxHeartbeats 1000000 in
theorem pdigit_miss {c : UInt8} {l : List UInt8} {rb s N : Nat} {tv : Value} {W : World} (hc1 : c ≠ 48) (hc2 : c ≠ 49) (hc3 : c ≠ 50) (h : PR W rb s (c :: l) tv) (hE : NotRight N W) (hN : N ≤ rb) :
    Calls Tryd.prog 48 #[.pointer (some ⟨rb, 0, none⟩)] W fun e W' => Bad e ∧ W.grownBy W' (some rb) := by
  have hch := pchoose_some h
  have n1 : ((c.toNat : Int) == 48) = false := (by exact u8_ne hc1)
  have n2 : ((c.toNat : Int) == 49) = false := (by exact u8_ne hc2)
  have n3 : ((c.toNat : Int) == 50) = false := (by exact u8_ne hc3)
  go_enter Tryd.func48, Tryd.ntmps48
  go_wp2_with (go_at_call 46; refine hch.mono ?_; rintro e W1 ⟨rfl, hr, hg⟩; obtain ⟨⟨v, ce⟩, _⟩ := hE.grown hg hN)
  exact ⟨rfl, ⟨v, rfl⟩, hg⟩
set_option maxHeartbeats 1000000 in
theorem pdigit_none {rb s N : Nat} {tv : Value} {W : World} (h : PR W rb s [] tv) (hE : NotRight N W) :
    Calls Tryd.prog 48 #[.pointer (some ⟨rb, 0, none⟩)] W fun e W' => Bad e ∧ W.grownBy W' (some rb) := by
  have hch := pchoose_none h hE
  go_enter Tryd.func48, Tryd.ntmps48
  go_wp2_with (go_at_call 46; refine hch.mono ?_; rintro e W1 ⟨⟨v, rfl⟩, rfl⟩)
  exact ⟨rfl, ⟨v, rfl⟩, below_self_grown _ _⟩

/-! ### Whether a variable becomes any value -/
set_option maxHeartbeats 1000000 in
theorem bany47 (t : ByteArray) (b : Bool) (h1 : (1 : Int) ≤ (t.size : Int)) (h3 : (t.size : Int) ≤ 9000000) (hb : ((t.extract (t.size - 1) t.size).toList == [63]) = b) (w : World) :
    Calls Tryd.prog 47 #[.string t] w fun e w' => e = .returned (.bool b) ∧ w = w' := by
  have hn : ((t.size : Int) - 1).toNat = t.size - 1 := by omega
  have h0 : (0 : Int) ≤ (t.size : Int) - 1 := by omega
  have h2 : (t.size : Int) - 1 ≤ (t.size : Int) := by omega
  go_enter Tryd.func47, Tryd.ntmps47
  go_wp2
  go_ret
  exact ⟨rfl, rfl⟩
end Go.Proofs.YtfoifcbpognjaaaDoor

