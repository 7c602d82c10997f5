/- Chapter 7, the model: how many times a loop is gone through. -/
import Derived.Test.YtngcdgnijfiocaaGreatDoorPA
import Derived.Test.YtngcdgnijfiocaaGreatDoorM7
namespace Go.Proofs.YtngcdgnijfiocaaGreatDoor
open Go.ChangeShapes Go.WideShapes Go.ChangeAt Go.RowKit Go.Shelf
attribute [local go_sem] Oper.semAt_some
set_option maxRecDepth 100000

theorem gM_one (p : Node) (s : Nat) : gM p 1 s = (runR p s).2 := if_pos rfl
set_option maxHeartbeats 4000000 in
theorem mwithin_0 (p : Node) (hok : p.ok) (W : World) (lo hi : Nat) (k : Int) (s : ByteArray) (ad : Option Addr) (n cap : Nat) (h : NodeIs W lo hi (.loop p) k s ad n cap) (hhi : hi ≤ W.heap.size) (m : Nat) (hm : m < 512) (t : Nat) (ht : t ≤ 1000) :
    Calls Tryz.prog 76 #[.agg #[.int .u8 k, .string s, .slice ad n cap], .int .i64 (m : Int), .int .i64 0, .int .i64 (t : Int)] W fun e W' => e = .returned (.int .i64 ((wM p 0 m (t + 1) : Nat) : Int)) ∧ Below W.heap.size W W' := by
  obtain ⟨rfl, rfl, rfl, g, rfl, hg1, hg2, k1, s1, ad1, n1, cap1, c0, c1, c2, hnp⟩ := h
  have H1 := fun W' j hj h h2 => mrun23 p hok W' lo hi k1 s1 ad1 n1 cap1 j h h2 hj
  have hgW : g < W.heap.size := Nat.lt_of_lt_of_le hg2 hhi
  have hA : Below W.heap.size W (W.alloc (.cells #[.int .u8 123, .string ⟨#[]⟩, .slice (some ⟨g, 0, none⟩) 1 cap] 72)) := (Below.refl _ _).alloc (Nat.le_refl _) _
  have hv := Var.new W 123 ⟨#[]⟩ (some ⟨g, 0, none⟩) 1 cap
  have ht2 : (t : Int) ≤ 1000 := by omega
  go_enter Tryz.func76, Tryz.ntmps76
  go_wp2_with fail
  go_loopw [1, 9, 10] (fun b o i wr => ∃ j : Nat, j ≤ t + 1 ∧ i = .int .i64 (j : Int) ∧ b = .int .i64 ((sM p m j : Nat) : Int) ∧ o = .int .i64 ((wM p 0 m j : Nat) : Int) ∧ Below (W.heap.size + 1) (W.alloc (.cells #[.int .u8 123, .string ⟨#[]⟩, .slice (some ⟨g, 0, none⟩) 1 cap] 72)) wr) (fun _ _ i _ => t + 1 - (intOf i).toNat)
  case atStart => exact ⟨0, by omega, rfl, rfl, rfl, Below.refl _ _⟩
  case round =>
    obtain ⟨j, hj, rfl, rfl, rfl, hB⟩ := hrel
    have hBW := hA.trans (hB.mono (Nat.le_succ _))
    by_cases hlt : j ≤ t
    · have hlt2 : (j : Int) ≤ (t : Int) := by omega
      obtain ⟨x0, x1, x2, _⟩ := (hv.stay hB).cells
      have e0 := (hBW.cell (p := ⟨g, 0, none⟩) hgW).trans c0
      have e1 := (hBW.cell (p := ⟨g, 1, none⟩) hgW).trans c1
      have e2 := (hBW.cell (p := ⟨g, 2, none⟩) hgW).trans c2
      have hI := H1 wr (sM p m j) (sM_lt hok hm j) (hnp.below hBW hhi) (Nat.le_trans hhi hBW.size)
      have hsm := sM_lt hok hm j
      have hs := run_lt p hok _ hsm
      have ha := wM_lt hok 0 hm j
      have hor := or_nat (wM p 0 m j) (sM p m j) (by omega) (by omega)
      have hw : wM p 0 m (j + 1) = wM p 0 m j ||| sM p m j := by
        show wM p 0 m j ||| gM p 0 (sM p m j) = _
        rw [gM_zero]
      have hn : sM p m (j + 1) = (runR p (sM p m j)).1 := rfl
      have HW := Lib.hid hw
      have HN := Lib.hid hn
      have ha2 : wM p 0 m j < 4611686018427387904 := by omega
      clear hw hn
      generalize runR p (sM p m j) = o at hI hs HW HN hor
      generalize wM p 0 m j = a at hor HW ha ha2
      generalize sM p m j = q at hsm hor HW hI
      clear H1 hv
      go_wp2_with fail
      go_at_call 78
      refine hI.mono ?_
      rintro e W2 ⟨rfl, b2⟩
      have B2 := hB.trans (b2.mono (Nat.le_trans (by simp) hB.size))
      have B3 := B2.alloc (Nat.le_trans (by simp) B2.size) (.cells #[.int .i64 (o.1 : Int), .int .i64 (o.2 : Int)] 121)
      obtain ⟨n0, n1, _, _⟩ := (Lies.new W2 #[.int .i64 (o.1 : Int), .int .i64 (o.2 : Int)] 121).cells
      go_wp2_with fail
      go_roundw
      case rel => exact ⟨j + 1, by omega, by go_num, by rw [HN.out], by rw [HW.out], B3⟩
      case measure => simp [intOf]; omega
    · have hjt : j = t + 1 := by omega
      have hge : ¬ ((j : Int) ≤ (t : Int)) := by omega
      have hfin : ((wM p 0 m j : Nat) : Int) = ((wM p 0 m (t + 1) : Nat) : Int) := by rw [hjt]
      generalize wM p 0 m (t + 1) = z at hfin ⊢
      go_wp2_with fail
      go_ret
      exact ⟨by first | rfl | rw [hfin], hBW⟩
set_option maxHeartbeats 4000000 in
theorem mwithin_1 (p : Node) (hok : p.ok) (W : World) (lo hi : Nat) (k : Int) (s : ByteArray) (ad : Option Addr) (n cap : Nat) (h : NodeIs W lo hi (.loop p) k s ad n cap) (hhi : hi ≤ W.heap.size) (m : Nat) (hm : m < 512) (t : Nat) (ht : t ≤ 1000) :
    Calls Tryz.prog 76 #[.agg #[.int .u8 k, .string s, .slice ad n cap], .int .i64 (m : Int), .int .i64 1, .int .i64 (t : Int)] W fun e W' => e = .returned (.int .i64 ((wM p 1 m (t + 1) : Nat) : Int)) ∧ Below W.heap.size W W' := by
  obtain ⟨rfl, rfl, rfl, g, rfl, hg1, hg2, k1, s1, ad1, n1, cap1, c0, c1, c2, hnp⟩ := h
  have H1 := fun W' j hj h h2 => mrun23 p hok W' lo hi k1 s1 ad1 n1 cap1 j h h2 hj
  have hgW : g < W.heap.size := Nat.lt_of_lt_of_le hg2 hhi
  have hA : Below W.heap.size W (W.alloc (.cells #[.int .u8 123, .string ⟨#[]⟩, .slice (some ⟨g, 0, none⟩) 1 cap] 72)) := (Below.refl _ _).alloc (Nat.le_refl _) _
  have hv := Var.new W 123 ⟨#[]⟩ (some ⟨g, 0, none⟩) 1 cap
  have ht2 : (t : Int) ≤ 1000 := by omega
  go_enter Tryz.func76, Tryz.ntmps76
  go_wp2_with fail
  go_loopw [1, 9, 10] (fun b o i wr => ∃ j : Nat, j ≤ t + 1 ∧ i = .int .i64 (j : Int) ∧ b = .int .i64 ((sM p m j : Nat) : Int) ∧ o = .int .i64 ((wM p 1 m j : Nat) : Int) ∧ Below (W.heap.size + 1) (W.alloc (.cells #[.int .u8 123, .string ⟨#[]⟩, .slice (some ⟨g, 0, none⟩) 1 cap] 72)) wr) (fun _ _ i _ => t + 1 - (intOf i).toNat)
  case atStart => exact ⟨0, by omega, rfl, rfl, rfl, Below.refl _ _⟩
  case round =>
    obtain ⟨j, hj, rfl, rfl, rfl, hB⟩ := hrel
    have hBW := hA.trans (hB.mono (Nat.le_succ _))
    by_cases hlt : j ≤ t
    · have hlt2 : (j : Int) ≤ (t : Int) := by omega
      obtain ⟨x0, x1, x2, _⟩ := (hv.stay hB).cells
      have e0 := (hBW.cell (p := ⟨g, 0, none⟩) hgW).trans c0
      have e1 := (hBW.cell (p := ⟨g, 1, none⟩) hgW).trans c1
      have e2 := (hBW.cell (p := ⟨g, 2, none⟩) hgW).trans c2
      have hI := H1 wr (sM p m j) (sM_lt hok hm j) (hnp.below hBW hhi) (Nat.le_trans hhi hBW.size)
      have hsm := sM_lt hok hm j
      have hs := run_lt p hok _ hsm
      have ha := wM_lt hok 1 hm j
      have hor := or_nat (wM p 1 m j) ((runR p (sM p m j)).2) (by omega) (by omega)
      have hw : wM p 1 m (j + 1) = wM p 1 m j ||| (runR p (sM p m j)).2 := by
        show wM p 1 m j ||| gM p 1 (sM p m j) = _
        rw [gM_one]
      have hn : sM p m (j + 1) = (runR p (sM p m j)).1 := rfl
      have HW := Lib.hid hw
      have HN := Lib.hid hn
      have ha2 : wM p 1 m j < 4611686018427387904 := by omega
      clear hw hn
      generalize runR p (sM p m j) = o at hI hs HW HN hor
      generalize wM p 1 m j = a at hor HW ha ha2
      generalize sM p m j = q at hsm hor HW hI
      clear H1 hv
      go_wp2_with fail
      go_at_call 78
      refine hI.mono ?_
      rintro e W2 ⟨rfl, b2⟩
      have B2 := hB.trans (b2.mono (Nat.le_trans (by simp) hB.size))
      have B3 := B2.alloc (Nat.le_trans (by simp) B2.size) (.cells #[.int .i64 (o.1 : Int), .int .i64 (o.2 : Int)] 121)
      obtain ⟨n0, n1, _, _⟩ := (Lies.new W2 #[.int .i64 (o.1 : Int), .int .i64 (o.2 : Int)] 121).cells
      go_wp2_with fail
      go_roundw
      case rel => exact ⟨j + 1, by omega, by go_num, by rw [HN.out], by rw [HW.out], B3⟩
      case measure => simp [intOf]; omega
    · have hjt : j = t + 1 := by omega
      have hge : ¬ ((j : Int) ≤ (t : Int)) := by omega
      have hfin : ((wM p 1 m j : Nat) : Int) = ((wM p 1 m (t + 1) : Nat) : Int) := by rw [hjt]
      generalize wM p 1 m (t + 1) = z at hfin ⊢
      go_wp2_with fail
      go_ret
      exact ⟨by first | rfl | rw [hfin], hBW⟩
end Go.Proofs.YtngcdgnijfiocaaGreatDoor

