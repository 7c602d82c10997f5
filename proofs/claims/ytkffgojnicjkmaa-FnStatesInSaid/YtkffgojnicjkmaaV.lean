/- The law FnStatesIn, walked. -/
import Derived.Test.YtkffgojnicjkmaaU
namespace Go.Proofs.Ytkffgojnicjkmaa
open Go.ChangeShapes Go.WideShapes Go.ChangeAt Go.RowKit

set_option maxRecDepth 100000 in
theorem long_in (w : World) (a a' : Option Addr) (len cap len' cap' : Nat) (h : 1048576 < len ∨ (len ≤ 1048576 ∧ 1048576 < len')) :
    Calls Try.prog 3 #[.slice a len cap, .slice a' len' cap'] w fun e w' => e = .returned (.bool true) ∧ Below w.heap.size w w' := by
  rcases h with h | ⟨h, h'⟩
  · have h1 : (1048576 : Int) < (len : Int) := by omega
    go_enter Try.func3, Try.ntmps3
    go_wp2
    go_ret
    exact ⟨rfl, Below.refl _ _⟩
  · have h1 : (len : Int) ≤ 1048576 := by omega
    have h2 : (1048576 : Int) < (len' : Int) := by omega
    go_enter Try.func3, Try.ntmps3
    go_wp2
    go_ret
    exact ⟨rfl, Below.refl _ _⟩

theorem Row.cellL {W : World} {B g cap : Nat} {l : List (Fin 9)} (h : Row W B (.slice (some ⟨g, 0, none⟩) (l.map fun z => (z.val : Int)).length cap) (l.map fun z => (z.val : Int))) {k : Nat} {z : Fin 9} (hz : l[k]? = some z) :
    W.cell? ⟨g, k, none⟩ = some (.int .i64 (z.val : Int)) := by
  have hlt := (List.getElem?_eq_some_iff.1 hz).1
  rw [Row.cell h k (by simpa using hlt)]
  simp [hz]
theorem two_bd : ∀ z : Fin 9, (0 : Int) ≤ 2 ^ z.val ∧ (2 : Int) ^ z.val ≤ 256 := by decide
theorem psum_take {l : List (Fin 9)} {k : Nat} {z : Fin 9} (hz : l[k]? = some z) : psum (l.take (k + 1)) = psum (l.take k) + 2 ^ z.val := by
  rw [List.take_add_one, hz]
  exact psum_snoc _ _

set_option maxRecDepth 100000 in
set_option maxHeartbeats 8000000 in
theorem states_walk (w : World) (a a' : Option Addr) (len cap len' cap' : Nat) (hc : Code w.heap.size w a len cap) (hc' : Code w.heap.size w a' len' cap') (hl : len ≤ 1048576) (hl' : len' ≤ 1048576) :
    Calls Try.prog 3 #[.slice a len cap, .slice a' len' cap'] w fun e w' => e = .returned (.bool true) ∧ Below w.heap.size w w' := by
  have l1 : (len : Int) ≤ 1048576 := by omega
  have l2 : (len' : Int) ≤ 1048576 := by omega
  have HC := Lib.hid hc'
  clear hc'
  go_enter Try.func3, Try.ntmps3
  go_wp2_with fail
  go_at_call 5
  refine (draw11 hc (Nat.le_refl _)).mono ?_
  rintro e W1 ⟨s, rfl, B1⟩
  clear hc
  go_wp2_with fail
  go_at_call 6
  refine (si12 s _).mono ?_
  rintro e W2 ⟨v1, rfl, r1, b2⟩
  have B2 := B1.trans (b2.mono B1.size)
  go_wp2_with fail
  go_at_call 7
  refine (si13 s _).mono ?_
  rintro e W3 ⟨v2, rfl, r2, b3⟩
  have r1a := r1.below b3
  have B3 := B2.trans (b3.mono B2.size)
  clear r1 B1 B2 b2 b3
  go_wp2_with fail
  go_at_call 8
  refine (cs14 s _).mono ?_
  rintro e W4 ⟨rfl, b4⟩
  have r1b := r1a.below b4
  have r2b := r2.below b4
  have B4 := B3.trans (b4.mono B3.size)
  clear r1a r2 B3 b4
  go_wp2_with fail
  go_at_call 9
  refine (draw15 (HC.out.below B4) B4.size).mono ?_
  rintro e W5 ⟨aa, bb, rfl, b5⟩
  have r1c := r1b.below b5
  have r2c := r2b.below b5
  have B5 := B4.trans (b5.mono B4.size)
  clear r1b r2b B4 b5
  go_wp2_with fail
  go_at_call 10
  refine (draw16 (HC.out.below B5) B5.size).mono ?_
  rintro e W6 ⟨x, y, rfl, b6⟩
  have r1d := r1c.below b6
  have r2d := r2c.below b6
  have B6 := B5.trans (b6.mono B5.size)
  clear r1c r2c B5 b6
  go_wp2_with fail
  go_at_call 11
  refine (so17 x y _).mono ?_
  rintro e W7 ⟨rfl, b7⟩
  have r1e := r1d.below b7
  have r2e := r2d.below b7
  have B7 := B6.trans (b7.mono B6.size)
  clear r1d r2d B6 b7
  go_wp2_with fail
  go_at_call 12
  refine (so18 x y _).mono ?_
  rintro e W8 ⟨rfl, rfl⟩
  go_wp2_with fail
  go_at_call 13
  refine (same19 r1e r2e).mono ?_
  rintro e W9 ⟨rfl, b9⟩
  have r1f := r1e.below b9
  have B9 := B7.trans (b9.mono B7.size)
  clear r1e r2e B7 b9
  go_wp2_with fail
  go_at_call 14
  refine (cs20 s _).mono ?_
  rintro e W10 ⟨rfl, b10⟩
  have r1g := r1f.below b10
  have B10 := B9.trans (b10.mono B9.size)
  clear r1f B9 b10
  go_wp2_with fail
  go_at_call 15
  refine (wi21 aa bb _).mono ?_
  rintro e W11 ⟨rfl, rfl⟩
  go_wp2_with fail
  go_at_call 16
  refine (wi22 aa bb _).mono ?_
  rintro e W12 ⟨rfl, rfl⟩
  cases hset : isSet s with
  | false =>
    have hcnt := cnt_no hset
    cases hok : stateOk x y with
    | false =>
      go_wp2_with fail
      go_at_call 18
      refine (sv24 s _).mono ?_
      rintro e W13 ⟨rfl, rfl⟩
      go_wp2
      go_ret
      exact ⟨rfl, B10⟩
    | true =>
      obtain ⟨x0, y0⟩ := of_decide_eq_true hok
      have hst : stateOf x y = 3 * x + y := if_pos ⟨x0, y0⟩
      have e1 : (3 * x + y) / 3 = x := by omega
      have e2 : (3 * x + y) % 3 = y := by omega
      go_wp2_with fail
      go_at_call 17
      refine (vo23yes (3 * x + y) _ (by omega) (by omega)).mono ?_
      rintro e W13 ⟨rfl, b13⟩
      go_wp2_with fail
      go_at_call 18
      refine (sv24 s _).mono ?_
      rintro e W14 ⟨rfl, rfl⟩
      go_wp2
      go_ret
      exact ⟨rfl, B10.trans (b13.mono B10.size)⟩
  | true =>
    have hcnt := cnt_yes hset
    have hstl : stL s = (upTo s 9).map fun z => (z.val : Int) := by unfold stL; rw [if_pos hset]
    have hsum := psum_set hset
    have hasc := asc_set hset
    have hll := upTo_len s 9
    obtain ⟨l, hl0⟩ : ∃ l, l = upTo s 9 := ⟨_, rfl⟩
    rw [← hl0] at hcnt hstl hsum hasc hll
    rw [hstl] at r1g
    have HS := Lib.hid hsum
    have HA := Lib.hid hasc
    clear hsum hasc hl0 hstl
    rcases r1g.cases with ⟨rfl, hz⟩ | ⟨g, cap1, rfl, hg1, hg2, _⟩
    · obtain rfl : l = [] := by simpa using hz
      have hs0 : s = 0 := by have := HS.out; simp [psum] at this; exact this.symm
      subst hs0
      clear hz
      cases hok : stateOk x y with
      | false =>
        go_wp2_with fail
        go_loop [22, 138] (fun q i => i = .int .i64 0 ∧ q = .int .i64 0) (fun _ _ => 0)
        case atStart => exact ⟨rfl, rfl⟩
        case round =>
          obtain ⟨rfl, rfl⟩ := hrel
          go_wp2
          go_ret
          exact ⟨rfl, B10⟩
      | true =>
        obtain ⟨x0, y0⟩ := of_decide_eq_true hok
        have hst : stateOf x y = 3 * x + y := if_pos ⟨x0, y0⟩
        have e1 : (3 * x + y) / 3 = x := by omega
        have e2 : (3 * x + y) % 3 = y := by omega
        go_wp2_with fail
        go_at_call 17
        refine (vo23yes (3 * x + y) _ (by omega) (by omega)).mono ?_
        rintro e W13 ⟨rfl, b13⟩
        go_wp2_with fail
        go_loop [22, 138] (fun q i => i = .int .i64 0 ∧ q = .int .i64 0) (fun _ _ => 0)
        case atStart => exact ⟨rfl, rfl⟩
        case round =>
          obtain ⟨rfl, rfl⟩ := hrel
          go_wp2
          go_ret
          exact ⟨rfl, B10.trans (b13.mono B10.size)⟩
    · have hg0 : (l.map fun z => (z.val : Int)).length = l.length := List.length_map _
      obtain ⟨WB, hr0⟩ : ∃ WB, Row W10 WB (.slice (some ⟨g, 0, none⟩) (l.map fun z => (z.val : Int)).length cap1) (l.map fun z => (z.val : Int)) := ⟨_, r1g⟩
      have HG := Lib.hid hg0
      clear hg0 r1g
      cases hok : stateOk x y with
      | false =>
        go_wp2_with fail
        go_loopw [22, 138] (fun q i wr => ∃ k : Nat, k ≤ l.length ∧ i = .int .i64 k ∧ q = .int .i64 (psum (l.take k)) ∧ Row wr WB (.slice (some ⟨g, 0, none⟩) (l.map fun z => (z.val : Int)).length cap1) (l.map fun z => (z.val : Int)) ∧ Below w.heap.size w wr) (fun _ i _ => l.length - (intOf i).toNat)
        case atStart => exact ⟨0, by omega, rfl, by simp [psum], hr0, B10⟩
        case round =>
          obtain ⟨k, hk, rfl, rfl, hr, hB⟩ := hrel
          have pb := psum_bound (l.take k)
          have pl : (l.take k).length ≤ 9 := by simp; omega
          have ps1 : psum (l.take k) ≤ 2304 := by omega
          have ps0 : 0 ≤ psum (l.take k) := pb.1
          clear pb pl
          by_cases hlt : k < l.length
          · obtain ⟨z, hz⟩ : ∃ z, l[k]? = some z := ⟨_, List.getElem?_eq_getElem hlt⟩
            have c1 := hr.cellL hz
            have z0 : (0 : Int) ≤ (z.val : Int) := by omega
            have z8 : (z.val : Int) ≤ 8 := by have := z.2; omega
            have tz := two_bd z
            have tz0 := tz.1
            have tz1 := tz.2
            have hit := at_hit z.val z.2
            have hit1 := hit.1
            have hit2 := hit.2
            have HP := Lib.hid (psum_take hz)
            clear hit tz
            by_cases hk0 : k = 0
            · subst hk0
              obtain ⟨q, hq⟩ : ∃ q, q = psum (l.take 0) := ⟨_, rfl⟩
              rw [← hq] at ps0 ps1 HP ⊢
              have HQ := Lib.hid hq
              clear hq hz
              go_wp2_with fail
              go_at_call 17
              refine (vo23yes (z.val : Int) _ z0 z8).mono ?_
              rintro e V1 ⟨rfl, d1⟩
              go_wp2_with fail
              go_at_call 11
              refine (so17 _ _ _).mono ?_
              rintro e V2 ⟨rfl, d2⟩
              go_wp2_with fail
              go_roundw
              case rel => exact ⟨1, by omega, rfl, by rw [HP.out], (hr.below d1).below d2, (hB.trans (d1.mono hB.size)).trans (d2.mono (Nat.le_trans hB.size d1.size))⟩
              case measure => simp [intOf]; omega
            · obtain ⟨j, rfl⟩ : ∃ j, k = j + 1 := ⟨k - 1, by omega⟩
              obtain ⟨z', hz'⟩ : ∃ z, l[j]? = some z := ⟨_, List.getElem?_eq_getElem (by omega)⟩
              have hlt' := asc_at l j z' z HA.out hz' hz
              have hlt2 : (z'.val : Int) < (z.val : Int) := by omega
              have c0 := hr.cellL hz'
              obtain ⟨q, hq⟩ : ∃ q, q = psum (l.take (j + 1)) := ⟨_, rfl⟩
              rw [← hq] at ps0 ps1 HP ⊢
              have HQ := Lib.hid hq
              clear hq hk0 hlt'
              go_wp2_with fail
              go_at_call 17
              refine (vo23yes (z.val : Int) _ z0 z8).mono ?_
              rintro e V1 ⟨rfl, d1⟩
              go_wp2_with fail
              go_at_call 11
              refine (so17 _ _ _).mono ?_
              rintro e V2 ⟨rfl, d2⟩
              have hr2 := (hr.below d1).below d2
              have c2 := hr2.cellL hz'
              clear hz hz'
              go_wp2_with fail
              go_roundw
              case rel => exact ⟨j + 1 + 1, by omega, by go_num, by rw [HP.out], hr2, (hB.trans (d1.mono hB.size)).trans (d2.mono (Nat.le_trans hB.size d1.size))⟩
              case measure => simp [intOf]; omega
          · obtain rfl : k = l.length := by omega
            have hfin : psum (l.take l.length) = s := by rw [List.take_length]; exact HS.out
            clear ps0 ps1
            go_wp2
            go_ret
            exact ⟨rfl, hB⟩
      | true =>
        obtain ⟨x0, y0⟩ := of_decide_eq_true hok
        have hst : stateOf x y = 3 * x + y := if_pos ⟨x0, y0⟩
        have e1 : (3 * x + y) / 3 = x := by omega
        have e2 : (3 * x + y) % 3 = y := by omega
        go_wp2_with fail
        go_at_call 17
        refine (vo23yes (3 * x + y) _ (by omega) (by omega)).mono ?_
        rintro e W13 ⟨rfl, b13⟩
        go_wp2_with fail
        go_loopw [22, 138] (fun q i wr => ∃ k : Nat, k ≤ l.length ∧ i = .int .i64 k ∧ q = .int .i64 (psum (l.take k)) ∧ Row wr WB (.slice (some ⟨g, 0, none⟩) (l.map fun z => (z.val : Int)).length cap1) (l.map fun z => (z.val : Int)) ∧ Below w.heap.size w wr) (fun _ i _ => l.length - (intOf i).toNat)
        case atStart => exact ⟨0, by omega, rfl, by simp [psum], hr0.below b13, B10.trans (b13.mono B10.size)⟩
        case round =>
          obtain ⟨k, hk, rfl, rfl, hr, hB⟩ := hrel
          have pb := psum_bound (l.take k)
          have pl : (l.take k).length ≤ 9 := by simp; omega
          have ps1 : psum (l.take k) ≤ 2304 := by omega
          have ps0 : 0 ≤ psum (l.take k) := pb.1
          clear pb pl
          by_cases hlt : k < l.length
          · obtain ⟨z, hz⟩ : ∃ z, l[k]? = some z := ⟨_, List.getElem?_eq_getElem hlt⟩
            have c1 := hr.cellL hz
            have z0 : (0 : Int) ≤ (z.val : Int) := by omega
            have z8 : (z.val : Int) ≤ 8 := by have := z.2; omega
            have tz := two_bd z
            have tz0 := tz.1
            have tz1 := tz.2
            have hit := at_hit z.val z.2
            have hit1 := hit.1
            have hit2 := hit.2
            have HP := Lib.hid (psum_take hz)
            clear hit tz
            by_cases hk0 : k = 0
            · subst hk0
              obtain ⟨q, hq⟩ : ∃ q, q = psum (l.take 0) := ⟨_, rfl⟩
              rw [← hq] at ps0 ps1 HP ⊢
              have HQ := Lib.hid hq
              clear hq hz
              go_wp2_with fail
              go_at_call 17
              refine (vo23yes (z.val : Int) _ z0 z8).mono ?_
              rintro e V1 ⟨rfl, d1⟩
              go_wp2_with fail
              go_at_call 11
              refine (so17 _ _ _).mono ?_
              rintro e V2 ⟨rfl, d2⟩
              go_wp2_with fail
              go_roundw
              case rel => exact ⟨1, by omega, rfl, by rw [HP.out], (hr.below d1).below d2, (hB.trans (d1.mono hB.size)).trans (d2.mono (Nat.le_trans hB.size d1.size))⟩
              case measure => simp [intOf]; omega
            · obtain ⟨j, rfl⟩ : ∃ j, k = j + 1 := ⟨k - 1, by omega⟩
              obtain ⟨z', hz'⟩ : ∃ z, l[j]? = some z := ⟨_, List.getElem?_eq_getElem (by omega)⟩
              have hlt' := asc_at l j z' z HA.out hz' hz
              have hlt2 : (z'.val : Int) < (z.val : Int) := by omega
              have c0 := hr.cellL hz'
              obtain ⟨q, hq⟩ : ∃ q, q = psum (l.take (j + 1)) := ⟨_, rfl⟩
              rw [← hq] at ps0 ps1 HP ⊢
              have HQ := Lib.hid hq
              clear hq hk0 hlt'
              go_wp2_with fail
              go_at_call 17
              refine (vo23yes (z.val : Int) _ z0 z8).mono ?_
              rintro e V1 ⟨rfl, d1⟩
              go_wp2_with fail
              go_at_call 11
              refine (so17 _ _ _).mono ?_
              rintro e V2 ⟨rfl, d2⟩
              have hr2 := (hr.below d1).below d2
              have c2 := hr2.cellL hz'
              clear hz hz'
              go_wp2_with fail
              go_roundw
              case rel => exact ⟨j + 1 + 1, by omega, by go_num, by rw [HP.out], hr2, (hB.trans (d1.mono hB.size)).trans (d2.mono (Nat.le_trans hB.size d1.size))⟩
              case measure => simp [intOf]; omega
          · obtain rfl : k = l.length := by omega
            have hfin : psum (l.take l.length) = s := by rw [List.take_length]; exact HS.out
            clear ps0 ps1
            go_wp2
            go_ret
            exact ⟨rfl, hB⟩

theorem walkFnStatesIn (a0 : Option Addr) (len0 cap0 : Nat) (z0 : List Int) (a1 : Option Addr) (len1 cap1 : Nat) (z1 : List Int) (w : World) (w0 : IsRow .u8 w a0 len0 cap0 z0) (w1 : IsRow .u8 w a1 len1 cap1 z1) :
    Calls Try.prog 3 #[.slice a0 len0 cap0, .slice a1 len1 cap1] w fun e w' => e = .returned (.bool true) ∧ Below w.heap.size w w' := by
  by_cases h : len0 ≤ 1048576
  · by_cases h' : len1 ≤ 1048576
    · exact states_walk w a0 a1 len0 cap0 len1 cap1 (Code.ofRow w0) (Code.ofRow w1) h h'
    · exact long_in w a0 a1 len0 cap0 len1 cap1 (.inr ⟨h, by omega⟩)
  · exact long_in w a0 a1 len0 cap0 len1 cap1 (.inl (by omega))
end Go.Proofs.Ytkffgojnicjkmaa

