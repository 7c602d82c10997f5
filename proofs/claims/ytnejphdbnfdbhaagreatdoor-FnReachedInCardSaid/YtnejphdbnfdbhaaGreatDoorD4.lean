/- The drawn arguments of chapter 3: texts that are mostly programs, one, two, and with a test. -/
import Derived.Test.YtnejphdbnfdbhaaGreatDoorD3
namespace Go.Proofs.YtnejphdbnfdbhaaGreatDoor
open Go.ChangeShapes Go.WideShapes Go.ChangeAt Go.RowKit Go.Shelf
set_option maxRecDepth 100000
attribute [local go_sem] Oper.semAt_some

set_option maxHeartbeats 2000000 in
theorem good55 {B : Nat} {W : World} {rb k : Nat} (h : Rd B W rb k) (hk : k ≤ 890000) :
    Calls Tryz.prog 65 #[.pointer (some ⟨rb, 0, none⟩)] W (RanS B rb 1 60 (k + 300) W) := by
  go_enter Tryz.func65, Tryz.ntmps65
  go_wp2_with fail
  go_at_call 66
  refine (pick36 h (by omega) (by omega) (by omega)).mono ?_
  rintro e W1 ⟨x, rfl, x0, x1, h1, g1⟩
  have hG := below_of_grown g1 (by have := h.lt; omega)
  by_cases qx : x = 0
  · subst qx
    go_wp2_with fail
    go_at_call 66
    refine (pick36 h1 (by omega) (by omega) (by omega)).mono ?_
    rintro e W2 ⟨y, rfl, y0, y1, h2, g2⟩
    have hG2 := hG.trans (below_of_grown g2 (by have := h1.lt; omega))
    obtain ⟨q, rfl⟩ : ∃ q : Nat, y = (q : Int) := ⟨y.toNat, by omega⟩
    go_wp2_with fail
    go_at_call 88
    refine (known68 q (by omega) _).mono ?_
    rintro e W3 ⟨⟨t, ht, rfl⟩, hb⟩
    have HT := Lib.hid ht
    clear ht
    go_wp2_with fail
    go_ret
    exact ⟨t, HT.out, rfl, ⟨_, by omega, h2.below hb⟩, hG2.trans (hb.mono (by have := h2.lt; omega))⟩
  · have nx : (x == 0) = false := by simpa using qx
    go_wp2_with fail
    go_at_call 66
    refine (pick36 h1 (by omega) (by omega) (by omega)).mono ?_
    rintro e W2 ⟨y, rfl, y0, y1, h2, g2⟩
    have hG2 := hG.trans (below_of_grown g2 (by have := h1.lt; omega))
    obtain ⟨q, rfl⟩ : ∃ q : Nat, y = (q : Int) := ⟨y.toNat, by omega⟩
    have hc := cost_le (d := q + 1) (by omega)
    have hl := lenB_le (d := q + 1) (by omega)
    have HD := draw69 (q + 1) (by omega) W2 h2 (by omega)
    have hqe : ((q + 1 : Nat) : Int) = 1 + (q : Int) := by omega
    rw [hqe] at HD
    go_wp2_with fail
    go_at_call 89
    refine HD.mono ?_
    rintro e W3 ⟨t, ht, rfl, ⟨j, hj, h3⟩, g3⟩
    by_cases h60 : (t.size : Int) ≤ 60
    · have HT := Lib.hid ht
      clear ht
      go_wp2_with fail
      go_ret
      exact ⟨t, ⟨HT.out.1, by omega⟩, rfl, ⟨j, by omega, h3⟩, hG2.trans g3⟩
    · have h60' : (60 : Int) < (t.size : Int) := by omega
      clear ht
      go_wp2_with fail
      go_ret
      exact ⟨_, by decide, rfl, ⟨j, by omega, h3⟩, hG2.trans g3⟩

theorem ext_size {t : ByteArray} {a b n : Nat} (h : t.size ≤ n) : (t.extract a b).size ≤ n := by
  rw [ByteArray.size_extract]; omega

set_option maxHeartbeats 2000000 in
theorem any38 {B : Nat} {W : World} {rb k : Nat} (h : Rd B W rb k) (hk : k ≤ 880000) :
    Calls Tryz.prog 33 #[.pointer (some ⟨rb, 0, none⟩)] W (RanS B rb 0 130 (k + 310) W) := by
  go_enter Tryz.func33, Tryz.ntmps33
  go_wp2_with fail
  go_at_call 65
  refine (good55 h (by omega)).mono ?_
  rintro e W1 ⟨t, ⟨t1, t2⟩, rfl, ⟨j, hj, h1⟩, hG⟩
  go_wp2_with fail
  go_at_call 66
  refine (pick36 h1 (by omega) (by omega) (by omega)).mono ?_
  rintro e W2 ⟨x, rfl, x0, x1, h2, g2⟩
  have hG2 := hG.trans (below_of_grown g2 (by have := h1.lt; omega))
  by_cases qx : 0 < x
  · go_wp2_with fail
    go_ret
    exact ⟨t, ⟨Nat.zero_le _, by omega⟩, rfl, ⟨_, by omega, h2⟩, hG2⟩
  · have ts1 : (1 : Int) ≤ (t.size : Int) := by omega
    have ts2 : (t.size : Int) ≤ 60 := by omega
    go_wp2_with fail
    go_at_call 66
    refine (pick36 h2 (by omega) (by omega) (by omega)).mono ?_
    rintro e W3 ⟨y, rfl, y0, y1, h3, g3⟩
    have hG3 := hG2.trans (below_of_grown g3 (by have := h2.lt; omega))
    obtain ⟨q, rfl⟩ : ∃ q : Nat, y = (q : Int) := ⟨y.toNat, by omega⟩
    go_wp2_with fail
    have HL := Lib.hid (And.intro t1 t2)
    have hbz : ∀ z : Int, 0 ≤ z → z < 2 → 0 ≤ (q : Int) + z ∧ (q : Int) + z ≤ (t.size : Int) ∧ (¬ (t.size : Int) < (q : Int) + z) ∧ (¬ (q : Int) + z < 0) ∧ (0 ≤ (q : Int) + z ∧ (q : Int) + z ≤ (t.size : Int)) ∧ IntKind.i64.wrap ((q : Int) + z) = (q : Int) + z := fun z a b => ⟨by omega, by omega, by omega, by omega, ⟨by omega, by omega⟩, IntWalk.i64_in _ (by omega)⟩
    clear t1 t2
    go_region_held (fun _ => True) (trivial)
      (first
        | (go_at_call 67; (first | refine Calls.mono (ofPnew (W := W3) (P := fun t => t.size ≤ 5) h3 (by omega) _ 7 ?_ (by omega) (by omega) ?_) ?_ | refine Calls.mono (ofPnew (W := W3.drew) (P := fun t => t.size ≤ 5) h3 (by omega) _ 7 ?_ (by omega) (by omega) ?_) ?_ | refine Calls.mono (ofPnew (W := W3.drew.drew) (P := fun t => t.size ≤ 5) h3 (by omega) _ 7 ?_ (by omega) (by omega) ?_) ?_); (· rfl); (· (intro v hv; simp at hv; rcases hv with rfl | rfl | rfl | rfl | rfl | rfl | rfl <;> exact ⟨_, by decide, rfl⟩)); rintro e W4 ⟨u, hu, rfl, h4, g4⟩; have l1 : q + u.size ≤ 9223372036854775807 := by omega)
        | (go_at_call 66; (first | refine (pick36 (W := W4) h4 (by omega) (by omega) (by omega)).mono ?_ | refine (pick36 (W := W4.drew) h4 (by omega) (by omega) (by omega)).mono ?_); rintro e W5 ⟨z, rfl, z0, z1, h5, g5⟩; obtain ⟨b0, b1, b2, b3, b4, b5⟩ := hbz z z0 z1))
    all_goals go_wp2_with fail
    all_goals
      go_ret
      have e4 : Below rb W W4 := by first | exact hG3.trans g4 | exact hG3.drew.trans g4 | exact hG3.drew.drew.trans g4
      have e5 : Below rb W W5 := by first | exact e4.trans (below_of_grown g5 (by have := h4.lt; omega)) | exact e4.drew.trans (below_of_grown g5 (by have : rb < W4.heap.size := h4.lt; show rb ≤ W4.heap.size; omega))
      have hsz : (t.extract 0 q ++ u ++ t.extract ((q : Int) + z).toNat t.size).size ≤ 130 := by
        rw [ByteArray.size_append, ByteArray.size_append]
        have a1 := ext_size (a := 0) (b := q) HL.out.2
        have a2 := ext_size (a := ((q : Int) + z).toNat) (b := t.size) HL.out.2
        omega
      first | exact ⟨_, ⟨Nat.zero_le _, hsz⟩, rfl, ⟨_, by omega, h5⟩, e5⟩ | exact ⟨_, ⟨Nat.zero_le _, hsz⟩, rfl, ⟨_, by omega, h5⟩, e5.drew⟩



end Go.Proofs.YtnejphdbnfdbhaaGreatDoor

