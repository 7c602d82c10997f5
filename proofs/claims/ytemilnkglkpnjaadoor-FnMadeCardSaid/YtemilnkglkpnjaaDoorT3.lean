/- Where a test holds, by the model. -/
import Derived.Test.YtemilnkglkpnjaaDoorT2
namespace Go.Proofs.YtemilnkglkpnjaaDoor
open Go.ChangeShapes Go.WideShapes Go.ChangeAt Go.RowKit Go.Shelf Go.Maps
set_option maxRecDepth 100000
attribute [local go_sem] Oper.semAt_some

theorem holds43 (c0 c1 c2 : UInt8) (h : c1 = 61 ∨ c1 = 35 ∨ c1 = 60) (k : Nat) (hk : k ≤ 8) (w : World) :
    Calls Tryd.prog 83 #[.string ⟨#[c0, c1, c2]⟩, .int .i64 (k : Int)] w fun e w' => e = .returned (.bool (holdsB c0.toNat c1.toNat c2.toNat k)) ∧ Below w.heap.size w w' := by
  have a0 : (0 : Int) ≤ (c0.toNat : Int) := by omega
  have a1 : (c0.toNat : Int) ≤ 255 := by have := c0.toNat_lt; omega
  have b0 : (0 : Int) ≤ (c2.toNat : Int) := by omega
  have b1 : (c2.toNat : Int) ≤ 255 := by have := c2.toNat_lt; omega
  have k0 : (0 : Int) ≤ (k : Int) := by omega
  have k8 : (k : Int) ≤ 8 := by omega
  have hA : ∀ h : 0 < (⟨#[c0, c1, c2]⟩ : ByteArray).size, (⟨#[c0, c1, c2]⟩ : ByteArray)[0]'h = c0 := fun _ => rfl
  have hB : ∀ h : 1 < (⟨#[c0, c1, c2]⟩ : ByteArray).size, (⟨#[c0, c1, c2]⟩ : ByteArray)[1]'h = c1 := fun _ => rfl
  have hC : ∀ h : 2 < (⟨#[c0, c1, c2]⟩ : ByteArray).size, (⟨#[c0, c1, c2]⟩ : ByteArray)[2]'h = c2 := fun _ => rfl
  rcases h with rfl | rfl | rfl <;>
  · go_enter Tryd.func83, Tryd.ntmps83
    go_wp2_with fail
    go_quiet (first | (go_at_call 94; refine Calls.quiet_of_same ((value58 _ _ (by assumption) (by assumption) k0 k8 _).mono fun _ _ h => ⟨h.1, h.2.symm⟩)))
    go_wp2
    go_ret
    exact ⟨rfl, below_drewN (Below.refl _ _) _⟩

set_option maxHeartbeats 1000000 in
theorem where35 (c0 c1 c2 : UInt8) (h : c1 = 61 ∨ c1 = 35 ∨ c1 = 60) (w : World) :
    Calls Tryd.prog 67 #[.string ⟨#[c0, c1, c2]⟩] w fun e w' => e = .returned (.int .i64 (whereB c0.toNat c1.toNat c2.toNat 9)) ∧ Below w.heap.size w w' := by
  go_enter Tryd.func67, Tryd.ntmps67
  go_wp2
  go_loopw [3, 5] (fun s i wr => ∃ k : Nat, k ≤ 9 ∧ i = .int .i64 k ∧ s = .int .i64 (whereB c0.toNat c1.toNat c2.toNat k) ∧ Below w.heap.size w wr) (fun _ i _ => 9 - (intOf i).toNat)
  case atStart => exact ⟨0, by omega, rfl, rfl, Below.refl _ _⟩
  case round =>
    obtain ⟨k, hk, rfl, rfl, hB2⟩ := hrel
    by_cases hlt : k < 9
    · have k0 : (0 : Int) ≤ (k : Int) := by omega
      have k8 : (k : Int) ≤ 8 := by omega
      have tz0 := (pow_bd9 ⟨k, by omega⟩).1
      have tz1 := (pow_bd9 ⟨k, by omega⟩).2
      dsimp only at tz0 tz1
      cases hh : holdsB c0.toNat c1.toNat c2.toNat k with
      | true =>
        have hu := Lib.hid (where_hit hh)
        have H := Lib.hid hh
        clear hh
        go_wp2_with (go_at_call 83; refine (holds43 c0 c1 c2 h k (by omega) _).mono ?_; rintro e w2 ⟨rfl, hb2⟩; rw [H.out])
        go_roundw
        case rel => exact ⟨k + 1, by omega, by go_num, by rw [hu.out], hB2.trans (hb2.mono hB2.size)⟩
        case measure => simp [intOf]; omega
      | false =>
        have hu := Lib.hid (where_miss hh)
        have H := Lib.hid hh
        clear hh
        go_wp2_with (go_at_call 83; refine (holds43 c0 c1 c2 h k (by omega) _).mono ?_; rintro e w2 ⟨rfl, hb2⟩; rw [H.out])
        go_roundw
        case rel => exact ⟨k + 1, by omega, by go_num, by rw [hu.out], hB2.trans (hb2.mono hB2.size)⟩
        case measure => simp [intOf]; omega
    · obtain rfl : k = 9 := by omega
      go_wp2
      go_ret
      exact ⟨rfl, hB2⟩
end Go.Proofs.YtemilnkglkpnjaaDoor

