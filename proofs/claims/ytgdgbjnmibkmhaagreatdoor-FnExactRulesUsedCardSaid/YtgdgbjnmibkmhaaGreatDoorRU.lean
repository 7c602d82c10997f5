/- Chapter 6: the index of a word among the rules, the model's and the program's. -/
import Derived.Test.YtgdgbjnmibkmhaaGreatDoorTI
namespace Go.Proofs.YtgdgbjnmibkmhaaGreatDoor
open Go.ChangeShapes Go.WideShapes Go.ChangeAt Go.RowKit Go.Shelf
attribute [local go_sem] Oper.semAt_some
set_option maxRecDepth 100000


/-! ### The index of a word -/
def ixV (t : List UInt8) : Int := match ixR t with
  | some k => (k : Int)
  | none => -1
theorem ixV_hit {k : Nat} {t : List UInt8} (hk : k < 11) (h : rulesL[k]? = some t) : ixV t = (k : Int) := by unfold ixV; rw [ix_hit k t hk h]
theorem ixV_miss {t : List UInt8} (h : ∀ k, k < 11 → rulesL[k]? ≠ some t) : ixV t = -1 := by unfold ixV; rw [ix_miss h]
theorem word_of (w : List UInt8) : (⟨w.toArray⟩ : ByteArray).toList = w := by rw [Lib.toList_data]
theorem rule_at {k : Nat} (hk : k < 11) : ∃ w, rulesL[k]? = some w := ⟨rulesL[k]'hk, List.getElem?_eq_getElem hk⟩
set_option maxHeartbeats 1000000 in
theorem mix89 (t : ByteArray) (W : World) :
    Calls Tryz.prog 38 #[.string t] W fun e W' => e = .returned (.int .i64 (ixV t.toList)) ∧ Below W.heap.size W W' := by
  have HM := Lib.hid (fun h => ixV_miss (t := t.toList) h)
  have HH := Lib.hid (fun k hk h => ixV_hit (k := k) (t := t.toList) hk h)
  generalize ixV t.toList = z at HM HH ⊢
  go_enter Tryz.func38, Tryz.ntmps38
  go_wp2_with fail
  go_at_call 52
  refine (mrules32 _).mono ?_
  rintro e W1 ⟨v, rfl, hown, hb⟩
  obtain ⟨g, cap, rfl, hg, hcells⟩ := texts_at (ws := rulesL) hown (by decide)
  have HC := Lib.hid hcells
  rw [show rulesL.length = 11 from rfl]
  clear hown hcells
  go_wp2_with fail
  go_loopw [7] (fun i wr => ∃ k : Nat, k ≤ 11 ∧ i = .int .i64 (k : Int) ∧ (∀ j, j < k → rulesL[j]? ≠ some t.toList) ∧ wr = W1) (fun i _ => 11 - (intOf i).toNat)
  case atStart => exact ⟨0, by omega, rfl, fun j hj => by omega, rfl⟩
  case round =>
    obtain ⟨k, hk, rfl, hno, rfl⟩ := hrel
    by_cases hlt : k < 11
    · have hlt2 : (k : Int) < 11 := by omega
      obtain ⟨w, hw⟩ := rule_at hlt
      have hc := HC.out k w hw
      cases q : (w == t.toList) with
      | true =>
        have hq : w = t.toList := eq_of_beq q
        have hz := HH.out k hlt (by rw [hw, hq])
        go_wp2_with fail
        go_ret
        exact ⟨by rw [hz]; rfl, hb⟩
      | false =>
        have hq : w ≠ t.toList := fun e => by rw [e] at q; simp at q
        go_wp2_with fail
        go_roundw
        case rel => exact ⟨k + 1, by omega, by go_num, fun j hj => by
          by_cases he : j = k
          · subst he; rw [hw]; exact fun e => hq (Option.some.inj e)
          · exact hno j (by omega), trivial⟩
        case measure => simp [intOf]; omega
    · have hkn : k = 11 := by omega
      subst hkn
      have hz := HM.out hno
      go_wp2_with fail
      go_ret
      exact ⟨by rw [hz]; rfl, hb⟩
set_option maxHeartbeats 1000000 in
theorem pix88 (t : ByteArray) (W : World) (B : Nat) (v : Value) (hown : W.ownsRow B 9 1 v 11 (texts rulesL)) :
    Calls Tryz.prog 54 #[v, .string t] W fun e W' => e = .returned (.int .i64 (ixV t.toList)) ∧ W' = W := by
  have HM := Lib.hid (fun h => ixV_miss (t := t.toList) h)
  have HH := Lib.hid (fun k hk h => ixV_hit (k := k) (t := t.toList) hk h)
  generalize ixV t.toList = z at HM HH ⊢
  obtain ⟨g, cap, rfl, hg, hcells⟩ := texts_at (ws := rulesL) hown (by decide)
  have HC := Lib.hid hcells
  rw [show rulesL.length = 11 from rfl]
  clear hown hcells
  obtain ⟨W0, hW0⟩ : ∃ W0, W0 = W := ⟨_, rfl⟩
  go_enter Tryz.func54, Tryz.ntmps54
  go_wp2_with fail
  go_loopw [8] (fun i wr => ∃ k : Nat, k ≤ 11 ∧ i = .int .i64 (k : Int) ∧ (∀ j, j < k → rulesL[j]? ≠ some t.toList) ∧ wr = W0) (fun i _ => 11 - (intOf i).toNat)
  case atStart => exact ⟨0, by omega, rfl, fun j hj => by omega, hW0.symm⟩
  case round =>
    obtain ⟨k, hk, rfl, hno, hwr⟩ := hrel
    subst hwr
    subst hW0
    by_cases hlt : k < 11
    · have hlt2 : (k : Int) < 11 := by omega
      obtain ⟨w, hw⟩ := rule_at hlt
      have hc := HC.out k w hw
      cases q : (t.toList == w) with
      | true =>
        have hq : w = t.toList := (eq_of_beq q).symm
        have hz := HH.out k hlt (by rw [hw, hq])
        go_wp2_with fail
        go_ret
        exact ⟨by rw [hz]; rfl, rfl⟩
      | false =>
        have hq : w ≠ t.toList := fun e => by rw [e] at q; simp at q
        go_wp2_with fail
        go_roundw
        case rel => exact ⟨k + 1, by omega, by go_num, fun j hj => by
          by_cases he : j = k
          · subst he; rw [hw]; exact fun e => hq (Option.some.inj e)
          · exact hno j (by omega), trivial⟩
        case measure => simp [intOf]; omega
    · have hkn : k = 11 := by omega
      subst hkn
      have hz := HM.out hno
      go_wp2_with fail
      go_ret
      exact ⟨by rw [hz]; rfl, rfl⟩
end Go.Proofs.YtgdgbjnmibkmhaaGreatDoor

