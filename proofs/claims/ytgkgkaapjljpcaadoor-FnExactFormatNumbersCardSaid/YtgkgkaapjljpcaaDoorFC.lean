/- Chapter 12: the walk of the law on lists of numbers, and its argument opened. -/
import Derived.Test.YtgkgkaapjljpcaaDoorFB
import Derived.OpenShut
namespace Go.Proofs.YtgkgkaapjljpcaaDoor
open Go.ChangeShapes Go.WideShapes Go.ChangeAt Go.RowKit Go.Shelf
attribute [local go_sem] Oper.semAt_some
set_option maxRecDepth 100000

theorem IntsAt.belowF {W W' : World} {v : Value} {zs : List Int} (h : IntsAt W v zs) (hb : Below W.heap.size W W') : IntsAt W' v zs := by
  obtain ⟨a, cap, e, h1, h2, h3⟩ := h
  refine ⟨a, cap, e, h1, h2, ?_⟩
  rcases h3 with h3 | ⟨b, off, e, h3⟩
  · exact .inl h3
  · exact .inr ⟨b, off, e, fun j z hz => (hb.cell (p := ⟨b, off + j, none⟩) (lt_of_cell' (h3 j z hz))).trans (h3 j z hz)⟩
section
variable {H : Type} {enc : TypeId × Value → H} {W : World} {base : Nat} {held : Bool}
theorem intsF_of {n : Nat} {cs : List Value} {x : DataW H × List MemPlace} (h : DataW.trod enc Tryd.prog W base (fun _ => true) held n 23 cs = some x) : ∃ v zs, cs = [v] ∧ IntsAt W v zs ∧ InI zs := by
  rcases open_ints Tryd.underlying23 Tryd.underlying3 (by kernel_rfl) h with ⟨hcs, _⟩ | ⟨a, l, c, zs, hcs, _, hl, hm, hz, _, hcell, hwf⟩
  · exact ⟨_, [], hcs, ⟨none, 0, rfl, Nat.le_refl _, Nat.zero_le _, .inl rfl⟩, fun j z hz => by simp at hz⟩
  · have hz' : zs.length = c := by simpa using hz
    refine ⟨_, zs.take l, hcs, ⟨some a, c, by rw [List.length_take, Nat.min_eq_left (by omega)], by rw [List.length_take]; omega, hm, ?_⟩, ?_⟩
    · by_cases h0 : zs.take l = []
      · exact .inl h0
      · have hp : 0 < zs.length := by
          cases zs with
          | nil => simp at h0
          | cons _ _ => simp
        obtain ⟨b, off, rfl, hc⟩ := ints_at hcell hp
        refine .inr ⟨b, off, rfl, fun j z hj => ?_⟩
        have hjl : j < (zs.take l).length := (List.getElem?_eq_some_iff.1 hj).1
        rw [List.length_take] at hjl
        rw [hc j (by omega)]
        rw [List.getElem?_take] at hj
        split at hj
        · rw [List.getD_eq_getElem?_getD, hj]; rfl
        · cases hj
    · intro j z hj
      rw [List.getElem?_take] at hj
      split at hj
      · have := hwf z (List.mem_of_getElem? hj)
        simp [Lit.wf, IntKind.min, IntKind.max, IntKind.signed, IntKind.bits] at this
        omega
      · cases hj
end
set_option maxHeartbeats 2000000 in
theorem walkFormatNumbers (v : Value) (zs : List Int) (W : World) (hI : IntsAt W v zs) (hin : InI zs) (hP : Lib.TabIs Tryd.prog W "internal/strconv.uint64pow10" .u64 Lib.pow10Tab) :
    Calls Tryd.prog 4 #[v] W fun e w' => e = .returned (.bool true) ∧ Below W.heap.size W w' := by
  by_cases hlt : zs.length ≤ 1048576
  · have hmod := fun X v (h : IntsAt X v zs) => mnums h hlt hin
    have hprog := fun X v (h : IntsAt X v zs) (hp : Pows X) => pnums h hlt hin hp
    have hto := fun X v (h : IntsAt X v zs) => toI109 h hlt
    have heq := fun X v1 v2 (h1 : IntsAt X v1 zs) (h2 : IntsAt X v2 zs) => ieqI h1 h2
    obtain ⟨a, cap, rfl, h1, h2, h3⟩ := id hI
    have hlti : (zs.length : Int) ≤ 1048576 := by omega
    have hPl := Pows.lt hP
    generalize numsL zs = l at hmod hprog
    clear h1 h2 h3
    go_enter Tryd.func4, Tryd.ntmps4
    go_wp2_with fail
    go_at_call 20
    refine (hto _ _ hI).mono ?_
    rintro e W1 ⟨g1, rfl, hR1, hb1⟩
    have I1 := hI.belowF hb1
    go_wp2_with fail
    go_at_call 17
    refine (hmod _ _ hR1.ints).mono ?_
    rintro e W2 ⟨rfl, hb2⟩
    have I2 := I1.belowF hb2
    have B2 := hb1.trans (hb2.mono hb1.size)
    go_wp2_with fail
    go_at_call 20
    refine (hto _ _ I2).mono ?_
    rintro e W3 ⟨g3, rfl, hR3, hb3⟩
    have I3 := I2.belowF hb3
    have R3 := hR3.ints
    have B3 := B2.trans (hb3.mono B2.size)
    have P3 := Pows.below (W := W) hP B3 hPl
    go_wp2_with fail
    go_at_call 16
    refine (hprog _ _ R3 P3).mono ?_
    rintro e W4 ⟨rfl, hb4⟩
    have I4 := I3.belowF hb4
    have R4 := R3.belowF hb4
    have B4 := B3.trans (hb4.mono B3.size)
    go_wp2_with fail
    go_at_call 20
    refine (hto _ _ I4).mono ?_
    rintro e W5 ⟨g5, rfl, hR5, hb5⟩
    have R5 := R4.belowF hb5
    have B5 := B4.trans (hb5.mono B4.size)
    go_wp2_with fail
    go_at_call 21
    refine (heq _ _ _ R5 hR5.ints).mono ?_
    rintro e W6 ⟨rfl, hb6⟩
    go_wp2_with fail
    go_ret
    exact ⟨rfl, B5.trans (hb6.mono B5.size)⟩
  · obtain ⟨a, cap, rfl, h1, h2, h3⟩ := hI
    have hlti : (1048576 : Int) < (zs.length : Int) := by omega
    go_enter Tryd.func4, Tryd.ntmps4
    go_wp2
    go_ret
    exact ⟨rfl, Below.refl _ _⟩
end Go.Proofs.YtgkgkaapjljpcaaDoor

