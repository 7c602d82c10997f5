/- The walks of the exact laws on programs: all but that of their parts. -/
import Derived.Test.YtemilnkglkpnjaaDoorN9
import Derived.Test.YtemilnkglkpnjaaDoorQ13
import Derived.Test.YtemilnkglkpnjaaDoorN12
namespace Go.Proofs.YtemilnkglkpnjaaDoor
open Go.ChangeShapes Go.WideShapes Go.ChangeAt Go.RowKit Go.Shelf
attribute [local go_sem] Oper.semAt_some
set_option maxRecDepth 100000

theorem walkProgramValid (t : ByteArray) (hm : t.size ≤ maxLen) (w : World) {N : Nat} (hL : Laid3 N w) :
    Calls Tryd.prog 5 #[.string t] w fun e w' => e = .returned (.bool true) ∧ Below w.heap.size w w' := by
  unfold maxLen at hm
  by_cases hlt : t.size ≤ 1048576
  · have hlti : (t.size : Int) ≤ 1048576 := by omega
    have hmod := valid21 t (by omega)
    have hprog := fun (X : World) (hX : Laid3 N X) => pvalid20 t X hX
    obtain ⟨b, hvv⟩ : ∃ b, b = isP t.toList := ⟨_, rfl⟩
    rw [← hvv] at hmod
    simp only [← hvv] at hprog
    clear hvv
    go_enter Tryd.func5, Tryd.ntmps5
    go_wp2_with (first
      | (go_at_call 21; refine (hmod _).mono ?_; rintro e W1 ⟨rfl, hb1⟩; have hL1 := hL.below hb1 hL.lt)
      | (go_at_call 20; refine (hprog _ hL1).mono ?_; rintro e W2 ⟨rfl, hb2⟩))
    go_ret
    exact ⟨rfl, hb1.trans (hb2.mono hb1.size)⟩
  · have hlti : (1048576 : Int) < (t.size : Int) := by omega
    go_enter Tryd.func5, Tryd.ntmps5
    go_wp2
    go_ret
    exact ⟨rfl, Below.refl _ _⟩

theorem walkKindOf (t : ByteArray) (hm : t.size ≤ maxLen) (w : World) {N : Nat} (hL : Laid3 N w) :
    Calls Tryd.prog 6 #[.string t] w fun e w' => e = .returned (.bool true) ∧ Below w.heap.size w w' := by
  unfold maxLen at hm
  by_cases hlt : t.size ≤ 1048576
  · have hlti : (t.size : Int) ≤ 1048576 := by omega
    have hmod := kind19 t (by omega)
    have hprog := fun (X : World) (hX : Laid3 N X) => pkind16 t X hX
    obtain ⟨b, hvv⟩ : ∃ b, b = (⟨(kindP t.toList).toArray⟩ : ByteArray) := ⟨_, rfl⟩
    rw [← hvv] at hmod
    simp only [← hvv] at hprog
    clear hvv
    go_enter Tryd.func6, Tryd.ntmps6
    go_wp2_with (first
      | (go_at_call 19; refine (hmod _).mono ?_; rintro e W1 ⟨rfl, hb1⟩; have hL1 := hL.below hb1 hL.lt)
      | (go_at_call 16; refine (hprog _ hL1).mono ?_; rintro e W2 ⟨rfl, hb2⟩))
    go_ret
    exact ⟨rfl, hb1.trans (hb2.mono hb1.size)⟩
  · have hlti : (1048576 : Int) < (t.size : Int) := by omega
    go_enter Tryd.func6, Tryd.ntmps6
    go_wp2
    go_ret
    exact ⟨rfl, Below.refl _ _⟩

theorem walkSizeOf (t : ByteArray) (hm : t.size ≤ maxLen) (w : World) {N : Nat} (hL : Laid3 N w) :
    Calls Tryd.prog 12 #[.string t] w fun e w' => e = .returned (.bool true) ∧ Below w.heap.size w w' := by
  unfold maxLen at hm
  by_cases hlt : t.size ≤ 1048576
  · have hlti : (t.size : Int) ≤ 1048576 := by omega
    have hmod := size23 t (by omega)
    have hprog := fun (X : World) (hX : Laid3 N X) => psize22 t X hX
    obtain ⟨b, hvv⟩ : ∃ b, b = sizeP t.toList := ⟨_, rfl⟩
    rw [← hvv] at hmod
    simp only [← hvv] at hprog
    clear hvv
    go_enter Tryd.func12, Tryd.ntmps12
    go_wp2_with (first
      | (go_at_call 23; refine (hmod _).mono ?_; rintro e W1 ⟨rfl, hb1⟩; have hL1 := hL.below hb1 hL.lt)
      | (go_at_call 22; refine (hprog _ hL1).mono ?_; rintro e W2 ⟨rfl, hb2⟩))
    go_ret
    exact ⟨rfl, hb1.trans (hb2.mono hb1.size)⟩
  · have hlti : (1048576 : Int) < (t.size : Int) := by omega
    go_enter Tryd.func12, Tryd.ntmps12
    go_wp2
    go_ret
    exact ⟨rfl, Below.refl _ _⟩

theorem walkLoopsIn (t : ByteArray) (hm : t.size ≤ maxLen) (w : World) {N : Nat} (hL : Laid3 N w) :
    Calls Tryd.prog 13 #[.string t] w fun e w' => e = .returned (.bool true) ∧ Below w.heap.size w w' := by
  unfold maxLen at hm
  by_cases hlt : t.size ≤ 1048576
  · have hlti : (t.size : Int) ≤ 1048576 := by omega
    have hmod := loops25 t (by omega)
    have hprog := fun (X : World) (hX : Laid3 N X) => ploops24 t X hX
    obtain ⟨b, hvv⟩ : ∃ b, b = loopsP t.toList := ⟨_, rfl⟩
    rw [← hvv] at hmod
    simp only [← hvv] at hprog
    clear hvv
    go_enter Tryd.func13, Tryd.ntmps13
    go_wp2_with (first
      | (go_at_call 25; refine (hmod _).mono ?_; rintro e W1 ⟨rfl, hb1⟩; have hL1 := hL.below hb1 hL.lt)
      | (go_at_call 24; refine (hprog _ hL1).mono ?_; rintro e W2 ⟨rfl, hb2⟩))
    go_ret
    exact ⟨rfl, hb1.trans (hb2.mono hb1.size)⟩
  · have hlti : (1048576 : Int) < (t.size : Int) := by omega
    go_enter Tryd.func13, Tryd.ntmps13
    go_wp2
    go_ret
    exact ⟨rfl, Below.refl _ _⟩

theorem walkLoopOf (t : ByteArray) (hm : t.size ≤ maxLen) (w : World) {N : Nat} (hL : Laid3 N w) :
    Calls Tryd.prog 10 #[.string t] w fun e w' => e = .returned (.bool true) ∧ Below w.heap.size w w' := by
  unfold maxLen at hm
  by_cases hlt : t.size ≤ 1048576
  · have hlti : (t.size : Int) ≤ 1048576 := by omega
    have hmod := loop33 t (by omega)
    have hprog := fun (X : World) (hX : Laid3 N X) => ploop28 t X hX
    obtain ⟨s, b, hv⟩ := madeV_tuple (loopTx t) [t]
    rw [hv] at hmod
    simp only [hv] at hprog
    clear hv
    go_enter Tryd.func10, Tryd.ntmps10
    go_wp2_with (first
      | (go_at_call 33; refine (hmod _).mono ?_; rintro e W1 ⟨rfl, hb1⟩; have hL1 := hL.below hb1 hL.lt)
      | (go_at_call 28; refine (hprog _ hL1).mono ?_; rintro e W2 ⟨rfl, hb2⟩))
    go_ret
    exact ⟨rfl, hb1.trans (hb2.mono hb1.size)⟩
  · have hlti : (1048576 : Int) < (t.size : Int) := by omega
    go_enter Tryd.func10, Tryd.ntmps10
    go_wp2
    go_ret
    exact ⟨rfl, Below.refl _ _⟩

theorem walkSequenceOf (p q : ByteArray) (hp : p.size ≤ maxLen) (hq : q.size ≤ maxLen) (w : World) {N : Nat} (hL : Laid3 N w) :
    Calls Tryd.prog 8 #[.string p, .string q] w fun e w' => e = .returned (.bool true) ∧ Below w.heap.size w w' := by
  unfold maxLen at hp hq
  by_cases hlp : p.size ≤ 1048576
  · have hlpi : (p.size : Int) ≤ 1048576 := by omega
    by_cases hlq : q.size ≤ 1048576
    · have hlqi : (q.size : Int) ≤ 1048576 := by omega
      have hmod := seq31 p q (by omega) (by omega)
      have hprog := fun (X : World) (hX : Laid3 N X) => pseq26 p q X hX
      obtain ⟨s, b, hv⟩ := madeV_tuple (pairTx 59 p q) [p, q]
      rw [hv] at hmod
      simp only [hv] at hprog
      clear hv
      go_enter Tryd.func8, Tryd.ntmps8
      go_wp2_with (first
        | (go_at_call 31; refine (hmod _).mono ?_; rintro e W1 ⟨rfl, hb1⟩; have hL1 := hL.below hb1 hL.lt)
        | (go_at_call 26; refine (hprog _ hL1).mono ?_; rintro e W2 ⟨rfl, hb2⟩))
      go_ret
      exact ⟨rfl, hb1.trans (hb2.mono hb1.size)⟩
    · have hlqi : (1048576 : Int) < (q.size : Int) := by omega
      go_enter Tryd.func8, Tryd.ntmps8
      go_wp2
      go_ret
      exact ⟨rfl, Below.refl _ _⟩
  · have hlpi : (1048576 : Int) < (p.size : Int) := by omega
    go_enter Tryd.func8, Tryd.ntmps8
    go_wp2
    go_ret
    exact ⟨rfl, Below.refl _ _⟩

theorem walkChoiceOf (p q : ByteArray) (hp : p.size ≤ maxLen) (hq : q.size ≤ maxLen) (w : World) {N : Nat} (hL : Laid3 N w) :
    Calls Tryd.prog 9 #[.string p, .string q] w fun e w' => e = .returned (.bool true) ∧ Below w.heap.size w w' := by
  unfold maxLen at hp hq
  by_cases hlp : p.size ≤ 1048576
  · have hlpi : (p.size : Int) ≤ 1048576 := by omega
    by_cases hlq : q.size ≤ 1048576
    · have hlqi : (q.size : Int) ≤ 1048576 := by omega
      have hmod := choice32 p q (by omega) (by omega)
      have hprog := fun (X : World) (hX : Laid3 N X) => pchoice27 p q X hX
      obtain ⟨s, b, hv⟩ := madeV_tuple (pairTx 124 p q) [p, q]
      rw [hv] at hmod
      simp only [hv] at hprog
      clear hv
      go_enter Tryd.func9, Tryd.ntmps9
      go_wp2_with (first
        | (go_at_call 32; refine (hmod _).mono ?_; rintro e W1 ⟨rfl, hb1⟩; have hL1 := hL.below hb1 hL.lt)
        | (go_at_call 27; refine (hprog _ hL1).mono ?_; rintro e W2 ⟨rfl, hb2⟩))
      go_ret
      exact ⟨rfl, hb1.trans (hb2.mono hb1.size)⟩
    · have hlqi : (1048576 : Int) < (q.size : Int) := by omega
      go_enter Tryd.func9, Tryd.ntmps9
      go_wp2
      go_ret
      exact ⟨rfl, Below.refl _ _⟩
  · have hlpi : (1048576 : Int) < (p.size : Int) := by omega
    go_enter Tryd.func9, Tryd.ntmps9
    go_wp2
    go_ret
    exact ⟨rfl, Below.refl _ _⟩

theorem ifV_tuple (t p q : ByteArray) : ∃ s b, ifV t p q = .tuple #[.string s, .bool b] := by
  unfold ifV
  split
  · exact ⟨_, _, rfl⟩
  · exact madeV_tuple _ _
theorem walkIfOf (t p q : ByteArray) (ht : t.size ≤ maxLen) (hp : p.size ≤ maxLen) (hq : q.size ≤ maxLen) (w : World) {N : Nat} (hL : Laid3 N w) :
    Calls Tryd.prog 11 #[.string t, .string p, .string q] w fun e w' => e = .returned (.bool true) ∧ Below w.heap.size w w' := by
  have ht0 := ht
  unfold maxLen at hp hq ht
  by_cases hlt : t.size ≤ 1048576
  · have hlti : (t.size : Int) ≤ 1048576 := by omega
    by_cases hlp : p.size ≤ 1048576
    · have hlpi : (p.size : Int) ≤ 1048576 := by omega
      by_cases hlq : q.size ≤ 1048576
      · have hlqi : (q.size : Int) ≤ 1048576 := by omega
        have hmod := if34 t p q (by omega) (by omega)
        have hprog := fun (X : World) (hX : Laid3 N X) => pif30 t p q ht0 X hX
        obtain ⟨s, b, hv⟩ := ifV_tuple t p q
        rw [hv] at hmod
        simp only [hv] at hprog
        clear hv
        go_enter Tryd.func11, Tryd.ntmps11
        go_wp2_with (first
          | (go_at_call 34; refine (hmod _).mono ?_; rintro e W1 ⟨rfl, hb1⟩; have hL1 := hL.below hb1 hL.lt)
          | (go_at_call 30; refine (hprog _ hL1).mono ?_; rintro e W2 ⟨rfl, hb2⟩))
        go_ret
        exact ⟨rfl, hb1.trans (hb2.mono hb1.size)⟩
      · have hlqi : (1048576 : Int) < (q.size : Int) := by omega
        go_enter Tryd.func11, Tryd.ntmps11
        go_wp2
        go_ret
        exact ⟨rfl, Below.refl _ _⟩
    · have hlpi : (1048576 : Int) < (p.size : Int) := by omega
      go_enter Tryd.func11, Tryd.ntmps11
      go_wp2
      go_ret
      exact ⟨rfl, Below.refl _ _⟩
  · have hlti : (1048576 : Int) < (t.size : Int) := by omega
    go_enter Tryd.func11, Tryd.ntmps11
    go_wp2
    go_ret
    exact ⟨rfl, Below.refl _ _⟩
end Go.Proofs.YtemilnkglkpnjaaDoor
