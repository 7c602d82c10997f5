/- Chapter 10: the walks of the exact laws on runs with choices. -/
import Derived.Test.YtfoifcbpognjaaaDoorJL
import Derived.Test.YtfoifcbpognjaaaDoorKI
namespace Go.Proofs.YtfoifcbpognjaaaDoor
open Go.ChangeShapes Go.WideShapes Go.ChangeAt Go.RowKit Go.Shelf
attribute [local go_sem] Oper.semAt_some
set_option maxRecDepth 100000

set_option maxHeartbeats 2000000 in
theorem walkRunWith (t : ByteArray) (s : Int) (c : ByteArray) (hm : t.size ≤ maxLen) (hmc : c.size ≤ maxLen) (w : World) {N : Nat} (hL : Laid3 N w) (hE : NotRight N w) :
    Calls Tryd.prog 3 #[.string t, .int .i64 s, .string c] w fun e w' => e = .returned (.bool true) ∧ Below w.heap.size w w' := by
  unfold maxLen at hm hmc
  by_cases hlt : t.size ≤ 1048576
  · have hlti : (t.size : Int) ≤ 1048576 := by omega
    by_cases hlc : c.size ≤ 1048576
    · have hlci : (c.size : Int) ≤ 1048576 := by omega
      have hmod := fun W => mrunwith t c (by omega) s W
      have hprog := fun (X : World) (hX : Laid3 N X) (hY : NotRight N X) => prunwith t c s X hX hY
      generalize exO (run10 t s c) = z at hmod hprog
      generalize stO (run10 t s c) = y at hmod hprog
      generalize (run10 t s c).isSome = b at hmod hprog
      go_enter Tryd.func3, Tryd.ntmps3
      go_wp2_with (first
        | (go_at_call 6; refine (hmod _).mono ?_; rintro e W1 ⟨rfl, hb1⟩; have hL1 := hL.below hb1 hL.lt; have hE1 := hE.below hb1 hL.lt)
        | (go_at_call 7; refine (hprog _ hL1 hE1).mono ?_; rintro e W2 ⟨rfl, hb2⟩))
      go_ret
      exact ⟨rfl, hb1.trans (hb2.mono hb1.size)⟩
    · have hlci : (1048576 : Int) < (c.size : Int) := by omega
      go_enter Tryd.func3, Tryd.ntmps3
      go_wp2
      go_ret
      exact ⟨rfl, Below.refl _ _⟩
  · have hlti : (1048576 : Int) < (t.size : Int) := by omega
    go_enter Tryd.func3, Tryd.ntmps3
    go_wp2
    go_ret
    exact ⟨rfl, Below.refl _ _⟩
set_option maxHeartbeats 2000000 in
theorem walkChoicesRight (t : ByteArray) (s : Int) (c : ByteArray) (hm : t.size ≤ maxLen) (hmc : c.size ≤ maxLen) (w : World) {N : Nat} (hL : Laid3 N w) (hE : NotRight N w) :
    Calls Tryd.prog 4 #[.string t, .int .i64 s, .string c] w fun e w' => e = .returned (.bool true) ∧ Below w.heap.size w w' := by
  unfold maxLen at hm hmc
  by_cases hlt : t.size ≤ 1048576
  · have hlti : (t.size : Int) ≤ 1048576 := by omega
    by_cases hlc : c.size ≤ 1048576
    · have hlci : (c.size : Int) ≤ 1048576 := by omega
      have hmod := fun W => mright t c (by omega) s W
      have hprog := fun (X : World) (hX : Laid3 N X) (hY : NotRight N X) => pright t c s X hX hY
      generalize (run10 t s c).isSome = b at hmod hprog
      go_enter Tryd.func4, Tryd.ntmps4
      go_wp2_with (first
        | (go_at_call 8; refine (hmod _).mono ?_; rintro e W1 ⟨rfl, hb1⟩; have hL1 := hL.below hb1 hL.lt; have hE1 := hE.below hb1 hL.lt)
        | (go_at_call 9; refine (hprog _ hL1 hE1).mono ?_; rintro e W2 ⟨rfl, hb2⟩))
      go_ret
      exact ⟨rfl, hb1.trans (hb2.mono hb1.size)⟩
    · have hlci : (1048576 : Int) < (c.size : Int) := by omega
      go_enter Tryd.func4, Tryd.ntmps4
      go_wp2
      go_ret
      exact ⟨rfl, Below.refl _ _⟩
  · have hlti : (1048576 : Int) < (t.size : Int) := by omega
    go_enter Tryd.func4, Tryd.ntmps4
    go_wp2
    go_ret
    exact ⟨rfl, Below.refl _ _⟩
theorem tr_small (t : ByteArray) (s : Int) (c : ByteArray) : (trO (run10 t s c)).length ≤ 1000000 := by
  cases h : run10 t s c with
  | none => simp [trO]
  | some r =>
    show r.tr.length ≤ _
    cases hP : readP t.toList with
    | none => rw [run10_none hP] at h; cases h
    | some nd =>
      cases hs : isSt s with
      | false => rw [run10_st hs] at h; cases h
      | true =>
        by_cases hc : c.size ≤ 40
        · obtain ⟨_, hl, _⟩ := run10_went (t := t) hP hs hc
          rw [run10_yes hP hs hc rfl] at h
          split at h
          · rw [← Option.some.inj h]; exact hl
          · cases h
        · rw [run10_long (by omega)] at h; cases h
theorem irow_own {W : World} {B : Nat} {v : Value} {zs : List Int} (h : IRow W B v zs) {k : Nat} (hk : v.ownBlock = some k) : B ≤ k ∧ k < W.heap.size := h.own k hk
set_option maxHeartbeats 4000000 in
theorem walkTraceOf (t : ByteArray) (s : Int) (c : ByteArray) (hm : t.size ≤ maxLen) (hmc : c.size ≤ maxLen) (w : World) {N : Nat} (hL : Laid3 N w) (hE : NotRight N w) :
    Calls Tryd.prog 5 #[.string t, .int .i64 s, .string c] w fun e w' => e = .returned (.bool true) ∧ Below w.heap.size w w' := by
  unfold maxLen at hm hmc
  by_cases hlt : t.size ≤ 1048576
  · have hlti : (t.size : Int) ≤ 1048576 := by omega
    by_cases hlc : c.size ≤ 1048576
    · have hlci : (c.size : Int) ≤ 1048576 := by omega
      have hmod := fun W => mtrace t c (by omega) s W
      have hprog := fun (X : World) (hX : Laid3 N X) (hY : NotRight N X) => ptrace t c s X hX hY
      have hus := tr_small t s c
      generalize trO (run10 t s c) = U at *
      generalize (run10 t s c).isSome = su at *
      go_enter Tryd.func5, Tryd.ntmps5
      go_wp2_with fail
      go_at_call 10
      refine (hmod _).mono ?_
      rintro e W1 ⟨r0, rfl, i0, b1⟩
      have l1 := hL.below b1 hL.lt
      have n1 := hE.below b1 hL.lt
      have h04 : ∀ k, r0.ownBlock = some k → k < W1.heap.size := fun k hk => (irow_own i0 hk).2
      go_wp2_with fail
      go_at_call 11
      refine (hprog _ l1 n1).mono ?_
      rintro e W2 ⟨r1, rfl, i15, b2⟩
      have B2 := b1.trans (b2.mono b1.size)
      have i02 := i0.below b2
      have h15 : ∀ k, r1.ownBlock = some k → W1.heap.size ≤ k := fun k hk => (irow_own i15 hk).1
      have l2 := hL.below B2 hL.lt
      have n2 := hE.below B2 hL.lt
      clear i0 l1 n1
      go_wp2_with fail
      go_at_call 12
      refine (ieq29 i15 i02).mono ?_
      rintro e W3 ⟨rfl, b3⟩
      have B3 := B2.trans (b3.mono B2.size)
      have i13 := i15.below b3
      have i03 := i02.below b3
      have hap : r0.ownBlock = none ∨ r0.ownBlock ≠ r1.ownBlock := by
        cases h0 : r0.ownBlock with
        | none => exact .inl rfl
        | some k0 =>
          refine .inr fun he => ?_
          have q1 := h15 k0 he.symm
          have q2 := h04 k0 h0
          omega
      clear i15 i02 l2 n2
      go_wp2_with fail
      go_at_call 13
      refine (imk30 i13 (by omega)).mono ?_
      rintro e W4 ⟨rfl, i14, g4⟩
      have i04 := i03.kept g4 hap
      have B4 := (i13.mono (B' := w.heap.size) b1.size).belowOf g4 B3.size B3
      have l4 := hL.below B4 hL.lt
      have n4 := hE.below B4 hL.lt
      clear i13 i03 g4
      go_wp2_with fail
      go_at_call 14
      refine (iheld31 i14 hus).mono ?_
      rintro e W5 ⟨rfl, rfl⟩
      have hq0 : ¬ (1 + (U.length : Int) < 0) := by omega
      go_wp2_with fail
      go_at_call 11
      refine (hprog _ l4 n4).mono ?_
      rintro e W6 ⟨r2, rfl, i26, b6⟩
      have B6 := B4.trans (b6.mono B4.size)
      have i16 := i14.below b6
      have i06 := i04.below b6
      clear i14 i04 l4 n4
      go_wp2_with fail
      go_at_call 12
      refine (ieq29 i26 i06).mono ?_
      rintro e W7 ⟨rfl, b7⟩
      have B7 := B6.trans (b7.mono B6.size)
      have i17 := i16.below b7
      go_wp2_with fail
      go_at_call 14
      refine (iheld31 i17 hus).mono ?_
      rintro e W8 ⟨rfl, rfl⟩
      go_wp2_with fail
      go_ret
      exact ⟨rfl, B7⟩
    · have hlci : (1048576 : Int) < (c.size : Int) := by omega
      go_enter Tryd.func5, Tryd.ntmps5
      go_wp2
      go_ret
      exact ⟨rfl, Below.refl _ _⟩
  · have hlti : (1048576 : Int) < (t.size : Int) := by omega
    go_enter Tryd.func5, Tryd.ntmps5
    go_wp2
    go_ret
    exact ⟨rfl, Below.refl _ _⟩
end Go.Proofs.YtfoifcbpognjaaaDoor

