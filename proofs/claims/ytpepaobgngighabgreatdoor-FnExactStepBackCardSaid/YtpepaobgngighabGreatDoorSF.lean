/- Chapter 8: the walk of the exact law on sequences stepped back. -/
import Derived.Test.YtpepaobgngighabGreatDoorSE
namespace Go.Proofs.YtpepaobgngighabGreatDoor
open Go.ChangeShapes Go.WideShapes Go.ChangeAt Go.RowKit Go.Shelf
attribute [local go_sem] Oper.semAt_some
set_option maxRecDepth 100000

theorem irow_own8 {W : World} {B : Nat} {v : Value} {zs : List Int} (h : IRow W B v zs) {k : Nat} (hk : v.ownBlock = some k) : B ≤ k ∧ k < W.heap.size := by
  rcases h.cases with ⟨rfl, _⟩ | ⟨g, cap, rfl, hb, hl, _⟩
  · cases hk
  · simp [Value.ownBlock] at hk; subst hk; exact ⟨hb, hl⟩
theorem resS_len (ws : List (List UInt8)) (h : ws.length ≤ 1048576) : (resS ws).length ≤ 1000000 := by
  cases ho : okS ws with
  | false => rw [resS_no ho]; simp
  | true =>
    rw [resS_yes ho, List.length_map, backS_len]
    unfold okS at ho
    rw [Bool.and_eq_true, decide_eq_true_eq] at ho
    omega
theorem trow_block {W : World} {B g n : Nat} {ws : List (List UInt8)} (h : TRow W B (.slice (some ⟨g, 0, none⟩) n n) ws) : g < W.heap.size ∧ B ≤ g := by
  rcases h.cases with ⟨he, _⟩ | ⟨g', c, he, hb, hl, _⟩
  · cases he
  · have := congrArg Value.ownBlock he
    simp [Value.ownBlock] at this
    omega
theorem trow_mono {W : World} {B B' : Nat} {v : Value} {ws : List (List UInt8)} (h : TRow W B v ws) (hB : B' ≤ B) : TRow W B' v ws := by
  obtain ⟨h1, h2⟩ := h
  refine ⟨h1, ?_⟩
  rcases h2 with h2 | ⟨g, cap, cur, a, b, c⟩
  · exact .inl h2
  · exact .inr ⟨g, cap, cur, a, Nat.le_trans hB b, c⟩
/-- The program's answer at a list that a call has made. -/
theorem pstepT {W : World} {B g : Nat} {ws : List (List UInt8)} (h : TRow W B (.slice (some ⟨g, 0, none⟩) ws.length ws.length) ws) (hn : ws.length ≤ 1048576) {N : Nat} (hL : Laid3 N W) (hE : NoExit N W) :
    Calls Tryz.prog 13 #[.slice (some ⟨g, 0, none⟩) ws.length ws.length] W fun e W' => ∃ r0, e = .returned (.tuple #[r0, .bool (okS ws)]) ∧ IRow W' W.heap.size r0 (resS ws) ∧ Below W.heap.size W W' :=
  pstep8 hn (trow_block h).1 (fun j b hj => by
    have hl := (List.getElem?_eq_some_iff.1 hj).1
    have := h.cell rfl j hl
    rw [hj] at this
    have e : (⟨g, 0, none⟩ : Addr).add j = ⟨g, j, none⟩ := by
      unfold Addr.add
      by_cases h : j = 0
      · subst h; simp
      · simp [h]
    rw [e]
    exact this) hL hE

set_option maxHeartbeats 8000000 in
theorem walkStepBack (v : Value) (ws : List (List UInt8)) (w : World) (hv : TextsAt w v ws) (hsz : ∀ b ∈ ws, b.length ≤ maxLen) {N : Nat} (hL : Laid3 N w) (hE : NoExit N w) :
    Calls Tryz.prog 4 #[v] w fun e w' => e = .returned (.bool true) ∧ Below w.heap.size w w' := by
  have hS := szT8 hv hsz 1048576 (by omega) (by omega)
  clear hsz
  go_enter Tryz.func4, Tryz.ntmps4
  go_wp2_with fail
  go_at_call 10
  refine hS.mono ?_
  rintro e W1 ⟨z, rfl, hz, b1⟩
  rcases hz with rfl | ⟨hz0, hz1, hz2⟩
  · go_wp2_with fail
    go_ret
    exact ⟨rfl, b1⟩
  · have hnn : ¬ (z < 0) := by omega
    have hn : ws.length ≤ 1048576 := by omega
    have hbs : ∀ b ∈ ws, b.length ≤ 1048576 := fun b hb => by have := hz2 b hb; omega
    have hrl := resS_len ws hn
    have l1 := hv.below b1
    clear hz1 hz2 hz0
    go_wp2_with fail
    go_at_call 12
    refine (toT8 l1 hn).mono ?_
    rintro e W2 ⟨g2, rfl, t2, b2⟩
    have B2 := b1.trans (b2.mono b1.size)
    have a2 := t2.texts
    clear b1 b2 l1
    go_wp2_with fail
    go_at_call 11
    refine (mstep8 a2 hn hbs).mono ?_
    rintro e W3 ⟨r0, rfl, i0, b3⟩
    have B3 := B2.trans (b3.mono B2.size)
    have l3 := hv.below B3
    clear a2 b3 t2
    go_wp2_with fail
    go_at_call 12
    refine (toT8 l3 hn).mono ?_
    rintro e W4 ⟨g4, rfl, t4, b4⟩
    have B4 := B3.trans (b4.mono B3.size)
    have i04 := i0.below b4
    have hg4 := trow_block t4
    have h04 : ∀ k, r0.ownBlock = some k → k < W3.heap.size := fun k hk => (irow_own8 i0 hk).2
    clear i0 l3
    go_wp2_with fail
    go_at_call 13
    refine (pstepT t4 hn (hL.below B4 hL.lt) (hE.below B4 hL.lt)).mono ?_
    rintro e W5 ⟨r1, rfl, i15, b5⟩
    have B5 := B4.trans (b5.mono B4.size)
    have i05 := i04.below b5
    have h15 : ∀ k, r1.ownBlock = some k → W4.heap.size ≤ k := fun k hk => (irow_own8 i15 hk).1
    have t5 := t4.below b5
    generalize hU : resS ws = U at *
    generalize hUs : okS ws = su at *
    go_wp2_with fail
    go_at_call 14
    refine (ieq29 i15 i05).mono ?_
    rintro e W6 ⟨rfl, b6⟩
    have B6 := B5.trans (b6.mono B5.size)
    have l6 := hv.below B6
    have t6 := t5.below b6
    have i16 := i15.below b6
    have i06 := i05.below b6
    clear t5 t4 i04 i05 i15
    go_wp2_with fail
    go_at_call 12
    refine (toT8 l6 hn).mono ?_
    rintro e W7 ⟨g7, rfl, c7, b7⟩
    have B7 := B6.trans (b7.mono B6.size)
    have t7 := t6.below b7
    have i17 := i16.below b7
    have i07 := i06.below b7
    clear l6 t6 i16 i06
    go_wp2_with fail
    go_at_call 15
    refine (teq29 t7 c7).mono ?_
    rintro e W8 ⟨rfl, b8⟩
    have B8 := B7.trans (b8.mono B7.size)
    have i18 := i17.below b8
    have i08 := i07.below b8
    have t8 := t7.below b8
    clear t7 c7 i17 i07
    go_wp2_with fail
    go_at_call 16
    refine (mk30 t8 (by omega)).mono ?_
    rintro e W9 ⟨rfl, _, O9⟩
    have B9 := (trow_mono t8 B3.size).belowOf O9 B8.size B8
    have i19 := i18.kept O9 (by
      cases h : r1.ownBlock with
      | none => exact .inl rfl
      | some k1 => exact .inr (fun e => by have h2 : k1 = g4 := Option.some.inj e; have := h15 k1 h; omega))
    have i09 := i08.kept O9 (by
      cases h : r0.ownBlock with
      | none => exact .inl rfl
      | some k0 => exact .inr (fun e => by have h2 : k0 = g4 := Option.some.inj e; have := h04 k0 h; omega))
    have hmk0 : ¬ ((1 + (ws.length : Int)) < 0) := by omega
    generalize (1 + (ws.length : Int)) = mk9 at hmk0 ⊢
    clear t8 i18 i08 O9
    go_wp2_with fail
    go_at_call 14
    refine (ieq29 i19 i09).mono ?_
    rintro e W10 ⟨rfl, b10⟩
    have B10 := B9.trans (b10.mono B9.size)
    have i110 := i19.below b10
    have i010 := i09.below b10
    have hap : r0.ownBlock = none ∨ r0.ownBlock ≠ r1.ownBlock := by
      cases h0 : r0.ownBlock with
      | none => exact .inl rfl
      | some k0 =>
        refine .inr fun he => ?_
        have q1 := h15 k0 he.symm
        have q2 := h04 k0 h0
        have q3 := b4.size
        omega
    clear i19 i09
    go_wp2_with fail
    go_at_call 17
    refine (imk30 i110 (by omega)).mono ?_
    rintro e W11 ⟨rfl, i111, g11⟩
    have i011 := i010.kept g11 hap
    have B11 := (i110.mono (B' := w.heap.size) (Nat.le_trans B4.size (Nat.le_refl _))).belowOf g11 B10.size B10
    have l11 := hv.below B11
    clear i110 i010 g11
    go_wp2_with fail
    go_at_call 18
    refine (iheld31 i111 hrl).mono ?_
    rintro e W12 ⟨rfl, rfl⟩
    have hq0 : ¬ (1 + (U.length : Int) < 0) := by omega
    go_wp2_with fail
    go_at_call 12
    refine (toT8 l11 hn).mono ?_
    rintro e W13 ⟨g13, rfl, c13, b13⟩
    have B13 := B11.trans (b13.mono B11.size)
    have i113 := i111.below b13
    have i013 := i011.below b13
    clear i111 i011 l11
    go_wp2_with fail
    go_at_call 13
    refine (pstepT c13 hn (hL.below B13 hL.lt) (hE.below B13 hL.lt)).mono ?_
    rintro e W14 ⟨r2, rfl, i214, b14⟩
    rw [hU] at i214
    rw [hUs]
    have B14 := B13.trans (b14.mono B13.size)
    have i114 := i113.below b14
    have i014 := i013.below b14
    clear i113 i013 c13
    go_wp2_with fail
    go_at_call 14
    refine (ieq29 i214 i014).mono ?_
    rintro e W15 ⟨rfl, b15⟩
    have B15 := B14.trans (b15.mono B14.size)
    have i115 := i114.below b15
    go_wp2_with fail
    go_at_call 18
    refine (iheld31 i115 hrl).mono ?_
    rintro e W16 ⟨rfl, rfl⟩
    go_wp2_with fail
    go_ret
    exact ⟨rfl, B15⟩
end Go.Proofs.YtpepaobgngighabGreatDoor

