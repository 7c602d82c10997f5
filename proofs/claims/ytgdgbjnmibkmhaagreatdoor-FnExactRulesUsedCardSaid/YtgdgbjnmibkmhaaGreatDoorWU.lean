/- Chapter 6: the walk of the exact law on how often each rule is used. -/
import Derived.Test.YtgdgbjnmibkmhaaGreatDoorUS
import Derived.Test.YtgdgbjnmibkmhaaGreatDoorHM
import Derived.Test.YtgdgbjnmibkmhaaGreatDoorTF
namespace Go.Proofs.YtgdgbjnmibkmhaaGreatDoor
open Go.ChangeShapes Go.WideShapes Go.ChangeAt Go.RowKit Go.Shelf
attribute [local go_sem] Oper.semAt_some
set_option maxRecDepth 100000

theorem refs_le : ∀ {ls : List LineD} {l : LineD}, l ∈ ls → l.refs.length ≤ wtL ls
  | x :: ls, l, h => by
    unfold wtL
    rw [List.map_cons, List.sum_cons]
    rcases List.mem_cons.1 h with rfl | h
    · unfold wt1; omega
    · have := refs_le h
      unfold wtL at this
      omega
theorem rsum_le : ∀ (ls : List LineD), rsum ls ≤ wtL ls
  | [] => Nat.le_refl _
  | l :: ls => by
    have := rsum_le ls
    unfold rsum wtL at *
    rw [List.map_cons, List.sum_cons, List.map_cons, List.sum_cons]
    have h1 : l.refs.length ≤ wt1 l := by unfold wt1; omega
    omega
theorem lines_of {B : Nat} {W : World} {g : Nat} {ls : List LineD} (hn : ls.length ≤ 1048576) (h : ∀ (j : Nat) l, ls[j]? = some l → OLine B W g (j * 6) l) : LinesAt W (.slice (some ⟨g, 0, none⟩) ls.length ls.length) ls :=
  ⟨_, _, rfl, Nat.le_refl _, by unfold maxLen; omega, .inr ⟨g, 0, rfl, fun j l hl => by rw [Nat.zero_add]; exact (h j l hl).line⟩⟩
theorem Out.to_below {g hi n : Nat} {A W W' : World} (h : Below n A W) (hO : Out g hi W W') (hn : n ≤ g) (hw : n ≤ W.heap.size) : Below n A W' :=
  ⟨hO.os.trans h.os, hO.tape.trans h.tape, hO.output.trans h.output, Nat.le_trans h.size hO.size, fun i hi' => (hO.block i (Nat.lt_of_lt_of_le hi' hw) (.inl (Nat.lt_of_lt_of_le hi' hn))).trans (h.block i hi')⟩
theorem IRow.out {g hi B : Nat} {W W' : World} {v : Value} {zs : List Int} (h : IRow W B v zs) (hO : Out g hi W W') (hb : ∀ k, v.ownBlock = some k → k < g ∨ hi ≤ k) : IRow W' B v zs := by
  obtain ⟨h1, h2⟩ := h
  refine ⟨h1, ?_⟩
  rcases h2 with h2 | ⟨k, cap, cur, rfl, b, c, d⟩
  · exact .inl h2
  · exact .inr ⟨k, cap, cur, rfl, b, (hO.block k (Array.getElem?_eq_some_iff.1 c).1 (hb k rfl)).trans c, d⟩
theorem irow_own {W : World} {B : Nat} {v : Value} {zs : List Int} (h : IRow W B v zs) {k : Nat} (hk : v.ownBlock = some k) : B ≤ k ∧ k < W.heap.size := by
  rcases h.cases with ⟨rfl, _⟩ | ⟨g, cap, rfl, hb, hl, _⟩
  · cases hk
  · simp [Value.ownBlock] at hk; subst hk; exact ⟨hb, hl⟩
theorem used_small (ls : List LineD) : ((usedO ls).getD []).length ≤ 1000000 := by
  cases h : usedO ls with
  | none => simp
  | some r => have := used_len ls zeros11 (by decide) r h; simp [this]
theorem refs_at {W : World} {g : Nat} {l : LineD} {o : Nat} (h : OLine (g + 1) W g o l) (_ : g < W.heap.size) : RefsAt g W.heap.size W (o + 5) l.refs.length := by
  obtain ⟨_, _, k, c, r⟩ := h
  obtain ⟨b1, b2⟩ := irow_own r rfl
  exact ⟨k, l.refs, c, b1, b2, rfl, r⟩
set_option maxHeartbeats 8000000 in
theorem walkRulesUsed (v : Value) (ls : List LineD) (w : World) (hls : LinesAt w v ls) (hsz : ∀ l ∈ ls, l.t.p.size ≤ maxLen ∧ l.rule.size ≤ maxLen) {N : Nat} (_ : Laid3 N w) (_ : NoTrip N w) :
    Calls Tryz.prog 6 #[v] w fun e w' => e = .returned (.bool true) ∧ Below w.heap.size w w' := by
  have hS := szS55 hls hsz 1048576 (by omega) (by omega)
  by_cases hfit : ls.length + wtL ls ≤ 1048576
  · have hso : szOf (ls.length + wtL ls) 1048576 = 1048576 - ((ls.length + wtL ls : Nat) : Int) := if_pos (by omega)
    rw [hso] at hS
    have hnn : ¬ ((1048576 : Int) - ((ls.length + wtL ls : Nat) : Int) < 0) := by omega
    have hn : ls.length ≤ 1048576 := by omega
    have hrl : ∀ l ∈ ls, l.refs.length ≤ 1048576 := fun l hl => by have := refs_le hl; omega
    have hrs : ls.length + rsum ls ≤ 1048576 := by have := rsum_le ls; omega
    have hus := used_small ls
    generalize (1048576 : Int) - ((ls.length + wtL ls : Nat) : Int) = left at hS hnn
    clear hso hfit hsz
    go_enter Tryz.func6, Tryz.ntmps6
    go_wp2_with fail
    go_at_call 17
    refine hS.mono ?_
    rintro e W1 ⟨rfl, b1⟩
    have l1 := hls.below b1
    go_wp2_with fail
    go_at_call 19
    refine (toS56 l1 hn hrl).mono ?_
    rintro e W2 ⟨rfl, _, o2, b2⟩
    have B2 := b1.trans (b2.mono b1.size)
    have a2 := lines_of hn o2
    clear o2
    go_wp2_with fail
    go_at_call 26
    refine (mused28 a2 hn).mono ?_
    rintro e W3 ⟨r0, rfl, i0, b3⟩
    have B3 := B2.trans (b3.mono B2.size)
    have l3 := hls.below B3
    clear a2 b2 l1 b1
    go_wp2_with fail
    go_at_call 19
    refine (toS56 l3 hn hrl).mono ?_
    rintro e W4 ⟨rfl, k4, o4, b4⟩
    have B4 := B3.trans (b4.mono B3.size)
    have a4 := lines_of hn o4
    have i04 := i0.below b4
    have hg4 := k4.lt
    have h04 : ∀ k, r0.ownBlock = some k → k < W3.heap.size := fun k hk => (irow_own i0 hk).2
    clear i0 l3
    go_wp2_with fail
    go_at_call 27
    refine (pused27 a4 hn).mono ?_
    rintro e W5 ⟨r1, rfl, i15, b5⟩
    have B5 := B4.trans (b5.mono B4.size)
    have i05 := i04.below b5
    have h15 : ∀ k, r1.ownBlock = some k → W4.heap.size ≤ k := fun k hk => (irow_own i15 hk).1
    generalize hU : (usedO ls).getD [] = U at *
    generalize hUs : (usedO ls).isSome = su at *
    have hxx := fun (j : Nat) l (hl : ls[j]? = some l) => o4 j l hl
    have a5 := a4.below b5
    go_wp2_with fail
    go_at_call 28
    refine (ieq29 i15 i05).mono ?_
    rintro e W6 ⟨rfl, b6⟩
    have B6 := B5.trans (b6.mono B5.size)
    have l6 := hls.below B6
    have a6 := a5.below b6
    have i16 := i15.below b6
    have i06 := i05.below b6
    clear a4 a5 i04 i05 i15
    go_wp2_with fail
    go_at_call 19
    refine (toS56 l6 hn hrl).mono ?_
    rintro e W7 ⟨rfl, _, o7, b7⟩
    have B7 := B6.trans (b7.mono B6.size)
    have c7 := lines_of hn o7
    have a7 := a6.below b7
    have i17 := i16.below b7
    have i07 := i06.below b7
    clear o7 l6 a6 i16 i06
    go_wp2_with fail
    go_at_call 21
    refine (eqS57 a7 c7 hn).mono ?_
    rintro e W8 ⟨rfl, b8⟩
    have B8 := B7.trans (b8.mono B7.size)
    have i18 := i17.below b8
    have i08 := i07.below b8
    have X8 : Below W4.heap.size W4 W8 := ((b5.trans (b6.mono b5.size)).trans (b7.mono (Nat.le_trans b5.size b6.size))).trans (b8.mono (Nat.le_trans b5.size (Nat.le_trans b6.size b7.size)))
    have k8 := k4.below X8 hg4
    have R8 := fun (j : Nat) l (hl : ls[j]? = some l) => (refs_at (o4 j l hl) hg4).below X8
    clear a7 c7 i17 i07 o4 k4 hxx
    go_wp2_with fail
    go_at_call 29
    refine (mkL60 k8 R8 hg4 hrs).mono ?_
    rintro e W9 ⟨rfl, O9⟩
    have B9 := O9.to_below B8 B3.size B8.size
    have i19 := i18.out O9 (fun k hk => .inr (h15 k hk))
    have i09 := i08.out O9 (fun k hk => .inl (h04 k hk))
    have hmk0 : ¬ (((1 + 5 * ls.length + rsum ls : Nat) : Int) < 0) := by omega
    generalize ((1 + 5 * ls.length + rsum ls : Nat) : Int) = mk9 at hmk0 ⊢
    clear k8 R8 i18 i08 O9
    go_wp2_with fail
    go_at_call 28
    refine (ieq29 i19 i09).mono ?_
    rintro e W10 ⟨rfl, b10⟩
    have B10 := B9.trans (b10.mono B9.size)
    have i110 := i19.below b10
    have i010 := i09.below b10
    have hap : r0.ownBlock = none ∨ r0.ownBlock ≠ r1.ownBlock := by
      cases h0 : r0.ownBlock with
      | none => exact .inl rfl
      | some k0 =>
        refine .inr fun he => ?_
        have q1 := h15 k0 he.symm
        have q2 := h04 k0 h0
        have q3 := b4.size
        omega
    clear i19 i09
    go_wp2_with fail
    go_at_call 30
    refine (imk30 i110 (by omega)).mono ?_
    rintro e W11 ⟨rfl, i111, g11⟩
    have i011 := i010.kept g11 hap
    have B11 := (i110.mono (B' := w.heap.size) (Nat.le_trans B4.size (Nat.le_refl _))).belowOf g11 B10.size B10
    have l11 := hls.below B11
    clear i110 i010 g11
    go_wp2_with fail
    go_at_call 31
    refine (iheld31 i111 hus).mono ?_
    rintro e W12 ⟨rfl, rfl⟩
    have hq0 : ¬ (1 + (U.length : Int) < 0) := by omega
    go_wp2_with fail
    go_at_call 19
    refine (toS56 l11 hn hrl).mono ?_
    rintro e W13 ⟨rfl, _, o13, b13⟩
    have B13 := B11.trans (b13.mono B11.size)
    have a13 := lines_of hn o13
    have i113 := i111.below b13
    have i013 := i011.below b13
    clear o13 i111 i011 l11
    go_wp2_with fail
    go_at_call 27
    refine (pused27 a13 hn).mono ?_
    rintro e W14 ⟨r2, rfl, i214, b14⟩
    rw [hU] at i214
    rw [hUs]
    have B14 := B13.trans (b14.mono B13.size)
    have i114 := i113.below b14
    have i014 := i013.below b14
    clear i113 i013 a13
    go_wp2_with fail
    go_at_call 28
    refine (ieq29 i214 i014).mono ?_
    rintro e W15 ⟨rfl, b15⟩
    have B15 := B14.trans (b15.mono B14.size)
    have i115 := i114.below b15
    go_wp2_with fail
    go_at_call 31
    refine (iheld31 i115 hus).mono ?_
    rintro e W16 ⟨rfl, rfl⟩
    go_wp2_with fail
    go_ret
    exact ⟨rfl, B15⟩
  · have hso : szOf (ls.length + wtL ls) 1048576 = -1 := if_neg (by omega)
    rw [hso] at hS
    go_enter Tryz.func6, Tryz.ntmps6
    go_wp2_with fail
    go_at_call 17
    refine hS.mono ?_
    rintro e W1 ⟨rfl, b1⟩
    go_wp2_with fail
    go_ret
    exact ⟨rfl, b1⟩
end Go.Proofs.YtgdgbjnmibkmhaaGreatDoor

