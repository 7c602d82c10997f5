/- Chapter 9: what is drawn for the laws. Chapter 9, plain words: when all is reached, what more times reach, what unrolled programs are. Chapter 9: the walk of the law on what is reached with so many times. A tied card whose call can start goroutines somewhere among what it might reach: the cell 'goes' set. -/
import Derived.Test.YtnejphdbnfdbhaaGreatDoorDR
import Derived.Test.YtnejphdbnfdbhaaGreatDoorYf
import Derived.Test.YtnejphdbnfdbhaaGreatDoorYh
import Derived.Test.YtnejphdbnfdbhaaGreatDoorYc
import Derived.Test.YtnejphdbnfdbhaaGreatDoorUG
import Derived.Test.YtnejphdbnfdbhaaGreatDoorYe
import Derived.Test.YtnejphdbnfdbhaaGreatDoorTree
import Derived.SevenTiedAt
import Derived.Conc.Holds
import Derived.Leaving
namespace Go.Proofs.YtnejphdbnfdbhaaGreatDoor
open Go.ChangeShapes Go.WideShapes Go.ChangeAt Go.RowKit Go.Shelf
set_option maxRecDepth 100000
attribute [local go_sem] Oper.semAt_some

theorem times24 {B : Nat} {W : World} {rb k : Nat} (h : Rd B W rb k) (hk : k ≤ 900000) :
    Calls Tryz.prog 36 #[.pointer (some ⟨rb, 0, none⟩)] W (Ran B rb (k + 1) W) := by
  go_enter Tryz.func36, Tryz.ntmps36
  go_wp2_with fail
  go_at_call 68
  refine Calls.mono (num38new h (by omega) _ 9 ?_ (by omega) (by omega) ?_) ?_
  · rfl
  · intro v hv
    simp only [List.mem_cons, List.not_mem_nil, or_false] at hv
    rcases hv with rfl | rfl | rfl | rfl | rfl | rfl | rfl | rfl | rfl <;> exact ⟨_, rfl⟩
  rintro e W7 ⟨z, rfl, h7, g7⟩
  go_wp2
  go_ret
  exact ⟨z, rfl, ⟨_, by omega, h7⟩, g7⟩
theorem drawRI {B : Nat} {W : World} {a : Option Addr} {len cap : Nat} (h : Code B W a len cap) (hB : B ≤ W.heap.size) :
    Calls Tryz.prog 7 #[.slice a len cap] W fun e W' => ∃ (p : ByteArray) (s x k : Int), p.size ≤ 130 ∧ e = .returned (.tuple #[.string p, .int .i64 s, .int .i64 x, .int .i64 k]) ∧ Below W.heap.size W W' := by
  go_enter Tryz.func7, Tryz.ntmps7
  go_wp2_with fail
  go_at_call 32
  refine (open33 h hB).mono ?_
  rintro e W1 ⟨rfl, h1, b1, _⟩
  go_wp2_with fail
  go_at_call 33
  refine (any38 h1 (by omega)).mono ?_
  rintro e W2 ⟨p, hp, rfl, ⟨j, hj, h2⟩, g2⟩
  go_wp2_with fail
  go_at_call 34
  refine (draw32 h2 (by omega)).mono ?_
  rintro e W3 ⟨s, rfl, ⟨j3, hj3, h3⟩, g3⟩
  go_wp2_with fail
  go_at_call 35
  refine (exit24 h3 (by omega)).mono ?_
  rintro e W4 ⟨x, rfl, ⟨j4, hj4, h4⟩, g4⟩
  go_wp2_with fail
  go_at_call 36
  refine (times24 h4 (by omega)).mono ?_
  rintro e W5 ⟨k, rfl, _, g5⟩
  go_wp2_with fail
  refine bodyPost_ret (v := .tuple #[.string p, .int .i64 s, .int .i64 x, .int .i64 k]) (by simp [results, Tryz.results7, go_sem]) rfl ?_
  exact ⟨p, s, x, k, hp.2, rfl, (((b1.trans g2).trans g3).trans g4).trans g5⟩
theorem drawUn {B : Nat} {W : World} {a : Option Addr} {len cap : Nat} (h : Code B W a len cap) (hB : B ≤ W.heap.size) :
    Calls Tryz.prog 14 #[.slice a len cap] W fun e W' => ∃ (p : ByteArray) (k : Int), p.size ≤ 130 ∧ e = .returned (.tuple #[.string p, .int .i64 k]) ∧ Below W.heap.size W W' := by
  go_enter Tryz.func14, Tryz.ntmps14
  go_wp2_with fail
  go_at_call 32
  refine (open33 h hB).mono ?_
  rintro e W1 ⟨rfl, h1, b1, _⟩
  go_wp2_with fail
  go_at_call 33
  refine (any38 h1 (by omega)).mono ?_
  rintro e W2 ⟨p, hp, rfl, ⟨j, hj, h2⟩, g2⟩
  go_wp2_with fail
  go_at_call 36
  refine (times24 h2 (by omega)).mono ?_
  rintro e W3 ⟨k, rfl, _, g3⟩
  go_wp2_with fail
  refine bodyPost_ret (v := .tuple #[.string p, .int .i64 k]) (by simp [results, Tryz.results14, go_sem]) rfl ?_
  exact ⟨p, k, hp.2, rfl, (b1.trans g2).trans g3⟩
end Go.Proofs.YtnejphdbnfdbhaaGreatDoor

namespace Go.Proofs.YtnejphdbnfdbhaaGreatDoor
open Go.ChangeShapes Go.WideShapes Go.ChangeAt Go.RowKit Go.Shelf
set_option maxRecDepth 100000

theorem least_is {f : Nat → Bool} : ∀ (n s t : Nat), s ≤ t → t ≤ s + n → f t = true → f (leastT f n s) = true ∧ leastT f n s ≤ t ∧ ∀ j, s ≤ j → j < leastT f n s → f j = false
  | 0, s, t, h1, h2, h3 => by
    obtain rfl : s = t := by omega
    exact ⟨h3, Nat.le_refl _, fun j ha hb => absurd hb (by show ¬ j < s; omega)⟩
  | n + 1, s, t, h1, h2, h3 => by
    unfold leastT
    by_cases e : f s = true
    · rw [if_pos e]
      exact ⟨e, h1, fun j ha hb => absurd hb (by omega)⟩
    · rw [if_neg e]
      have hne : s ≠ t := fun h => e (by rw [h]; exact h3)
      obtain ⟨k1, k2, k3⟩ := least_is n (s + 1) t (by omega) (by omega) h3
      refine ⟨k1, k2, fun j ha hb => ?_⟩
      by_cases hj : j = s
      · rw [hj]; exact Bool.eq_false_iff.2 e
      · exact k3 j (by omega) hb
theorem exitT_lt {nd : Node} (hok : nd.ok) {m : Nat} (hm : m < 512) (x : Int) (T : Nat) : exitN x (runT T nd m) < 512 := by
  unfold exitN; split <;> first | exact (runT_lt T nd hok m hm).2 | exact (runT_lt T nd hok m hm).1
theorem exitR_lt {nd : Node} (hok : nd.ok) {m : Nat} (hm : m < 512) (x : Int) : exitN x (runR nd m) < 512 := by
  unfold exitN; split <;> first | exact (run_lt nd hok m hm).2 | exact (run_lt nd hok m hm).1
/-- All is reached from so many times on, and not before. -/
theorem all_from {nd : Node} (hok : nd.ok) {m : Nat} (hm : m < 512) (x : Int) (T : Nat) : exitN x (runT T nd m) = exitN x (runR nd m) ↔ forN nd x m ≤ T := by
  obtain ⟨h1, h2, h3⟩ := least_is (f := allAt nd x m) 12 0 12 (Nat.zero_le _) (by omega) (all_twelve hok x hm)
  change allAt nd x m (forN nd x m) = true at h1
  change ∀ j, 0 ≤ j → j < forN nd x m → allAt nd x m j = false at h3
  constructor
  · intro h
    rcases Nat.lt_or_ge T (forN nd x m) with hlt | hge
    · have := h3 T (Nat.zero_le _) hlt
      rw [show allAt nd x m T = true from decide_eq_true h] at this
      cases this
    · exact hge
  · intro h
    obtain ⟨d, rfl⟩ : ∃ d, T = forN nd x m + d := ⟨T - forN nd x m, by omega⟩
    have e1 : exitN x (runT (forN nd x m) nd m) = exitN x (runR nd m) := of_decide_eq_true h1
    have a1 := exit_in (runT_more (forN nd x m) d nd m) x
    have a2 := exit_in (runT_within (forN nd x m + d) hok hm) x
    rw [e1] at a1
    rw [Nat.or_comm] at a1
    exact a1.symm.trans a2
theorem isP_unr {nd : Node} (h : nd.ok) (k : Nat) (hl : (unrN k nd).text.length ≤ 60) : isP (unrN k nd).text = true ∧ loopsP (unrN k nd).text = 0 := by
  have hr := unr_read h k hl
  unfold isP loopsP
  rw [hr]
  refine ⟨rfl, ?_⟩
  dsimp only
  rw [unr_loops]
  rfl
theorem unroll_yes {t : ByteArray} {k : Int} (h : unrollOk t k = true) : ∃ nd T, readP t.toList = some nd ∧ T ≤ 12 ∧ k = ((T : Nat) : Int) ∧ (unrN T nd).text.length ≤ 60 ∧ unrollT t k = (unrN T nd).text := by
  cases hP : readP t.toList with
  | none => rw [unroll_bad (.inl hP)] at h; cases h
  | some nd =>
    cases hK : isK k with
    | false => rw [unroll_bad (.inr hK)] at h; cases h
    | true =>
      have hb := of_decide_eq_true hK
      have e : k = ((k.toNat : Nat) : Int) := by omega
      have h2 : (unrN k.toNat nd).text.length ≤ 60 := by
        unfold unrollOk at h
        rw [hP, hK] at h
        exact of_decide_eq_true h
      refine ⟨nd, k.toNat, rfl, by omega, e, h2, ?_⟩
      unfold unrollT
      rw [hP, hK]
      dsimp only
      rw [decide_eq_true h2]
      rfl
end Go.Proofs.YtnejphdbnfdbhaaGreatDoor

namespace Go.Proofs.YtnejphdbnfdbhaaGreatDoor
open Go.ChangeShapes Go.WideShapes Go.ChangeAt Go.RowKit Go.Shelf
attribute [local go_sem] Oper.semAt_some
set_option maxRecDepth 100000

set_option maxHeartbeats 4000000 in
theorem reachedin_walk (w : World) (a : Option Addr) (len cap : Nat) (hc : Code w.heap.size w a len cap) (hl : len ≤ 1048576) {N : Nat} (hL : Laid3 N w) :
    Calls Tryz.prog 3 #[.slice a len cap] w fun e w' => e = .returned (.bool true) ∧ Below w.heap.size w w' := by
  have l1 : (len : Int) ≤ 1048576 := by omega
  have HC := Lib.hid hc
  clear hc
  go_enter Tryz.func3, Tryz.ntmps3
  go_wp2_with fail
  go_at_call 7
  refine (drawRI HC.out (Nat.le_refl _)).mono ?_
  rintro e W0 ⟨t, s, x, k, ht, rfl, hcur⟩
  have cI := fun (k : Int) (X : World) (hX : Below w.heap.size w X) => pin t s x k X (hL.below hX hL.lt)
  have cF := fun (X : World) (hX : Below w.heap.size w X) => pfor t s x X (hL.below hX hL.lt)
  have cR := fun (X : World) (hX : Below w.heap.size w X) => preach10 t s x X (hL.below hX hL.lt)
  have mI := fun (X : World) => mreachin t (by omega) s x k X
  have mF := fun (X : World) => mfor t (by omega) s x X
  cases hb : reachB t s x with
  | false =>
    have h0 : inOk t s x k = false := by unfold inOk; rw [hb]; rfl
    have cI := cI k
    simp only [h0, min_no h0, for_no hb, reach_false hb, hb] at cI cF cR mI mF
    clear hb h0
    go_wp2_with (first
      | (go_at_call 8; refine (cI _ hcur).mono ?_; rintro e Wk ⟨rfl, hb⟩; replace hcur := hcur.trans (hb.mono hcur.size); clear hb)
      | (go_at_call 9; refine (mI _).mono ?_; rintro e Wk ⟨rfl, hb⟩; replace hcur := hcur.trans (hb.mono hcur.size); clear hb)
      | (go_at_call 10; refine (cF _ hcur).mono ?_; rintro e Wk ⟨rfl, hb⟩; replace hcur := hcur.trans (hb.mono hcur.size); clear hb)
      | (go_at_call 11; refine (mF _).mono ?_; rintro e Wk ⟨rfl, hb⟩; replace hcur := hcur.trans (hb.mono hcur.size); clear hb)
      | (go_at_call 12; refine (cR _ hcur).mono ?_; rintro e Wk ⟨rfl, hb⟩; replace hcur := hcur.trans (hb.mono hcur.size); clear hb))
    go_ret
    exact ⟨rfl, hcur⟩
  | true =>
    obtain ⟨nd, m, hP, hm, rfl, hx, hn⟩ := reach_true hb
    obtain ⟨hok, _⟩ := readP_iff.1 hP
    have hF : forZ t (m : Int) x = ((forN nd x m : Nat) : Int) := by
      unfold forZ
      rw [hP]
      dsimp only
      rw [hb]
      rfl
    simp only [hF, hn, hb] at cF cR mF
    have hn0 : (0 : Int) ≤ ((forN nd x m : Nat) : Int) := by omega
    cases hK : isK k with
    | false =>
      have h0 : inOk t (m : Int) x k = false := by unfold inOk; rw [hK, Bool.and_false]
      have cI0 := cI k
      simp only [h0, min_no h0] at cI0 mI
      clear hb h0 hK hn hF cI hok hP
      generalize exitN x (runR nd m) = b at cR
      generalize forN nd x m = n at cF mF hn0
      go_wp2_with (first
        | (go_at_call 8; refine (cI0 _ hcur).mono ?_; rintro e Wk ⟨rfl, hb⟩; replace hcur := hcur.trans (hb.mono hcur.size); clear hb)
        | (go_at_call 9; refine (mI _).mono ?_; rintro e Wk ⟨rfl, hb⟩; replace hcur := hcur.trans (hb.mono hcur.size); clear hb)
        | (go_at_call 10; refine (cF _ hcur).mono ?_; rintro e Wk ⟨rfl, hb⟩; replace hcur := hcur.trans (hb.mono hcur.size); clear hb)
        | (go_at_call 11; refine (mF _).mono ?_; rintro e Wk ⟨rfl, hb⟩; replace hcur := hcur.trans (hb.mono hcur.size); clear hb)
        | (go_at_call 12; refine (cR _ hcur).mono ?_; rintro e Wk ⟨rfl, hb⟩; replace hcur := hcur.trans (hb.mono hcur.size); clear hb))
      go_ret
      exact ⟨rfl, hcur⟩
    | true =>
      obtain ⟨T, hT, rfl⟩ : ∃ T : Nat, T ≤ 12 ∧ k = (T : Int) := by
        have := of_decide_eq_true hK
        exact ⟨k.toNat, by omega, by omega⟩
      have hT0 : (0 : Int) ≤ (T : Int) := by omega
      have hT12 : (T : Int) ≤ 12 := by omega
      have cI0 := cI (T : Int)
      have cI1 := cI ((T : Int) + 1)
      have hw1 := fun X => wi21 ((exitN x (runT T nd m) : Nat) : Int) ((exitN x (runR nd m) : Nat) : Int) X
      have hw2 := fun X => wi21 ((exitN x (runT T nd m) : Nat) : Int) ((exitN x (runT (T + 1) nd m) : Nat) : Int) X
      rw [within_or (exitT_lt hok hm x T) (exitR_lt hok hm x) (exit_in (runT_within T hok hm) x)] at hw1
      rw [within_or (exitT_lt hok hm x T) (exitT_lt hok hm x (T + 1)) (exit_in (runT_more T 1 nd m) x)] at hw2
      have hall := all_from hok hm x T
      have h1 := min_yes hP hm hx hT
      simp only [h1.1, h1.2] at cI0 mI
      by_cases hT1 : T + 1 ≤ 12
      · have h2 := min_yes hP hm hx hT1
        rw [show ((T + 1 : Nat) : Int) = (T : Int) + 1 by omega] at h2
        simp only [h2.1, h2.2] at cI1
        clear h1 h2 hb hK hn hF cI hok hP
        generalize exitN x (runR nd m) = b at cR hw1 hall
        generalize exitN x (runT T nd m) = a at cI0 mI hw1 hw2 hall
        generalize exitN x (runT (T + 1) nd m) = c at cI1 hw2
        generalize forN nd x m = n at cF mF hn0 hall
        by_cases he : n ≤ T
        · have hab := hall.2 he
          have hei : (n : Int) ≤ (T : Int) := by omega
          clear hall
          subst hab
          go_wp2_with (first
            | (go_at_call_of 8 (Value.int IntKind.i64 (T : Int)); refine (cI0 _ hcur).mono ?_; rintro e Wk ⟨rfl, hb⟩; replace hcur := hcur.trans (hb.mono hcur.size); clear hb)
            | (go_at_call 9; refine (mI _).mono ?_; rintro e Wk ⟨rfl, hb⟩; replace hcur := hcur.trans (hb.mono hcur.size); clear hb)
            | (go_at_call 10; refine (cF _ hcur).mono ?_; rintro e Wk ⟨rfl, hb⟩; replace hcur := hcur.trans (hb.mono hcur.size); clear hb)
            | (go_at_call 11; refine (mF _).mono ?_; rintro e Wk ⟨rfl, hb⟩; replace hcur := hcur.trans (hb.mono hcur.size); clear hb)
            | (go_at_call 12; refine (cR _ hcur).mono ?_; rintro e Wk ⟨rfl, hb⟩; replace hcur := hcur.trans (hb.mono hcur.size); clear hb))
          refine (cI1 _ hcur).mono ?_
          rintro e Wn ⟨rfl, hbn⟩
          replace hcur := hcur.trans (hbn.mono hcur.size)
          clear hbn
          go_wp2_with (first
            | (go_at_call_of 13 (Value.int IntKind.i64 (c : Int)); refine (hw2 _).mono ?_; rintro e w' ⟨rfl, rfl⟩)
            | (go_at_call 13; refine (hw1 _).mono ?_; rintro e w' ⟨rfl, rfl⟩))
          go_ret
          exact ⟨by first | rfl | simp [hei], hcur⟩
        · have hab : a ≠ b := fun h => he (hall.1 h)
          have hei : ¬ ((n : Int) ≤ (T : Int)) := by omega
          have hne : ¬ ((a : Int) = (b : Int)) := by omega
          clear hall
          go_wp2_with (first
            | (go_at_call_of 8 (Value.int IntKind.i64 (T : Int)); refine (cI0 _ hcur).mono ?_; rintro e Wk ⟨rfl, hb⟩; replace hcur := hcur.trans (hb.mono hcur.size); clear hb)
            | (go_at_call 9; refine (mI _).mono ?_; rintro e Wk ⟨rfl, hb⟩; replace hcur := hcur.trans (hb.mono hcur.size); clear hb)
            | (go_at_call 10; refine (cF _ hcur).mono ?_; rintro e Wk ⟨rfl, hb⟩; replace hcur := hcur.trans (hb.mono hcur.size); clear hb)
            | (go_at_call 11; refine (mF _).mono ?_; rintro e Wk ⟨rfl, hb⟩; replace hcur := hcur.trans (hb.mono hcur.size); clear hb)
            | (go_at_call 12; refine (cR _ hcur).mono ?_; rintro e Wk ⟨rfl, hb⟩; replace hcur := hcur.trans (hb.mono hcur.size); clear hb))
          refine (cI1 _ hcur).mono ?_
          rintro e Wn ⟨rfl, hbn⟩
          replace hcur := hcur.trans (hbn.mono hcur.size)
          clear hbn
          go_wp2_with (first
            | (go_at_call_of 13 (Value.int IntKind.i64 (c : Int)); refine (hw2 _).mono ?_; rintro e w' ⟨rfl, rfl⟩)
            | (go_at_call 13; refine (hw1 _).mono ?_; rintro e w' ⟨rfl, rfl⟩))
          go_ret
          exact ⟨by first | rfl | simp [hne], hcur⟩
      · have h2 : inOk t (m : Int) x ((T : Int) + 1) = false := by
          unfold inOk
          rw [show isK ((T : Int) + 1) = false from inB_no (fun h => by omega), Bool.and_false]
        simp only [h2, min_no h2] at cI1
        clear h1 h2 hb hK hn hF cI hok hP hw2
        generalize exitN x (runR nd m) = b at cR hw1 hall
        generalize exitN x (runT T nd m) = a at cI0 mI hw1 hall
        generalize forN nd x m = n at cF mF hn0 hall
        by_cases he : n ≤ T
        · have hab := hall.2 he
          have hei : (n : Int) ≤ (T : Int) := by omega
          clear hall
          subst hab
          go_wp2_with (first
            | (go_at_call_of 8 (Value.int IntKind.i64 (T : Int)); refine (cI0 _ hcur).mono ?_; rintro e Wk ⟨rfl, hb⟩; replace hcur := hcur.trans (hb.mono hcur.size); clear hb)
            | (go_at_call 9; refine (mI _).mono ?_; rintro e Wk ⟨rfl, hb⟩; replace hcur := hcur.trans (hb.mono hcur.size); clear hb)
            | (go_at_call 10; refine (cF _ hcur).mono ?_; rintro e Wk ⟨rfl, hb⟩; replace hcur := hcur.trans (hb.mono hcur.size); clear hb)
            | (go_at_call 11; refine (mF _).mono ?_; rintro e Wk ⟨rfl, hb⟩; replace hcur := hcur.trans (hb.mono hcur.size); clear hb)
            | (go_at_call 12; refine (cR _ hcur).mono ?_; rintro e Wk ⟨rfl, hb⟩; replace hcur := hcur.trans (hb.mono hcur.size); clear hb))
          refine (cI1 _ hcur).mono ?_
          rintro e Wn ⟨rfl, hbn⟩
          replace hcur := hcur.trans (hbn.mono hcur.size)
          clear hbn
          go_wp2_with (first
            | (go_at_call 13; refine (hw1 _).mono ?_; rintro e w' ⟨rfl, rfl⟩))
          go_ret
          exact ⟨by first | rfl | simp [hei], hcur⟩
        · have hab : a ≠ b := fun h => he (hall.1 h)
          have hei : ¬ ((n : Int) ≤ (T : Int)) := by omega
          have hne : ¬ ((a : Int) = (b : Int)) := by omega
          clear hall
          go_wp2_with (first
            | (go_at_call_of 8 (Value.int IntKind.i64 (T : Int)); refine (cI0 _ hcur).mono ?_; rintro e Wk ⟨rfl, hb⟩; replace hcur := hcur.trans (hb.mono hcur.size); clear hb)
            | (go_at_call 9; refine (mI _).mono ?_; rintro e Wk ⟨rfl, hb⟩; replace hcur := hcur.trans (hb.mono hcur.size); clear hb)
            | (go_at_call 10; refine (cF _ hcur).mono ?_; rintro e Wk ⟨rfl, hb⟩; replace hcur := hcur.trans (hb.mono hcur.size); clear hb)
            | (go_at_call 11; refine (mF _).mono ?_; rintro e Wk ⟨rfl, hb⟩; replace hcur := hcur.trans (hb.mono hcur.size); clear hb)
            | (go_at_call 12; refine (cR _ hcur).mono ?_; rintro e Wk ⟨rfl, hb⟩; replace hcur := hcur.trans (hb.mono hcur.size); clear hb))
          refine (cI1 _ hcur).mono ?_
          rintro e Wn ⟨rfl, hbn⟩
          replace hcur := hcur.trans (hbn.mono hcur.size)
          clear hbn
          go_wp2_with (first
            | (go_at_call 13; refine (hw1 _).mono ?_; rintro e w' ⟨rfl, rfl⟩))
          go_ret
          exact ⟨by first | rfl | simp [hne], hcur⟩
theorem long_FnReachedIn (w : World) (a : Option Addr) (len cap : Nat) (h : 1048576 < len) :
    Calls Tryz.prog 3 #[.slice a len cap] w fun e w' => e = .returned (.bool true) ∧ Below w.heap.size w w' := by
  have h1 : (1048576 : Int) < (len : Int) := by omega
  go_enter Tryz.func3, Tryz.ntmps3
  go_wp2
  go_ret
  exact ⟨rfl, Below.refl _ _⟩
theorem walkFnReachedIn (a0 : Option Addr) (len0 cap0 : Nat) (z0 : List Int) (w : World) (w0 : IsRow .u8 w a0 len0 cap0 z0) {N : Nat} (hL : Laid3 N w) :
    Calls Tryz.prog 3 #[.slice a0 len0 cap0] w fun e w' => e = .returned (.bool true) ∧ Below w.heap.size w w' := by
  by_cases h : len0 ≤ 1048576
  · exact reachedin_walk w a0 len0 cap0 (Code.ofRow w0) h hL
  · exact long_FnReachedIn w a0 len0 cap0 (by omega)
end Go.Proofs.YtnejphdbnfdbhaaGreatDoor

namespace Go.Proofs.YtnejphdbnfdbhaaGreatDoor
open Go Go.Conc

theorem tied_goes {p : Pinned} {s : OpenSpec} {c : OpenClaim} (kinds : List LaidKind) (hash : String) (g : Bool) (h0 : c.holds p s) (h1 : c.wfByText s = true) (h2 : c.laidByTextAt .later p kinds true)
    (h3 : c.start = .entering) (h4 : c.noBlocks = false ∧ c.again = false) (h5 : p.checked.prog.mainIs = some (true, hash.toList))
    (h6 : ∀ f fn, p.checked.prog.funcNamed c.func = some f → p.checked.prog.funcs[f]? = some fn → true = p.checked.prog.looks [] ∧ ∀ (j : Nat) t, fn.params[j]? = some t → p.checked.prog.wantsStandIn t = false)
    (h7 : g = c.goesBy p.checked.prog) :
    Claim7.holds p (.plain s) { stood := { row := c, standIns := [], harness := (true, hash), looks := true }, kinds := [], alts := [], goes := g, laidByText := true, laidKinds := kinds, laidTests := true, laidLooks := .later } := by
  have hsix : Claim7.isSixth { stood := { row := c, standIns := [], harness := (true, hash), looks := true }, kinds := [] } = false := by simp [Claim7.isSixth]
  have hnew := Claim7.tied_new_at .later kinds true (Claim7.new_of_sixth h0 (true, hash) true h3 h4 h5 hsix h6) h1
  exact ⟨hnew, (fun D hD => by cases hD), h2, (fun h => by cases h), h7⟩
/-- Who is alone at the return leaves nobody behind. -/
theorem leaving_of_alone {a : Assume} {C : Checked} {os : Os} {f : FuncId} {r : Reach} {Pre : World → Array Value → Prop} {Post : World → Array Value → Value → World → Prop} (h : ReturnsInHanded a C os f r Pre Post) : ReturnsInLeavingWide a C os f r Pre Post := fun enter => by
  obtain ⟨e1, e2, e3, e4, hh⟩ := h enter
  refine ⟨e1, e2, e3, e4, fun w tape i hf => ?_⟩
  obtain ⟨n, v, w', r1, c, ro, po, ⟨j, last, l1, l2, q, ho, eh⟩, al⟩ := hh w tape i hf
  exact ⟨n, v, w', r1, c, ro, po, ⟨j, last, l1, l2, ho, onlyLeaving_of_quiet q, eh⟩, al⟩
end Go.Proofs.YtnejphdbnfdbhaaGreatDoor
