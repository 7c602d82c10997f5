/- Chapter 8: the walk of the law on programs that fail or are safe. -/
import Derived.Test.YtpepaobgngighaaGreatDoorBH
import Derived.Test.YtpepaobgngighaaGreatDoorMB
import Derived.Test.YtpepaobgngighaaGreatDoorBQ
namespace Go.Proofs.YtpepaobgngighaaGreatDoor
open Go.ChangeShapes Go.WideShapes Go.ChangeAt Go.RowKit Go.Shelf
attribute [local go_sem] Oper.semAt_some
set_option maxRecDepth 100000

set_option maxHeartbeats 4000000 in
theorem fails_walk (w : World) (a : Option Addr) (len cap : Nat) (hc : Code w.heap.size w a len cap) (hl : len ≤ 1048576) {N : Nat} (hL : Laid3 N w) (hE : NoExit N w) :
    Calls Tryz.prog 4 #[.slice a len cap] w fun e w' => e = .returned (.bool true) ∧ Below w.heap.size w w' := by
  have l1 : (len : Int) ≤ 1048576 := by omega
  have HC := Lib.hid hc
  clear hc
  go_enter Tryz.func4, Tryz.ntmps4
  go_wp2_with fail
  go_at_call 12
  refine (drawM8 HC.out (Nat.le_refl _)).mono ?_
  rintro e W0 ⟨t, ht, rfl, hcur⟩
  have cF := fun (X : World) (hX : Below w.heap.size w X) => pfails t X (hL.below hX hL.lt) (hE.below hX hL.lt)
  have cS := fun (X : World) (hX : Below w.heap.size w X) => psafe t X (hL.below hX hL.lt) (hE.below hX hL.lt)
  have cM := fun (X : World) (hX : Below w.heap.size w X) => pmani t X (hL.below hX hL.lt) (hE.below hX hL.lt)
  have mF := fun (X : World) => mfails t (by omega) X
  have mS := fun (X : World) => msafe t (by omega) X
  have mM := fun (X : World) => mmani t (by omega) X
  unfold manifestZ at mM
  have hrb : reachB t 0 1 = reachB t 511 1 := reachB_set (t := t) (m := 0) (m' := 511) (by omega) (by omega) 1
  cases hb : reachB t 511 1 with
  | false =>
    rw [hb] at hrb
    have hz := canZ_no hb
    have ho := onlyZ_no hrb
    simp only [hb, hrb, hz, ho] at cF cS cM mF mS mM
    rw [show ((0 : Int) == 511) = false from rfl] at cM mM
    clear hb hrb hz ho
    go_wp2_with (first
      | (go_at_call 13; refine (cF _ hcur).mono ?_; rintro e Wk ⟨rfl, hb⟩; replace hcur := hcur.trans (hb.mono hcur.size); clear hb)
      | (go_at_call 14; refine (cS _ hcur).mono ?_; rintro e Wk ⟨rfl, hb⟩; replace hcur := hcur.trans (hb.mono hcur.size); clear hb)
      | (go_at_call 17; refine (cM _ hcur).mono ?_; rintro e Wk ⟨rfl, hb⟩; replace hcur := hcur.trans (hb.mono hcur.size); clear hb)
      | (go_at_call 15; refine (mF _).mono ?_; rintro e Wk ⟨rfl, hb⟩; replace hcur := hcur.trans (hb.mono hcur.size); clear hb)
      | (go_at_call 16; refine (mS _).mono ?_; rintro e Wk ⟨rfl, hb⟩; replace hcur := hcur.trans (hb.mono hcur.size); clear hb)
      | (go_at_call 18; refine (mM _).mono ?_; rintro e Wk ⟨rfl, hb⟩; replace hcur := hcur.trans (hb.mono hcur.size); clear hb))
    go_ret
    exact ⟨rfl, hcur⟩
  | true =>
    obtain ⟨nd, m, hP, hm, hm5, hx, _⟩ := reach_true hb
    clear hm5 hm hx
    rw [hb] at hrb
    have hz := canZ_ok hP (m := 511) (by omega) (.inr rfl)
    have ho := onlyZ_ok hP (m := 0) (by omega) (.inr rfl)
    change canZ t 511 1 = _ at hz
    change onlyZ t 0 1 = ((511 - canN nd 1 511 : Nat) : Int) at ho
    simp only [hb, hrb, hz, ho] at cF cS cM mF mS mM
    obtain ⟨hok, _⟩ := readP_iff.1 hP
    go_wp2_with (first
      | (go_at_call 13; refine (cF _ hcur).mono ?_; rintro e Wk ⟨rfl, hb⟩; replace hcur := hcur.trans (hb.mono hcur.size); clear hb)
      | (go_at_call 14; refine (cS _ hcur).mono ?_; rintro e Wk ⟨rfl, hb⟩; replace hcur := hcur.trans (hb.mono hcur.size); clear hb)
      | (go_at_call 17; refine (cM _ hcur).mono ?_; rintro e Wk ⟨rfl, hb⟩; replace hcur := hcur.trans (hb.mono hcur.size); clear hb)
      | (go_at_call 15; refine (mF _).mono ?_; rintro e Wk ⟨rfl, hb⟩; replace hcur := hcur.trans (hb.mono hcur.size); clear hb)
      | (go_at_call 16; refine (mS _).mono ?_; rintro e Wk ⟨rfl, hb⟩; replace hcur := hcur.trans (hb.mono hcur.size); clear hb)
      | (go_at_call 18; refine (mM _).mono ?_; rintro e Wk ⟨rfl, hb⟩; replace hcur := hcur.trans (hb.mono hcur.size); clear hb))
    clear cF cS cM mF mS mM hz ho
    have cE : ∀ (k : Nat), k < 9 → ∀ (X : World), Below w.heap.size w X → Calls Tryz.prog 19 #[.string t, .int .i64 (k : Int)] X fun e w' => e = .returned (.tuple #[.int .i64 ((exitN 1 (runR nd (2 ^ k)) : Nat) : Int), .bool true]) ∧ Below X.heap.size X w' := fun k hk X hX => by
      have := perrs14 t (k : Int) X (hL.below hX hL.lt)
      have hr := reach_ok hP (m := 2 ^ k) (pow9 hk) (x := 1) (.inr rfl)
      rwa [(from_true (t := t) (n := k) (by omega) 1).1, (from_true (t := t) (n := k) (by omega) 1).2, hr.1, hr.2] at this
    have hcl := canN_lt nd 1 511
    have cR : ∀ (X : World), Below w.heap.size w X → Calls Tryz.prog 10 #[.string t, .int .i64 ((511 - canN nd 1 511 : Nat) : Int), .int .i64 1] X fun e w' => e = .returned (.tuple #[.int .i64 0, .bool true]) ∧ Below X.heap.size X w' := fun X hX => by
      have := preach10 t ((511 - canN nd 1 511 : Nat) : Int) 1 X (hL.below hX hL.lt)
      have hr := reach_ok hP (m := 511 - canN nd 1 511) (by omega) (x := 1) (.inr rfl)
      rw [hr.1, hr.2, safe_none nd hok] at this
      exact this
    have cC : ∀ (X : World), Below w.heap.size w X → Calls Tryz.prog 20 #[.string t] X fun e w' => e = .returned (.bool (canN nd 1 511 != 0)) ∧ Below X.heap.size X w' := fun X hX => by
      have := pcanfail16 t X (hL.below hX hL.lt)
      have e : tellsP failsP t = failsP nd := by unfold tellsP; rw [hP]
      rw [e, ← fail_some nd hok] at this
      exact this
    have cb := fun k (hk : k < 9) => fail_bit nd hok hk
    have hor := compl_or hcl
    clear hP hok hb hrb
    generalize canN nd 1 511 = c at hcl cb cR cC hor ⊢
    have hoc : 511 - c ≤ 511 ∧ (511 - c) + c = 511 := by omega
    generalize 511 - c = o at cR hor hoc ⊢
    have hEX : ∀ k, exitN 1 (runR nd k) = (fun k => exitN 1 (runR nd k)) k := fun _ => rfl
    generalize (fun k => exitN 1 (runR nd k)) = f at hEX
    simp only [hEX] at cb cE
    clear hEX
    go_loopw [101] (fun i wr => ∃ k : Nat, k ≤ 9 ∧ i = .int .i64 (k : Int) ∧ Below w.heap.size w wr) (fun i _ => 9 - (intOf i).toNat)
    case atStart => exact ⟨0, by omega, rfl, hcur⟩
    case round =>
      obtain ⟨k, hk, rfl, hcur2⟩ := hrel
      by_cases hlt : k < 9
      · have k8 : (k : Int) < 9 := by omega
        have k0 : (0 : Int) ≤ (k : Int) := by omega
        have hsh := shl_state (n := k) (by omega)
        have hR := cE k hlt
        have h1 := cb k hlt
        have hw1 := fun X => wi21 ((2 ^ k : Nat) : Int) (c : Int) X
        rw [within_pow hlt hcl, h1] at hw1
        generalize f (2 ^ k) = z at hR hw1
        generalize (2 : Nat) ^ k = q at hsh hw1
        clear h1 cb cE cR cC hor
        by_cases q1 : z = 0
        all_goals
          first | subst q1 | (rw [show (z != 0) = true from bne_iff_ne.2 q1] at hw1; have b1 : ((z : Int) != 0) = true := bne_iff_ne.2 (by omega); have n1 : ¬ (z : Int) = 0 := by omega)
          (try simp only [bne_self_eq_false] at hw1)
          go_wp2_with (first
            | (go_at_call 19; refine (hR _ hcur2).mono ?_; rintro e Wk ⟨rfl, hb⟩; replace hcur2 := hcur2.trans (hb.mono hcur2.size); clear hb)
            | (go_at_call 11; refine (hw1 _).mono ?_; rintro e w' ⟨rfl, rfl⟩))
          go_roundw
          case rel => exact ⟨k + 1, by omega, by go_num, hcur2⟩
          case measure => (simp [intOf] <;> omega)
      · obtain rfl : k = 9 := by omega
        obtain ⟨ho1, ho2⟩ := hor
        clear cb cE
        by_cases c1 : c = 511
        · subst c1
          obtain rfl : o = 0 := by omega
          go_wp2_with (first
            | (go_at_call 10; refine (cR _ hcur2).mono ?_; rintro e Wk ⟨rfl, hb⟩; replace hcur2 := hcur2.trans (hb.mono hcur2.size); clear hb)
            | (go_at_call 20; refine (cC _ hcur2).mono ?_; rintro e Wk ⟨rfl, hb⟩; replace hcur2 := hcur2.trans (hb.mono hcur2.size); clear hb))
          go_ret
          exact ⟨rfl, hcur2⟩
        · have m1 : ((c : Int) == 511) = false := beq_false_of_ne (by omega)
          have m2 : ((o : Int) == 0) = false := beq_false_of_ne (by omega)
          have m3 : ¬ (o : Int) = 0 := by omega
          have m4 : ¬ (c : Int) = 511 := by omega
          by_cases c0 : c = 0
          · subst c0
            go_wp2_with (first
              | (go_at_call 10; refine (cR _ hcur2).mono ?_; rintro e Wk ⟨rfl, hb⟩; replace hcur2 := hcur2.trans (hb.mono hcur2.size); clear hb)
              | (go_at_call 20; refine (cC _ hcur2).mono ?_; rintro e Wk ⟨rfl, hb⟩; replace hcur2 := hcur2.trans (hb.mono hcur2.size); clear hb))
            go_ret
            exact ⟨rfl, hcur2⟩
          · have b1 : ((c : Int) != 0) = true := bne_iff_ne.2 (by omega)
            have n1 : ¬ (c : Int) = 0 := by omega
            rw [show (c != 0) = true from bne_iff_ne.2 c0] at cC
            go_wp2_with (first
              | (go_at_call 10; refine (cR _ hcur2).mono ?_; rintro e Wk ⟨rfl, hb⟩; replace hcur2 := hcur2.trans (hb.mono hcur2.size); clear hb)
              | (go_at_call 20; refine (cC _ hcur2).mono ?_; rintro e Wk ⟨rfl, hb⟩; replace hcur2 := hcur2.trans (hb.mono hcur2.size); clear hb))
            go_ret
            exact ⟨rfl, hcur2⟩
theorem long_FnFails (w : World) (a : Option Addr) (len cap : Nat) (h : 1048576 < len) :
    Calls Tryz.prog 4 #[.slice a len cap] w fun e w' => e = .returned (.bool true) ∧ Below w.heap.size w w' := by
  have h1 : (1048576 : Int) < (len : Int) := by omega
  go_enter Tryz.func4, Tryz.ntmps4
  go_wp2
  go_ret
  exact ⟨rfl, Below.refl _ _⟩
theorem walkFnFails (a0 : Option Addr) (len0 cap0 : Nat) (z0 : List Int) (w : World) (w0 : IsRow .u8 w a0 len0 cap0 z0) {N : Nat} (hL : Laid3 N w) (hE : NoExit N w) :
    Calls Tryz.prog 4 #[.slice a0 len0 cap0] w fun e w' => e = .returned (.bool true) ∧ Below w.heap.size w w' := by
  by_cases h : len0 ≤ 1048576
  · exact fails_walk w a0 len0 cap0 (Code.ofRow w0) h hL hE
  · exact long_FnFails w a0 len0 cap0 (by omega)
end Go.Proofs.YtpepaobgngighaaGreatDoor

