/- Chapter 8: the walk of the law on the states from which a set is reached. -/
import Derived.Test.YtpepaobgngighaaGreatDoorBC
import Derived.Test.YtpepaobgngighaaGreatDoorDC
import Derived.Test.YtpepaobgngighaaGreatDoorMB
import Derived.Test.YtpepaobgngighaaGreatDoorBQ
namespace Go.Proofs.YtpepaobgngighaaGreatDoor
open Go.ChangeShapes Go.WideShapes Go.ChangeAt Go.RowKit Go.Shelf
attribute [local go_sem] Oper.semAt_some
set_option maxRecDepth 100000

set_option maxHeartbeats 4000000 in
theorem canreach_walk (w : World) (a : Option Addr) (len cap : Nat) (hc : Code w.heap.size w a len cap) (hl : len ≤ 1048576) {N : Nat} (hL : Laid3 N w) (hE : NoExit N w) :
    Calls Tryz.prog 3 #[.slice a len cap] w fun e w' => e = .returned (.bool true) ∧ Below w.heap.size w w' := by
  have l1 : (len : Int) ≤ 1048576 := by omega
  have HC := Lib.hid hc
  clear hc
  go_enter Tryz.func3, Tryz.ntmps3
  go_wp2_with fail
  go_at_call 5
  refine (drawC8 HC.out (Nat.le_refl _)).mono ?_
  rintro e W0 ⟨t, s, x, ht, rfl, hcur⟩
  have cC := fun (X : World) (hX : Below w.heap.size w X) => pcan t s x X (hL.below hX hL.lt) (hE.below hX hL.lt)
  have cO := fun (X : World) (hX : Below w.heap.size w X) => ponly t s x X (hL.below hX hL.lt) (hE.below hX hL.lt)
  have mC := fun (X : World) => mcan t (by omega) s x X
  have mO := fun (X : World) => monly t (by omega) s x X
  cases hb : reachB t s x with
  | false =>
    simp only [hb, canZ_no hb, onlyZ_no hb] at cC cO mC mO
    clear hb
    go_wp2_with (first
      | (go_at_call 6; refine (cC _ hcur).mono ?_; rintro e Wk ⟨rfl, hb⟩; replace hcur := hcur.trans (hb.mono hcur.size); clear hb)
      | (go_at_call 7; refine (cO _ hcur).mono ?_; rintro e Wk ⟨rfl, hb⟩; replace hcur := hcur.trans (hb.mono hcur.size); clear hb)
      | (go_at_call 8; refine (mC _).mono ?_; rintro e Wk ⟨rfl, hb⟩; replace hcur := hcur.trans (hb.mono hcur.size); clear hb)
      | (go_at_call 9; refine (mO _).mono ?_; rintro e Wk ⟨rfl, hb⟩; replace hcur := hcur.trans (hb.mono hcur.size); clear hb))
    go_ret
    exact ⟨rfl, hcur⟩
  | true =>
    obtain ⟨nd, m, hP, hm, rfl, hx, _⟩ := reach_true hb
    simp only [hb, canZ_ok hP hm hx, onlyZ_ok hP hm hx] at cC cO mC mO
    obtain ⟨hok, _⟩ := readP_iff.1 hP
    go_wp2_with (first
      | (go_at_call 6; refine (cC _ hcur).mono ?_; rintro e Wk ⟨rfl, hb⟩; replace hcur := hcur.trans (hb.mono hcur.size); clear hb)
      | (go_at_call 7; refine (cO _ hcur).mono ?_; rintro e Wk ⟨rfl, hb⟩; replace hcur := hcur.trans (hb.mono hcur.size); clear hb)
      | (go_at_call 8; refine (mC _).mono ?_; rintro e Wk ⟨rfl, hb⟩; replace hcur := hcur.trans (hb.mono hcur.size); clear hb)
      | (go_at_call 9; refine (mO _).mono ?_; rintro e Wk ⟨rfl, hb⟩; replace hcur := hcur.trans (hb.mono hcur.size); clear hb))
    clear cC cO mC mO hb
    have hcl := canN_lt nd x m
    have hol : 511 - canN nd x (511 - m) < 512 := by omega
    have cb := fun k (hk : k < 9) => can_bit nd x m hk
    have ob := fun k (hk : k < 9) => only_bit nd x hm hk
    have oa := only_all nd hok x hm
    have hel := fun k (hk : k < 512) => exit_lt nd hok x (m := k) hk
    have cR := fun (k : Nat) (hk : k < 512) (X : World) (hX : Below w.heap.size w X) => preach10 t (k : Int) x X (hL.below hX hL.lt)
    have hre := fun (k : Nat) (hk : k < 512) => reach_ok hP hk hx
    have cR2 : ∀ (k : Nat), k < 512 → ∀ (X : World), Below w.heap.size w X → Calls Tryz.prog 10 #[.string t, .int .i64 (k : Int), .int .i64 x] X fun e w' => e = .returned (.tuple #[.int .i64 ((exitN x (runR nd k) : Nat) : Int), .bool true]) ∧ Below X.heap.size X w' := fun k hk X hX => by
      have := cR k hk X hX
      rwa [(hre k hk).1, (hre k hk).2] at this
    clear cR hre hP hok
    generalize canN nd x m = c at hcl cb ⊢
    generalize 511 - canN nd x (511 - m) = o at hol ob oa ⊢
    have hEX : ∀ k, exitN x (runR nd k) = (fun k => exitN x (runR nd k)) k := fun _ => rfl
    generalize (fun k => exitN x (runR nd k)) = f at hEX
    simp only [hEX] at cb ob oa hel cR2
    clear hEX
    go_loopw [104] (fun i wr => ∃ k : Nat, k ≤ 9 ∧ i = .int .i64 (k : Int) ∧ Below w.heap.size w wr) (fun i _ => 9 - (intOf i).toNat)
    case atStart => exact ⟨0, by omega, rfl, hcur⟩
    case round =>
      obtain ⟨k, hk, rfl, hcur2⟩ := hrel
      by_cases hlt : k < 9
      · have k8 : (k : Int) < 9 := by omega
        have k0 : (0 : Int) ≤ (k : Int) := by omega
        have hsh := shl_state (n := k) (by omega)
        have hR := cR2 (2 ^ k) (pow9 hlt)
        have hz := hel (2 ^ k) (pow9 hlt)
        have h1 := cb k hlt
        have h2 := ob k hlt
        have hw1 := fun X => wi21 ((2 ^ k : Nat) : Int) (c : Int) X
        have hw2 := fun X => wi21 ((2 ^ k : Nat) : Int) (o : Int) X
        rw [within_pow hlt hcl, h1] at hw1
        rw [within_pow hlt hol, h2] at hw2
        have ha := and_nat (f (2 ^ k)) m (by omega) (by omega)
        have hn := andNot_512 hz hm
        generalize f (2 ^ k) = z at hR hz hw1 hw2 ha hn
        generalize z &&& m = zm at hw1 ha
        generalize z &&& (511 - m) = zo at hw2 hn
        generalize (2 : Nat) ^ k = q at hsh hR hw1 hw2
        clear h1 h2 cb ob hel cR2 oa hcl hol
        by_cases q1 : zm = 0 <;> by_cases q2 : zo = 0
        all_goals
          first | subst q1 | (rw [show (zm != 0) = true from bne_iff_ne.2 q1] at hw1; have b1 : ((zm : Int) != 0) = true := bne_iff_ne.2 (by omega); have n1 : ¬ (zm : Int) = 0 := by omega)
          first | subst q2 | (rw [show (zo == 0) = false from beq_false_of_ne q2] at hw2; have b2 : ((zo : Int) == 0) = false := beq_false_of_ne (by omega); have n2 : ¬ (zo : Int) = 0 := by omega)
          (try simp only [bne_self_eq_false] at hw1)
          (try simp only [beq_self_eq_true] at hw2)
          go_wp2_with (first
            | (go_at_call 10; refine (hR _ hcur2).mono ?_; rintro e Wk ⟨rfl, hb⟩; replace hcur2 := hcur2.trans (hb.mono hcur2.size); clear hb)
            | (go_at_call_of 11 (Value.int IntKind.i64 (c : Int)); refine (hw1 _).mono ?_; rintro e w' ⟨rfl, rfl⟩)
            | (go_at_call_of 11 (Value.int IntKind.i64 (o : Int)); refine (hw2 _).mono ?_; rintro e w' ⟨rfl, rfl⟩))
          go_roundw
          case rel => exact ⟨k + 1, by omega, by go_num, hcur2⟩
          case measure => (simp [intOf] <;> omega)
      · obtain rfl : k = 9 := by omega
        have hR := cR2 o hol
        have hW := fun X => wi21 ((f o : Nat) : Int) (m : Int) X
        rw [within_or (hel o hol) hm oa] at hW
        clear cb ob hel cR2 oa hcl
        generalize f o = z at hR hW
        go_wp2_with (first
          | (go_at_call 10; refine (hR _ hcur2).mono ?_; rintro e Wk ⟨rfl, hb⟩; replace hcur2 := hcur2.trans (hb.mono hcur2.size); clear hb)
          | (go_at_call 11; refine (hW _).mono ?_; rintro e w' ⟨rfl, rfl⟩))
        go_ret
        exact ⟨rfl, hcur2⟩
theorem long_FnCanReach (w : World) (a : Option Addr) (len cap : Nat) (h : 1048576 < len) :
    Calls Tryz.prog 3 #[.slice a len cap] w fun e w' => e = .returned (.bool true) ∧ Below w.heap.size w w' := by
  have h1 : (1048576 : Int) < (len : Int) := by omega
  go_enter Tryz.func3, Tryz.ntmps3
  go_wp2
  go_ret
  exact ⟨rfl, Below.refl _ _⟩
theorem walkFnCanReach (a0 : Option Addr) (len0 cap0 : Nat) (z0 : List Int) (w : World) (w0 : IsRow .u8 w a0 len0 cap0 z0) {N : Nat} (hL : Laid3 N w) (hE : NoExit N w) :
    Calls Tryz.prog 3 #[.slice a0 len0 cap0] w fun e w' => e = .returned (.bool true) ∧ Below w.heap.size w w' := by
  by_cases h : len0 ≤ 1048576
  · exact canreach_walk w a0 len0 cap0 (Code.ofRow w0) h hL hE
  · exact long_FnCanReach w a0 len0 cap0 (by omega)
end Go.Proofs.YtpepaobgngighaaGreatDoor

