/- Chapter 8: the least set before a sure triple; the program for every triple, and the walk. -/
import Derived.Test.YtpepaobgngighabGreatDoorBM
namespace Go.Proofs.YtpepaobgngighabGreatDoor
open Go.ChangeShapes Go.WideShapes Go.ChangeAt Go.RowKit Go.Shelf Go.Maps
attribute [local go_sem] Oper.semAt_some
set_option maxRecDepth 100000

/-- **THE PROGRAM's LeastBefore.** -/
theorem pleast (b : Int) (p : ByteArray) (x r : Int) (w : World) {N : Nat} (hL : Laid3 N w) (hE : NoTrip N w) :
    Calls Tryz.prog 8 #[.agg #[.int .i64 b, .string p, .int .i64 x, .int .i64 r]] w fun e w' => e = .returned (.tuple #[.agg #[.int .i64 (leastZ b p x r).b, .string (leastZ b p x r).p, .int .i64 (leastZ b p x r).x, .int .i64 (leastZ b p x r).r], .bool (sureT b p x r)]) ∧ Below w.heap.size w w' := by
  cases h : sureT b p x r with
  | false =>
    have e : leastZ b p x r = zeroT := by unfold leastZ; rw [h]; rfl
    rw [e]
    exact pleast_no b p x r w hL hE h
  | true =>
    obtain ⟨m, hm, rfl⟩ := sure_set h
    have e : leastZ (m : Int) p x r = ⟨((leastT (fun n => sureT (n : Int) p x r) m 0 : Nat) : Int), p, x, r⟩ := by unfold leastZ; rw [h, if_pos rfl, Int.toNat_natCast]
    rw [e]
    exact callsIn_wide.1 (pleast_yes_in m p x r w hL hE hm h)

set_option maxHeartbeats 2000000 in
theorem walkLeastBefore (b : Int) (p : ByteArray) (x r : Int) (hm : p.size ≤ maxLen) (w : World) {N : Nat} (hL : Laid3 N w) (hE : NoTrip N w) :
    Calls Tryz.prog 3 #[.agg #[.int .i64 b, .string p, .int .i64 x, .int .i64 r]] w fun e w' => e = .returned (.bool true) ∧ Below w.heap.size w w' := by
  unfold maxLen at hm
  have hsz := fun X => sz12 b p x r 1048576 X (by omega) (by omega) hm
  have hcur : Below w.heap.size w (w.alloc (.cells #[.int .i64 b, .string p, .int .i64 x, .int .i64 r] 23)) := (Below.refl _ w).alloc (Nat.le_refl _) _
  have hT := OwnT.new w b p x r
  have hto := fun X => to14 b p x r X
  by_cases hlt : (p.size : Int) ≤ 1048576
  · rw [if_pos hlt] at hsz
    have hn : ¬ (1048576 - (p.size : Int) < 0) := by omega
    have hmod := fun X => mleast b p (by omega) x r X
    have hprog := fun (X : World) (hX : Laid3 N X) (hY : NoTrip N X) => pleast b p x r X hX hY
    generalize leastZ b p x r = z at hmod hprog
    generalize sureT b p x r = s at hmod hprog
    obtain ⟨zb, zp, zx, zr⟩ := z
    dsimp only at hmod hprog
    have hlt2 := hlt
    clear hlt
    go_enter Tryz.func3, Tryz.ntmps3
    go_wp2_with (first
      | (go_at_call 5; refine (hsz _).mono ?_; rintro e Wk ⟨rfl, hb⟩; replace hcur := hcur.trans (hb.mono hcur.size); replace hT := hT.below hb; obtain ⟨c0, c1, c2, c3⟩ := hT.cells; clear hb)
      | (go_at_call 7; refine (hto _).mono ?_; rintro e Wk ⟨rfl, hb⟩; replace hT0 := hT0.below hb hT0.lt; replace hcur := hcur.trans (hb.mono hcur.size); clear hb)
      | (go_at_call 7; refine (hto _).mono ?_; rintro e Wk ⟨rfl, hb⟩; replace hcur := hcur.trans (hb.mono hcur.size); replace hT := hT.below hb; obtain ⟨c0, c1, c2, c3⟩ := hT.cells; clear hb)
      | (go_at_call 6; refine (hmod _).mono ?_; rintro e W1 ⟨rfl, hb⟩; replace hcur := hcur.trans (hb.mono hcur.size); replace hT := hT.below hb; have hT0 := TripAt.new W1 zb zp zx zr; replace hcur := hcur.alloc hcur.size (.cells #[.int .i64 zb, .string zp, .int .i64 zx, .int .i64 zr] 25); replace hT := hT.below ((Below.refl _ W1).alloc (Nat.le_refl _) (.cells #[.int .i64 zb, .string zp, .int .i64 zx, .int .i64 zr] 25)); obtain ⟨c0, c1, c2, c3⟩ := hT.cells; clear hb)
      | (go_at_call 8; refine (hprog _ (hL.below hcur hL.lt) (hE.below hcur hL.lt)).mono ?_; rintro e W2 ⟨rfl, hb⟩; replace hT0 := hT0.below hb hT0.lt; obtain ⟨e0, e1, e2, e3⟩ := (hT0.below ((Below.refl _ W2).alloc (Nat.le_refl _) (.cells #[.int .i64 zb, .string zp, .int .i64 zx, .int .i64 zr] 25)) hT0.lt).cells; replace hcur := hcur.trans (hb.mono hcur.size); replace hcur := hcur.alloc hcur.size (.cells #[.int .i64 zb, .string zp, .int .i64 zx, .int .i64 zr] 25); clear hb)
      | (go_at_call 9; refine (eq20 zb zp zx zr _).mono ?_; rintro e W3 ⟨rfl, hb3⟩))
    go_ret
    exact ⟨rfl, hcur.trans (hb3.mono hcur.size)⟩
  · rw [if_neg hlt] at hsz
    clear hlt
    go_enter Tryz.func3, Tryz.ntmps3
    go_wp2_with (go_at_call 5; refine (hsz _).mono ?_; rintro e Wk ⟨rfl, hb⟩; replace hcur := hcur.trans (hb.mono hcur.size); replace hT := hT.below hb; obtain ⟨c0, c1, c2, c3⟩ := hT.cells; clear hb)
    go_ret
    exact ⟨rfl, hcur⟩
end Go.Proofs.YtpepaobgngighabGreatDoor

