/- Chapter 5: the walks of the exact laws on triples. -/
import Derived.Test.YtlimgdnaanoloaaDoorTH
namespace Go.Proofs.YtlimgdnaanoloaaDoor
open Go.ChangeShapes Go.WideShapes Go.ChangeAt Go.RowKit Go.Shelf Go.Maps
attribute [local go_sem] Oper.semAt_some
set_option maxRecDepth 100000

set_option maxHeartbeats 1000000 in
theorem to14 (b : Int) (p : ByteArray) (x r : Int) (w : World) :
    Calls Tryd.prog 14 #[.agg #[.int .i64 b, .string p, .int .i64 x, .int .i64 r]] w fun e w' => e = .returned (.agg #[.int .i64 b, .string p, .int .i64 x, .int .i64 r]) ∧ Below w.heap.size w w' := by
  go_enter Tryd.func14, Tryd.ntmps14
  go_wp2
  refine bodyPost_ret (v := .agg #[.int .i64 b, .string p, .int .i64 x, .int .i64 r]) (by simp [results, Tryd.results14, go_sem]) rfl ⟨rfl, ?_⟩
  exact ((((Below.refl _ w).alloc (Nat.le_refl _) _).alloc (by simp) _).alloc (by simp; omega) _)
set_option maxHeartbeats 1000000 in
theorem sz12 (b : Int) (p : ByteArray) (x r L : Int) (w : World) (h0 : 0 ≤ L) (h1 : L ≤ 1048576) (hp : p.size ≤ 9223372036854775807) :
    Calls Tryd.prog 12 #[.agg #[.int .i64 b, .string p, .int .i64 x, .int .i64 r], .int .i64 L] w fun e w' => e = .returned (.int .i64 (if (p.size : Int) ≤ L then L - p.size else -1)) ∧ Below w.heap.size w w' := by
  have hA : Below w.heap.size w (w.alloc (.cells #[.int .i64 b, .string p, .int .i64 x, .int .i64 r] 23)) := (Below.refl _ w).alloc (Nat.le_refl _) _
  have hpi : (p.size : Int) ≤ 9223372036854775807 := by omega
  have hp0 : (0 : Int) ≤ (p.size : Int) := by omega
  by_cases h : (p.size : Int) ≤ L
  · rw [if_pos h]
    have hn : ¬ (L - (p.size : Int) < 0) := by omega
    go_enter Tryd.func12, Tryd.ntmps12
    go_wp2
    go_ret
    exact ⟨rfl, hA⟩
  · rw [if_neg h]
    have hn : L - (p.size : Int) < 0 := by omega
    go_enter Tryd.func12, Tryd.ntmps12
    go_wp2
    go_ret
    exact ⟨rfl, hA⟩
set_option maxHeartbeats 1000000 in
theorem eq20 (b : Int) (p : ByteArray) (x r : Int) (w : World) :
    Calls Tryd.prog 20 #[.agg #[.int .i64 b, .string p, .int .i64 x, .int .i64 r], .agg #[.int .i64 b, .string p, .int .i64 x, .int .i64 r]] w fun e w' => e = .returned (.bool true) ∧ Below w.heap.size w w' := by
  go_enter Tryd.func20, Tryd.ntmps20
  go_wp2
  go_ret
  exact ⟨rfl, ((Below.refl _ w).alloc (Nat.le_refl _) _).alloc (by simp) _⟩

/-- The cells of the law's own triple. -/
def OwnT (W : World) (g : Nat) (b : Int) (p : ByteArray) (x r : Int) : Prop := W.heap[g]? = some (.cells #[.int .i64 b, .string p, .int .i64 x, .int .i64 r] 23 (0, 0))
theorem OwnT.new (W : World) (b : Int) (p : ByteArray) (x r : Int) : OwnT (W.alloc (.cells #[.int .i64 b, .string p, .int .i64 x, .int .i64 r] 23)) W.heap.size b p x r := heap_alloc_new W _
theorem OwnT.lt {W : World} {g : Nat} {b : Int} {p : ByteArray} {x r : Int} (h : OwnT W g b p x r) : g < W.heap.size := (Array.getElem?_eq_some_iff.1 h).1
theorem OwnT.below {W W' : World} {g : Nat} {b : Int} {p : ByteArray} {x r : Int} (h : OwnT W g b p x r) (hb : Below W.heap.size W W') : OwnT W' g b p x r := (hb.block g h.lt).trans h
theorem OwnT.cells {W : World} {g : Nat} {b : Int} {p : ByteArray} {x r : Int} (h : OwnT W g b p x r) :
    W.cell? ⟨g, 0, none⟩ = some (.int .i64 b) ∧ W.cell? ⟨g, 1, none⟩ = some (.string p) ∧ W.cell? ⟨g, 2, none⟩ = some (.int .i64 x) ∧ W.cell? ⟨g, 3, none⟩ = some (.int .i64 r) :=
  ⟨by rw [cell_of_row _ g 0 _ _ (0, 0) h]; rfl, by rw [cell_of_row _ g 1 _ _ (0, 0) h]; rfl, by rw [cell_of_row _ g 2 _ _ (0, 0) h]; rfl, by rw [cell_of_row _ g 3 _ _ (0, 0) h]; rfl⟩

set_option maxHeartbeats 2000000 in
theorem walkTripleValid (b : Int) (p : ByteArray) (x r : Int) (hm : p.size ≤ maxLen) (w : World) {N : Nat} (hL : Laid3 N w) :
    Calls Tryd.prog 3 #[.agg #[.int .i64 b, .string p, .int .i64 x, .int .i64 r]] w fun e w' => e = .returned (.bool true) ∧ Below w.heap.size w w' := by
  unfold maxLen at hm
  have hsz := fun X => sz12 b p x r 1048576 X (by omega) (by omega) hm
  have hcur : Below w.heap.size w (w.alloc (.cells #[.int .i64 b, .string p, .int .i64 x, .int .i64 r] 23)) := (Below.refl _ w).alloc (Nat.le_refl _) _
  have hT := OwnT.new w b p x r
  have hto := fun X => to14 b p x r X
  by_cases hlt : (p.size : Int) ≤ 1048576
  · rw [if_pos hlt] at hsz
    have hn : ¬ (1048576 - (p.size : Int) < 0) := by omega
    have hmod := fun X => mtvalid b p (by omega) x r X
    have hprog := fun (X : World) (hX : Laid3 N X) => ptvalid b p x r X hX
    generalize validT b p x r = s at hmod hprog
    have hlt2 := hlt
    clear hlt
    go_enter Tryd.func3, Tryd.ntmps3
    go_wp2_with (first
      | (go_at_call 12; refine (hsz _).mono ?_; rintro e Wk ⟨rfl, hb⟩; replace hcur := hcur.trans (hb.mono hcur.size); replace hT := hT.below hb; obtain ⟨c0, c1, c2, c3⟩ := hT.cells; clear hb)
      | (go_at_call 14; refine (hto _).mono ?_; rintro e Wk ⟨rfl, hb⟩; replace hcur := hcur.trans (hb.mono hcur.size); replace hT := hT.below hb; obtain ⟨c0, c1, c2, c3⟩ := hT.cells; clear hb)
      | (go_at_call 13; refine (hmod _).mono ?_; rintro e Wk ⟨rfl, hb⟩; replace hcur := hcur.trans (hb.mono hcur.size); replace hT := hT.below hb; obtain ⟨c0, c1, c2, c3⟩ := hT.cells; clear hb)
      | (go_at_call 15; refine (hprog _ (hL.below hcur hL.lt)).mono ?_; rintro e Wk ⟨rfl, hb⟩; replace hcur := hcur.trans (hb.mono hcur.size); replace hT := hT.below hb; obtain ⟨c0, c1, c2, c3⟩ := hT.cells; clear hb))
    go_ret
    exact ⟨rfl, hcur⟩
  · rw [if_neg hlt] at hsz
    clear hlt
    go_enter Tryd.func3, Tryd.ntmps3
    go_wp2_with (go_at_call 12; refine (hsz _).mono ?_; rintro e Wk ⟨rfl, hb⟩; replace hcur := hcur.trans (hb.mono hcur.size); replace hT := hT.below hb; obtain ⟨c0, c1, c2, c3⟩ := hT.cells; clear hb)
    go_ret
    exact ⟨rfl, hcur⟩

set_option maxHeartbeats 2000000 in
theorem walkIsSure (b : Int) (p : ByteArray) (x r : Int) (hm : p.size ≤ maxLen) (w : World) {N : Nat} (hL : Laid3 N w) (hE : NoTrip N w) :
    Calls Tryd.prog 6 #[.agg #[.int .i64 b, .string p, .int .i64 x, .int .i64 r]] w fun e w' => e = .returned (.bool true) ∧ Below w.heap.size w w' := by
  unfold maxLen at hm
  have hsz := fun X => sz12 b p x r 1048576 X (by omega) (by omega) hm
  have hcur : Below w.heap.size w (w.alloc (.cells #[.int .i64 b, .string p, .int .i64 x, .int .i64 r] 23)) := (Below.refl _ w).alloc (Nat.le_refl _) _
  have hT := OwnT.new w b p x r
  have hto := fun X => to14 b p x r X
  by_cases hlt : (p.size : Int) ≤ 1048576
  · rw [if_pos hlt] at hsz
    have hn : ¬ (1048576 - (p.size : Int) < 0) := by omega
    have hmod := fun X => msure21 b p (by omega) x r X
    have hprog := fun (X : World) (hX : Laid3 N X) (hY : NoTrip N X) => psure22 b p x r X hX hY
    generalize sureT b p x r = s at hmod hprog
    have hlt2 := hlt
    clear hlt
    go_enter Tryd.func6, Tryd.ntmps6
    go_wp2_with (first
      | (go_at_call 12; refine (hsz _).mono ?_; rintro e Wk ⟨rfl, hb⟩; replace hcur := hcur.trans (hb.mono hcur.size); replace hT := hT.below hb; obtain ⟨c0, c1, c2, c3⟩ := hT.cells; clear hb)
      | (go_at_call 14; refine (hto _).mono ?_; rintro e Wk ⟨rfl, hb⟩; replace hcur := hcur.trans (hb.mono hcur.size); replace hT := hT.below hb; obtain ⟨c0, c1, c2, c3⟩ := hT.cells; clear hb)
      | (go_at_call 21; refine (hmod _).mono ?_; rintro e Wk ⟨rfl, hb⟩; replace hcur := hcur.trans (hb.mono hcur.size); replace hT := hT.below hb; obtain ⟨c0, c1, c2, c3⟩ := hT.cells; clear hb)
      | (go_at_call 22; refine (hprog _ (hL.below hcur hL.lt) (hE.below hcur hL.lt)).mono ?_; rintro e Wk ⟨rfl, hb⟩; replace hcur := hcur.trans (hb.mono hcur.size); replace hT := hT.below hb; obtain ⟨c0, c1, c2, c3⟩ := hT.cells; clear hb))
    go_ret
    exact ⟨rfl, hcur⟩
  · rw [if_neg hlt] at hsz
    clear hlt
    go_enter Tryd.func6, Tryd.ntmps6
    go_wp2_with (go_at_call 12; refine (hsz _).mono ?_; rintro e Wk ⟨rfl, hb⟩; replace hcur := hcur.trans (hb.mono hcur.size); replace hT := hT.below hb; obtain ⟨c0, c1, c2, c3⟩ := hT.cells; clear hb)
    go_ret
    exact ⟨rfl, hcur⟩

set_option maxHeartbeats 2000000 in
theorem walkIsAlways (b : Int) (p : ByteArray) (x r : Int) (hm : p.size ≤ maxLen) (w : World) {N : Nat} (hL : Laid3 N w) (hE : NoTrip N w) :
    Calls Tryd.prog 7 #[.agg #[.int .i64 b, .string p, .int .i64 x, .int .i64 r]] w fun e w' => e = .returned (.bool true) ∧ Below w.heap.size w w' := by
  unfold maxLen at hm
  have hsz := fun X => sz12 b p x r 1048576 X (by omega) (by omega) hm
  have hcur : Below w.heap.size w (w.alloc (.cells #[.int .i64 b, .string p, .int .i64 x, .int .i64 r] 23)) := (Below.refl _ w).alloc (Nat.le_refl _) _
  have hT := OwnT.new w b p x r
  have hto := fun X => to14 b p x r X
  by_cases hlt : (p.size : Int) ≤ 1048576
  · rw [if_pos hlt] at hsz
    have hn : ¬ (1048576 - (p.size : Int) < 0) := by omega
    have hmod := fun X => malways23 b p (by omega) x r X
    have hprog := fun (X : World) (hX : Laid3 N X) (hY : NoTrip N X) => palways24 b p x r X hX hY
    generalize alwaysT b p x r = s at hmod hprog
    have hlt2 := hlt
    clear hlt
    go_enter Tryd.func7, Tryd.ntmps7
    go_wp2_with (first
      | (go_at_call 12; refine (hsz _).mono ?_; rintro e Wk ⟨rfl, hb⟩; replace hcur := hcur.trans (hb.mono hcur.size); replace hT := hT.below hb; obtain ⟨c0, c1, c2, c3⟩ := hT.cells; clear hb)
      | (go_at_call 14; refine (hto _).mono ?_; rintro e Wk ⟨rfl, hb⟩; replace hcur := hcur.trans (hb.mono hcur.size); replace hT := hT.below hb; obtain ⟨c0, c1, c2, c3⟩ := hT.cells; clear hb)
      | (go_at_call 23; refine (hmod _).mono ?_; rintro e Wk ⟨rfl, hb⟩; replace hcur := hcur.trans (hb.mono hcur.size); replace hT := hT.below hb; obtain ⟨c0, c1, c2, c3⟩ := hT.cells; clear hb)
      | (go_at_call 24; refine (hprog _ (hL.below hcur hL.lt) (hE.below hcur hL.lt)).mono ?_; rintro e Wk ⟨rfl, hb⟩; replace hcur := hcur.trans (hb.mono hcur.size); replace hT := hT.below hb; obtain ⟨c0, c1, c2, c3⟩ := hT.cells; clear hb))
    go_ret
    exact ⟨rfl, hcur⟩
  · rw [if_neg hlt] at hsz
    clear hlt
    go_enter Tryd.func7, Tryd.ntmps7
    go_wp2_with (go_at_call 12; refine (hsz _).mono ?_; rintro e Wk ⟨rfl, hb⟩; replace hcur := hcur.trans (hb.mono hcur.size); replace hT := hT.below hb; obtain ⟨c0, c1, c2, c3⟩ := hT.cells; clear hb)
    go_ret
    exact ⟨rfl, hcur⟩

set_option maxHeartbeats 2000000 in
theorem walkMissingOf (b : Int) (p : ByteArray) (x r : Int) (hm : p.size ≤ maxLen) (w : World) {N : Nat} (hL : Laid3 N w) (hE : NoTrip N w) :
    Calls Tryd.prog 10 #[.agg #[.int .i64 b, .string p, .int .i64 x, .int .i64 r]] w fun e w' => e = .returned (.bool true) ∧ Below w.heap.size w w' := by
  unfold maxLen at hm
  have hsz := fun X => sz12 b p x r 1048576 X (by omega) (by omega) hm
  have hcur : Below w.heap.size w (w.alloc (.cells #[.int .i64 b, .string p, .int .i64 x, .int .i64 r] 23)) := (Below.refl _ w).alloc (Nat.le_refl _) _
  have hT := OwnT.new w b p x r
  have hto := fun X => to14 b p x r X
  by_cases hlt : (p.size : Int) ≤ 1048576
  · rw [if_pos hlt] at hsz
    have hn : ¬ (1048576 - (p.size : Int) < 0) := by omega
    have hmod := fun X => mmiss29 b p (by omega) x r X
    have hprog := fun (X : World) (hX : Laid3 N X) (hY : NoTrip N X) => pmiss30 b p x r X hX hY
    generalize missT b p x r = z at hmod hprog
    generalize validT b p x r = s at hmod hprog
    have hlt2 := hlt
    clear hlt
    go_enter Tryd.func10, Tryd.ntmps10
    go_wp2_with (first
      | (go_at_call 12; refine (hsz _).mono ?_; rintro e Wk ⟨rfl, hb⟩; replace hcur := hcur.trans (hb.mono hcur.size); replace hT := hT.below hb; obtain ⟨c0, c1, c2, c3⟩ := hT.cells; clear hb)
      | (go_at_call 14; refine (hto _).mono ?_; rintro e Wk ⟨rfl, hb⟩; replace hcur := hcur.trans (hb.mono hcur.size); replace hT := hT.below hb; obtain ⟨c0, c1, c2, c3⟩ := hT.cells; clear hb)
      | (go_at_call 29; refine (hmod _).mono ?_; rintro e Wk ⟨rfl, hb⟩; replace hcur := hcur.trans (hb.mono hcur.size); replace hT := hT.below hb; obtain ⟨c0, c1, c2, c3⟩ := hT.cells; clear hb)
      | (go_at_call 30; refine (hprog _ (hL.below hcur hL.lt) (hE.below hcur hL.lt)).mono ?_; rintro e Wk ⟨rfl, hb⟩; replace hcur := hcur.trans (hb.mono hcur.size); replace hT := hT.below hb; obtain ⟨c0, c1, c2, c3⟩ := hT.cells; clear hb))
    go_ret
    exact ⟨rfl, hcur⟩
  · rw [if_neg hlt] at hsz
    clear hlt
    go_enter Tryd.func10, Tryd.ntmps10
    go_wp2_with (go_at_call 12; refine (hsz _).mono ?_; rintro e Wk ⟨rfl, hb⟩; replace hcur := hcur.trans (hb.mono hcur.size); replace hT := hT.below hb; obtain ⟨c0, c1, c2, c3⟩ := hT.cells; clear hb)
    go_ret
    exact ⟨rfl, hcur⟩

set_option maxHeartbeats 2000000 in
theorem walkSurplusOf (b : Int) (p : ByteArray) (x r : Int) (hm : p.size ≤ maxLen) (w : World) {N : Nat} (hL : Laid3 N w) (hE : NoTrip N w) :
    Calls Tryd.prog 11 #[.agg #[.int .i64 b, .string p, .int .i64 x, .int .i64 r]] w fun e w' => e = .returned (.bool true) ∧ Below w.heap.size w w' := by
  unfold maxLen at hm
  have hsz := fun X => sz12 b p x r 1048576 X (by omega) (by omega) hm
  have hcur : Below w.heap.size w (w.alloc (.cells #[.int .i64 b, .string p, .int .i64 x, .int .i64 r] 23)) := (Below.refl _ w).alloc (Nat.le_refl _) _
  have hT := OwnT.new w b p x r
  have hto := fun X => to14 b p x r X
  by_cases hlt : (p.size : Int) ≤ 1048576
  · rw [if_pos hlt] at hsz
    have hn : ¬ (1048576 - (p.size : Int) < 0) := by omega
    have hmod := fun X => msurp31 b p (by omega) x r X
    have hprog := fun (X : World) (hX : Laid3 N X) (hY : NoTrip N X) => psurp32 b p x r X hX hY
    generalize surpT b p x r = z at hmod hprog
    generalize validT b p x r = s at hmod hprog
    have hlt2 := hlt
    clear hlt
    go_enter Tryd.func11, Tryd.ntmps11
    go_wp2_with (first
      | (go_at_call 12; refine (hsz _).mono ?_; rintro e Wk ⟨rfl, hb⟩; replace hcur := hcur.trans (hb.mono hcur.size); replace hT := hT.below hb; obtain ⟨c0, c1, c2, c3⟩ := hT.cells; clear hb)
      | (go_at_call 14; refine (hto _).mono ?_; rintro e Wk ⟨rfl, hb⟩; replace hcur := hcur.trans (hb.mono hcur.size); replace hT := hT.below hb; obtain ⟨c0, c1, c2, c3⟩ := hT.cells; clear hb)
      | (go_at_call 31; refine (hmod _).mono ?_; rintro e Wk ⟨rfl, hb⟩; replace hcur := hcur.trans (hb.mono hcur.size); replace hT := hT.below hb; obtain ⟨c0, c1, c2, c3⟩ := hT.cells; clear hb)
      | (go_at_call 32; refine (hprog _ (hL.below hcur hL.lt) (hE.below hcur hL.lt)).mono ?_; rintro e Wk ⟨rfl, hb⟩; replace hcur := hcur.trans (hb.mono hcur.size); replace hT := hT.below hb; obtain ⟨c0, c1, c2, c3⟩ := hT.cells; clear hb))
    go_ret
    exact ⟨rfl, hcur⟩
  · rw [if_neg hlt] at hsz
    clear hlt
    go_enter Tryd.func11, Tryd.ntmps11
    go_wp2_with (go_at_call 12; refine (hsz _).mono ?_; rintro e Wk ⟨rfl, hb⟩; replace hcur := hcur.trans (hb.mono hcur.size); replace hT := hT.below hb; obtain ⟨c0, c1, c2, c3⟩ := hT.cells; clear hb)
    go_ret
    exact ⟨rfl, hcur⟩

set_option maxHeartbeats 2000000 in
theorem walkMostSure (b : Int) (p : ByteArray) (x : Int) (hm : p.size ≤ maxLen) (w : World) {N : Nat} (hL : Laid3 N w) :
    Calls Tryd.prog 8 #[.int .i64 b, .string p, .int .i64 x] w fun e w' => e = .returned (.bool true) ∧ Below w.heap.size w w' := by
  unfold maxLen at hm
  by_cases hlt : p.size ≤ 1048576
  · have hlti : (p.size : Int) ≤ 1048576 := by omega
    have hmod := fun X => mmost25 b p (by omega) x X
    have hprog := fun (X : World) (hX : Laid3 N X) => pmost26 b p x X hX
    generalize mostT b p x = z at hmod hprog
    generalize reachB p b x = s at hmod hprog
    obtain ⟨zb, zp, zx, zr⟩ := z
    dsimp only at hmod hprog
    go_enter Tryd.func8, Tryd.ntmps8
    go_wp2_with (first
      | (go_at_call 25; refine (hmod _).mono ?_; rintro e W1 ⟨rfl, hb1⟩; have hT0 := TripAt.new W1 zb zp zx zr; have hc1 := hb1.alloc hb1.size (.cells #[.int .i64 zb, .string zp, .int .i64 zx, .int .i64 zr] 26))
      | (go_at_call 26; refine (hprog _ (hL.below hc1 hL.lt)).mono ?_; rintro e W2 ⟨rfl, hb2⟩; have hT1 := hT0.below hb2 hT0.lt; obtain ⟨c0, c1, c2, c3⟩ := (hT1.below ((Below.refl _ W2).alloc (Nat.le_refl _) (.cells #[.int .i64 zb, .string zp, .int .i64 zx, .int .i64 zr] 26)) hT1.lt).cells; have hc2 := hc1.trans (hb2.mono hc1.size); have hc3 := hc2.alloc hc2.size (.cells #[.int .i64 zb, .string zp, .int .i64 zx, .int .i64 zr] 26))
      | (go_at_call 20; refine (eq20 zb zp zx zr _).mono ?_; rintro e W3 ⟨rfl, hb3⟩))
    go_ret
    exact ⟨rfl, hc3.trans (hb3.mono hc3.size)⟩
  · have hlti : (1048576 : Int) < (p.size : Int) := by omega
    go_enter Tryd.func8, Tryd.ntmps8
    go_wp2
    go_ret
    exact ⟨rfl, Below.refl _ _⟩
end Go.Proofs.YtlimgdnaanoloaaDoor

