/- Chapter 5: the walk of the exact law on the texts of triples. -/
import Derived.Test.YtlimgdnaanoloaaDoorTW
import Derived.Test.YtlimgdnaanoloaaDoorTQ
namespace Go.Proofs.YtlimgdnaanoloaaDoor
open Go.ChangeShapes Go.WideShapes Go.ChangeAt Go.RowKit Go.Shelf Go.Maps
attribute [local go_sem] Oper.semAt_some
set_option maxRecDepth 100000

set_option maxHeartbeats 2000000 in
theorem walkFormatTriple (b : Int) (p : ByteArray) (x r : Int) (hm : p.size ≤ maxLen) (w : World) {N : Nat} (hL : Laid3 N w) :
    Calls Tryd.prog 4 #[.agg #[.int .i64 b, .string p, .int .i64 x, .int .i64 r]] w fun e w' => e = .returned (.bool true) ∧ Below w.heap.size w w' := by
  unfold maxLen at hm
  have hsz := fun X => sz12 b p x r 1048576 X (by omega) (by omega) hm
  have hcur : Below w.heap.size w (w.alloc (.cells #[.int .i64 b, .string p, .int .i64 x, .int .i64 r] 23)) := (Below.refl _ w).alloc (Nat.le_refl _) _
  have hT := OwnT.new w b p x r
  have hto := fun X => to14 b p x r X
  by_cases hlt : (p.size : Int) ≤ 1048576
  · rw [if_pos hlt] at hsz
    have hn : ¬ (1048576 - (p.size : Int) < 0) := by omega
    have hmod := fun X => mfmt16 b p (by omega) x r X
    have hprog := fun (X : World) (hX : Laid3 N X) => pfmt17 b p x r X hX
    generalize fmtT b p x r = s at hmod hprog
    have hlt2 := hlt
    clear hlt
    go_enter Tryd.func4, Tryd.ntmps4
    go_wp2_with (first
      | (go_at_call 12; refine (hsz _).mono ?_; rintro e Wk ⟨rfl, hb⟩; replace hcur := hcur.trans (hb.mono hcur.size); replace hT := hT.below hb; obtain ⟨c0, c1, c2, c3⟩ := hT.cells; clear hb)
      | (go_at_call 14; refine (hto _).mono ?_; rintro e Wk ⟨rfl, hb⟩; replace hcur := hcur.trans (hb.mono hcur.size); replace hT := hT.below hb; obtain ⟨c0, c1, c2, c3⟩ := hT.cells; clear hb)
      | (go_at_call 16; refine (hmod _).mono ?_; rintro e Wk ⟨rfl, hb⟩; replace hcur := hcur.trans (hb.mono hcur.size); replace hT := hT.below hb; obtain ⟨c0, c1, c2, c3⟩ := hT.cells; clear hb)
      | (go_at_call 17; refine (hprog _ (hL.below hcur hL.lt)).mono ?_; rintro e Wk ⟨rfl, hb⟩; replace hcur := hcur.trans (hb.mono hcur.size); replace hT := hT.below hb; obtain ⟨c0, c1, c2, c3⟩ := hT.cells; clear hb))
    go_ret
    exact ⟨rfl, hcur⟩
  · rw [if_neg hlt] at hsz
    clear hlt
    go_enter Tryd.func4, Tryd.ntmps4
    go_wp2_with (go_at_call 12; refine (hsz _).mono ?_; rintro e Wk ⟨rfl, hb⟩; replace hcur := hcur.trans (hb.mono hcur.size); replace hT := hT.below hb; obtain ⟨c0, c1, c2, c3⟩ := hT.cells; clear hb)
    go_ret
    exact ⟨rfl, hcur⟩

end Go.Proofs.YtlimgdnaanoloaaDoor

