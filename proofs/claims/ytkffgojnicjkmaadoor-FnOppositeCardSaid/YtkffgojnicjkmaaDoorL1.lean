/- What the two package variables hold when a call begins, as the condition gives it. -/
import Derived.Test.YtkffgojnicjkmaaDoorT6
import Derived.ProofKit
import Derived.LaidMore
import Derived.OpenShut
import Derived.ShutString
import Derived.Stop.Joined
import Derived.Stop.LaidErr
import Derived.Lay
import Derived.LaidOnce
import Derived.OpenVars
namespace Go.Proofs.YtkffgojnicjkmaaDoor
open Go.ChangeShapes Go.WideShapes Go.ChangeAt Go.RowKit

theorem own : ownKnob Tryd.prog.godebug = none := by kernel_rfl
theorem gVars : Tryd.prog.globalNamed "loop.example/surelywrong/impl.comparedVariables" = some 0 := by kernel_rfl
theorem gNums : Tryd.prog.globalNamed "loop.example/surelywrong/impl.comparedWithNumbers" = some 1 := by kernel_rfl
theorem tVars : (Tryd.prog.globals[0]?).map (·.type) = some 61 := by kernel_rfl
theorem tNums : (Tryd.prog.globals[1]?).map (·.type) = some 78 := by kernel_rfl
theorem laidOut : laidOutB Tryd.prog = true := by kernel_rfl
theorem rowed : varsRowed Tryd.prog ["loop.example/surelywrong/impl.comparedVariables", "loop.example/surelywrong/impl.comparedWithNumbers"] = true := by kernel_rfl

/-- What the rows list. -/
def laidV : List (String × DataW Unit) := [("loop.example/surelywrong/impl.comparedWithNumbers", Rows.laid_loop_example_surelywrong_impl_comparedWithNumbers), ("loop.example/surelywrong/impl.comparedVariables", Rows.laid_loop_example_surelywrong_impl_comparedVariables)]

theorem arr_cells {H : Type} {enc : TypeId × Value → H} {W : World} {base fuel n : Nat} {sp : Nat → Bool} {held : Bool} {t : TypeId} {cs : List Value} {bs : List (List UInt8)} {p : List MemPlace}
    (hu : Tryd.prog.underlying t = some (.array n 9)) (hc : Tryd.prog.cellsOf 9 = 1)
    (h : DataW.trod enc Tryd.prog W base sp held fuel t cs = some (.agg (bs.map fun b => .lit (.string b)), p)) (hn : bs.length = n) : ∀ (i : Nat) b, bs[i]? = some b → cs[i]? = some (.string ⟨b.toArray⟩) := by
  obtain ⟨xs, m, _, hx, _, hl, hel⟩ := DataW.trod_array hu h
  intro i b hb
  have hi : i < n := by have := (List.getElem?_eq_some_iff.1 hb).1; omega
  have he := hel i hi
  rw [hc, Nat.mul_one] at he
  simp only [Prod.mk.injEq, DataW.agg.injEq] at hx
  have h1 : (xs.map (·.1))[i]? = some (.lit (.string b)) := by rw [← hx.1]; simp [hb]
  rw [List.getElem?_map] at h1
  cases hxi : xs[i]? with
  | none => rw [hxi] at h1; cases h1
  | some x =>
    rw [hxi] at h1 he
    obtain ⟨s, hs, hxe, _⟩ := DataW.trod_string Tryd.underlying9 he
    subst hxe
    have h2 : s.data.toList = b := by simpa using h1
    have h3 : cs[i]? = some (.string s) := by
      have := congrArg (fun l : List Value => l[0]?) hs
      simpa using this
    rw [h3, ← h2]

theorem of_laid {W : World} (h : laidMet Tryd.prog laidV W) : Laid W := by
  obtain ⟨ps, ⟨g0, t0, cs0, f0, p0, q0, hg0, ht0, hv0, hd0, ⟨g1, t1, cs1, f1, p1, q1, hg1, ht1, hv1, hd1, _, _⟩, _⟩, _, _⟩ := h
  obtain rfl := Option.some.inj (gNums.symm.trans hg0)
  obtain rfl := Option.some.inj (gVars.symm.trans hg1)
  obtain rfl := Option.some.inj (tNums.symm.trans ht0)
  obtain rfl := Option.some.inj (tVars.symm.trans ht1)
  have hc : Tryd.prog.cellsOf 9 = 1 := by kernel_rfl
  have a0 := arr_cells (bs := tails) Tryd.underlying78 hc hd0 (by decide)
  have a1 := arr_cells (bs := both) Tryd.underlying61 hc hd1 (by decide)
  have c0 := World.var?_cell hg0 hv0
  have c1 := World.var?_cell hg1 hv1
  have d0 : ∀ (i : Nat) b, tails[i]? = some b → W.cell? ⟨1, i, none⟩ = some (.string ⟨b.toArray⟩) := fun i b hb => by rw [c0 i, ← Array.getElem?_toList]; exact a0 i b hb
  have d1 : ∀ (i : Nat) b, both[i]? = some b → W.cell? ⟨0, i, none⟩ = some (.string ⟨b.toArray⟩) := fun i b hb => by rw [c1 i, ← Array.getElem?_toList]; exact a1 i b hb
  refine ⟨⟨d0 0 _ rfl, d0 1 _ rfl, d0 2 _ rfl, d0 3 _ rfl, d0 4 _ rfl, d0 5 _ rfl, d0 6 _ rfl, d0 7 _ rfl⟩, ⟨d1 0 _ rfl, d1 1 _ rfl, d1 2 _ rfl, d1 3 _ rfl⟩, ?_⟩
  have := d0 0 _ rfl
  unfold World.cell? at this
  cases hh : W.heap[1]? with
  | none => rw [hh] at this; simp at this
  | some o => exact (Array.getElem?_eq_some_iff.1 hh).1
end Go.Proofs.YtkffgojnicjkmaaDoor
