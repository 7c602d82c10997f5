/- What the package's four variables hold when a call begins, as the condition gives it. -/
import Derived.Test.YtgkgkaapjljpcaaDoorNA
import Derived.ProofKit
import Derived.LaidMore
import Derived.OpenShut
import Derived.ShutString
import Derived.SliceStrings
import Derived.Stop.Joined
import Derived.Stop.LaidErr
import Derived.Lay
import Derived.LaidOnce
import Derived.OpenVars
namespace Go.Proofs.YtgkgkaapjljpcaaDoor
open Go.ChangeShapes Go.WideShapes Go.ChangeAt Go.RowKit

set_option maxRecDepth 100000
theorem own : ownKnob Tryd.prog.godebug = none := by kernel_rfl
theorem gVars : Tryd.prog.globalNamed "loop.example/surelywrong/impl.comparedVariables" = some 3 := by kernel_rfl
theorem gNums : Tryd.prog.globalNamed "loop.example/surelywrong/impl.comparedWithNumbers" = some 4 := by kernel_rfl
theorem gErr : Tryd.prog.globalNamed "loop.example/surelywrong/impl.errNoProgram" = some 1 := by kernel_rfl
theorem gAsg : Tryd.prog.globalNamed "loop.example/surelywrong/impl.assignments" = some 2 := by kernel_rfl
theorem tVars : (Tryd.prog.globals[3]?).map (·.type) = some 44 := by kernel_rfl
theorem tNums : (Tryd.prog.globals[4]?).map (·.type) = some 44 := by kernel_rfl
theorem tErr : (Tryd.prog.globals[1]?).map (·.type) = some 46 := by kernel_rfl
theorem tAsg : (Tryd.prog.globals[2]?).map (·.type) = some 44 := by kernel_rfl
theorem laidOut : laidOutB Tryd.prog = true := by kernel_rfl
theorem rowed : varsRowed Tryd.prog ["loop.example/surelywrong/impl.errNoProgram", "loop.example/surelywrong/impl.assignments", "loop.example/surelywrong/impl.comparedVariables", "loop.example/surelywrong/impl.comparedWithNumbers"] = true := by kernel_rfl
theorem cellsStruct : Tryd.prog.cellsOf 205 = 1 := by kernel_rfl
theorem cellsString : Tryd.prog.cellsOf 9 = 1 := by kernel_rfl
theorem star : "*" ++ "errors.errorString" = "*errors.errorString" := by decide
theorem rowPtr (u : TypeId) (h : Tryd.prog.typeName? 3 u = some "*errors.errorString") : u = 189 :=
  typeName_ptr_named (nm := "errors.errorString") (by rw [star]; kernel_rfl) (by kernel_rfl) (by decide) u (by rw [star]; exact h)

/-- What the rows list. -/
def laidV : List (String × DataW Unit) := [("loop.example/surelywrong/impl.comparedWithNumbers", Rows.laid_loop_example_surelywrong_impl_comparedWithNumbers), ("loop.example/surelywrong/impl.comparedVariables", Rows.laid_loop_example_surelywrong_impl_comparedVariables), ("loop.example/surelywrong/impl.errNoProgram", Rows.laid_loop_example_surelywrong_impl_errNoProgram), ("loop.example/surelywrong/impl.assignments", Rows.laid_loop_example_surelywrong_impl_assignments)]

theorem lt_of_cell' {W : World} {a : Addr} {v : Value} (h : W.cell? a = some v) : a.block < W.heap.size := by
  unfold World.cell? at h
  cases hh : W.heap[a.block]? with
  | none => rw [hh] at h; simp at h
  | some o => exact (Array.getElem?_eq_some_iff.1 hh).1

theorem table_of {H : Type} {enc : TypeId × Value → H} {W : World} {base fuel : Nat} {sp : Nat → Bool} {held : Bool} {t : TypeId} {cs : List Value} {bs : List (List UInt8)} {p : List MemPlace}
    (hu : Tryd.prog.underlying t = some (.slice 9)) (h : DataW.trod enc Tryd.prog W base sp held fuel t cs = some (.slice (bs.map fun b => .lit (.string b)) [], p)) :
    ∃ (x : Addr) (c : Nat), cs = [.slice (some x) bs.length c] ∧ ∀ (i : Nat) b, bs[i]? = some b → W.cell? (x.add i) = some (.string ⟨b.toArray⟩) := by
  rcases open_strings hu Tryd.underlying9 cellsString h with ⟨_, hx⟩ | ⟨a, len, cap, ss, rfl, _, hl, _, hlen, hx, hcell, _⟩
  · simp at hx
  · simp only [Prod.mk.injEq, DataW.slice.injEq] at hx
    obtain ⟨⟨h1, _⟩, _⟩ := hx
    have hsl : len ≤ ss.length := by rw [hlen]; split <;> omega
    have hn : bs.length = len := by
      have := congrArg List.length h1
      unfold strs at this
      simp at this
      omega
    refine ⟨a, cap, by rw [hn], fun i b hb => ?_⟩
    have hi : i < bs.length := (List.getElem?_eq_some_iff.1 hb).1
    have h2 : (bs.map fun b => (DataW.lit (.string b) : DataW H))[i]? = (strs (ss.take len))[i]? := by rw [h1]
    unfold strs at h2
    rw [List.getElem?_map, List.getElem?_map, hb, List.getElem?_take, if_pos (by omega)] at h2
    have his : i < ss.length := by omega
    rw [List.getElem?_eq_getElem his] at h2
    have h3 : b = ss[i].data.toList := by simpa using h2
    rw [hcell i his]
    have : ss.getD i ByteArray.empty = ss[i] := by simp [List.getD, his]
    rw [this, h3]

/-- What the condition gives. -/
theorem of_laid {W : World} (h : laidMet Tryd.prog laidV W) : Laid3 W.heap.size W := by
  obtain ⟨ae, se, he, hse, _, _⟩ := laid_sentinel (h.tail.tail) gErr tErr Tryd.underlying46 rowPtr Tryd.underlying189 Tryd.underlying205 rfl rfl Tryd.underlying9 cellsStruct cellsString
  obtain ⟨_, ⟨g0, t0, cs0, f0, p0, q0, hg0, ht0, hv0, hd0, ⟨g1, t1, cs1, f1, p1, q1, hg1, ht1, hv1, hd1, ⟨g2, t2, cs2, f2, p2, q2, hg2, ht2, hv2, hd2, ⟨g3, t3, cs3, f3, p3, q3, hg3, ht3, hv3, hd3, _, _⟩, _⟩, _⟩, _⟩, _, _⟩ := h
  obtain rfl := Option.some.inj (gNums.symm.trans hg0)
  obtain rfl := Option.some.inj (gVars.symm.trans hg1)
  obtain rfl := Option.some.inj (gAsg.symm.trans hg3)
  obtain rfl := Option.some.inj (tNums.symm.trans ht0)
  obtain rfl := Option.some.inj (tVars.symm.trans ht1)
  obtain rfl := Option.some.inj (tAsg.symm.trans ht3)
  obtain ⟨x0, c0, e0, k0⟩ := table_of (bs := tails) Tryd.underlying44 hd0
  obtain ⟨x1, c1, e1, k1⟩ := table_of (bs := both) Tryd.underlying44 hd1
  obtain ⟨x3, c3, e3, k3⟩ := table_of (bs := twos) Tryd.underlying44 hd3
  have d0 : W.cell? ⟨4, 0, none⟩ = some (.slice (some x0) 8 c0) := by rw [World.var?_cell hg0 hv0 0, ← Array.getElem?_toList, e0]; rfl
  have d1 : W.cell? ⟨3, 0, none⟩ = some (.slice (some x1) 4 c1) := by rw [World.var?_cell hg1 hv1 0, ← Array.getElem?_toList, e1]; rfl
  have d3 : W.cell? ⟨2, 0, none⟩ = some (.slice (some x3) 12 c3) := by rw [World.var?_cell hg3 hv3 0, ← Array.getElem?_toList, e3]; rfl
  have de : W.cell? ⟨1, 0, none⟩ = some (.iface 189 (.pointer (some ae))) := by simpa using World.var?_cell gErr he 0
  have b0 := lt_of_cell' (k0 0 _ rfl)
  have b1 := lt_of_cell' (k1 0 _ rfl)
  have b3 := lt_of_cell' (k3 0 _ rfl)
  rw [add_block] at b0 b1 b3
  exact ⟨⟨⟨x0, c0, d0, k0, lt_of_cell' d0, b0⟩, ⟨x1, c1, d1, k1, lt_of_cell' d1, b1⟩, Nat.le_refl _⟩, ⟨x3, c3, d3, k3, lt_of_cell' d3, b3⟩, ⟨189, _, de⟩, lt_of_cell' de⟩

theorem trodVars_len {H : Type} {enc : TypeId × Value → H} {P : Program} {w : World} {sp : Nat → Bool} : ∀ {ns : List String} {gs : List (DataW H)} {ps : List MemPlace}, DataW.TrodVars enc P w sp ns gs ps → gs.length = ns.length
  | [], [], _, _ => rfl
  | [], _ :: _, _, h => h.elim
  | _ :: _, [], _, h => h.elim
  | _ :: _, _ :: _, _, h => by
    obtain ⟨_, _, _, _, _, _, _, _, _, _, h, _⟩ := h
    exact congrArg (· + 1) (trodVars_len h)
theorem trodVars_len4 {H : Type} {enc : TypeId × Value → H} {P : Program} {w : World} {sp : Nat → Bool} {n0 n1 n2 n3 : String} {gs : List (DataW H)} {ps : List MemPlace} (h : DataW.TrodVars enc P w sp [n0, n1, n2, n3] gs ps) : ∃ d0 d1 d2 d3, gs = [d0, d1, d2, d3] := by
  have hl := trodVars_len h
  match gs, hl with
  | [d0, d1, d2, d3], _ => exact ⟨d0, d1, d2, d3, rfl⟩
end Go.Proofs.YtgkgkaapjljpcaaDoor

