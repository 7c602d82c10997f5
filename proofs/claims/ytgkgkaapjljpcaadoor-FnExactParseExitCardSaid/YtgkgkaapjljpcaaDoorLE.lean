/- What the condition lays, where the error of exits that are none is all that is listed. -/
import Derived.Test.YtgkgkaapjljpcaaDoorFX
import Derived.Test.YtgkgkaapjljpcaaDoorCutS
import Derived.Test.YtgkgkaapjljpcaaDoorRows
import Derived.ProofKit
import Derived.LaidMore
import Derived.OpenShut
import Derived.ShutString
import Derived.Stop.Joined
import Derived.Stop.LaidErr
import Derived.Lay
import Derived.LaidOnce
import Derived.OpenVars
namespace Go.Proofs.YtgkgkaapjljpcaaDoor
open Go.ChangeShapes Go.WideShapes Go.ChangeAt Go.RowKit

set_option maxRecDepth 100000
theorem own : ownKnob Tryd.prog.godebug = none := by kernel_rfl
theorem laidOut : laidOutB Tryd.prog = true := by kernel_rfl
theorem lt_of_cell' {W : World} {a : Addr} {v : Value} (h : W.cell? a = some v) : a.block < W.heap.size := by
  unfold World.cell? at h
  cases hh : W.heap[a.block]? with
  | none => rw [hh] at h; simp at h
  | some o => exact (Array.getElem?_eq_some_iff.1 hh).1
theorem cellsStruct : Tryd.prog.cellsOf 205 = 1 := by kernel_rfl
theorem cellsString : Tryd.prog.cellsOf 9 = 1 := by kernel_rfl
theorem star : "*" ++ "errors.errorString" = "*errors.errorString" := by decide
theorem rowPtr (u : TypeId) (h : Tryd.prog.typeName? 3 u = some "*errors.errorString") : u = 189 :=
  typeName_ptr_named (nm := "errors.errorString") (by rw [star]; kernel_rfl) (by kernel_rfl) (by decide) u (by rw [star]; exact h)
theorem gNoX : Tryd.prog.globalNamed "loop.example/surelywrong/impl.errNoExit" = some 0 := by kernel_rfl
theorem tNoX : (Tryd.prog.globals[0]?).map (·.type) = some 46 := by kernel_rfl
theorem noExit_of {W : World} {l : List (String × DataW Unit)} (h : laidMet Tryd.prog (("loop.example/surelywrong/impl.errNoExit", Rows.laid_loop_example_surelywrong_impl_errNoExit) :: l) W) : NoExit W.heap.size W := by
  obtain ⟨an, sn, hn, _, _, _⟩ := laid_sentinel h gNoX tNoX Tryd.underlying46 rowPtr Tryd.underlying189 Tryd.underlying205 rfl rfl Tryd.underlying9 cellsStruct cellsString
  have dn : W.cell? ⟨0, 0, none⟩ = some (.iface 189 (.pointer (some an))) := by simpa using World.var?_cell gNoX hn 0
  exact ⟨⟨189, _, dn⟩, lt_of_cell' dn⟩
theorem trodVars_len {H : Type} {enc : TypeId × Value → H} {P : Program} {w : World} {sp : Nat → Bool} : ∀ {ns : List String} {gs : List (DataW H)} {ps : List MemPlace}, DataW.TrodVars enc P w sp ns gs ps → gs.length = ns.length
  | [], [], _, _ => rfl
  | [], _ :: _, _, h => h.elim
  | _ :: _, [], _, h => h.elim
  | _ :: _, _ :: _, _, h => by
    obtain ⟨_, _, _, _, _, _, _, _, _, _, h, _⟩ := h
    exact congrArg (· + 1) (trodVars_len h)
theorem trodVars_len1 {H : Type} {enc : TypeId × Value → H} {P : Program} {w : World} {sp : Nat → Bool} {n0 : String} {gs : List (DataW H)} {ps : List MemPlace} (h : DataW.TrodVars enc P w sp [n0] gs ps) : ∃ d0, gs = [d0] := by
  have hl := trodVars_len h
  match gs, hl with
  | [d0], _ => exact ⟨d0, rfl⟩
theorem trodVars_len0 {H : Type} {enc : TypeId × Value → H} {P : Program} {w : World} {sp : Nat → Bool} {gs : List (DataW H)} {ps : List MemPlace} (h : DataW.TrodVars enc P w sp [] gs ps) : gs = [] := by
  have hl := trodVars_len h
  match gs, hl with
  | [], _ => rfl
/-- What the row lists. -/
def laidVE : List (String × DataW Unit) := [("loop.example/surelywrong/impl.errNoExit", Rows.laid_loop_example_surelywrong_impl_errNoExit)]
theorem of_laidE {W : World} (h : laidMet Tryd.prog laidVE W) : NoExit W.heap.size W := noExit_of h
end Go.Proofs.YtgkgkaapjljpcaaDoor

