/- Chapter 5, the program: triples as keys of a map; elements of a map that read as they are. -/
import Derived.Test.YtpepaobgngighabGreatDoorL3
import Derived.Maps.Own
import Derived.Maps.Views
import Derived.Maps.OwnOps
import Derived.Maps.OwnSet
import Derived.DeepKeys4
namespace Go.Proofs.YtpepaobgngighabGreatDoor
open Go.ChangeShapes Go.WideShapes Go.ChangeAt Go.RowKit Go.Shelf Go.Maps
set_option maxRecDepth 100000

theorem rowTrip : (25 : TypeId) < Tryz.prog.types.size := of_decide_eq_true (by kernel_rfl)
theorem wideTrip : (match Tryz.prog.underlying 25 with | some (.array _ _) | some (.struct _) => true | _ => false) = true := by kernel_rfl
theorem lawTrip : Keyed Tryz.prog 25 := Keyed.of_law (deep_law_laid laidOut (m := 2) (by omega) rowTrip (by kernel_rfl) wideTrip)
theorem keyTypeTrip : Tryz.prog.keyType 25 = true := by kernel_rfl
theorem cellsTrip : Tryz.prog.cellsOf 25 = 4 := by kernel_rfl
theorem cellsInt : Tryz.prog.cellsOf 3 = 1 := by kernel_rfl
theorem cellsStr : Tryz.prog.cellsOf 9 = 1 := by kernel_rfl

/-- Each triple of numbers and a text has a key. -/
theorem key_trip {b x r : Int} {p : ByteArray} (wb : (Lit.int .i64 b).wf = true) (wp : p.size ≤ maxLen) (wx : (Lit.int .i64 x).wf = true) (wr : (Lit.int .i64 r).wf = true) :
    keyOf Tryz.prog 25 (.agg #[.int .i64 b, .string p, .int .i64 x, .int .i64 r]) = some (.string (keyBytes [.int .i64 b, .string p.data.toList, .int .i64 x, .int .i64 r])) := by
  obtain ⟨m, hm⟩ : ∃ m, Tryz.prog.types.size = m + 1 := ⟨Tryz.prog.types.size - 1, (Nat.succ_pred_eq_of_pos (Nat.lt_of_le_of_lt (Nat.zero_le _) rowTrip)).symm⟩
  unfold keyOf
  simp only [Tryz.underlying25]
  rw [if_pos (by simp [keyTypeTrip, Value.formed, Tryz.underlying25, cellsTrip]), hm]
  unfold Program.keyLits
  simp [Tryz.underlying25, Value.cells, cellsTrip, cellsInt, cellsStr, Program.keyLits, Tryz.underlying3, Tryz.underlying9, wb, wp, wx, wr]

/-- How an element reads as it is. -/
def asIs (v : Value) : Option (DataW Value × List MemPlace) := some (.held v, [])
theorem asIs_mk (v : Value) : asIs v = some (.held v, []) := rfl
theorem asIs_inv {v u : Value} {ps : List MemPlace} (h : asIs v = some (.held u, ps)) : v = u := by unfold asIs at h; cases h; rfl

theorem zeroFinding (w : World) : (zeroValue 82).run Tryz.prog w = .ok (.agg #[.int .i64 0, .int .i64 0]) w := by kernel_rfl
/-- What stands in a map at a key. -/
theorem found_at {W : World} {g n : Nat} {D : DataW Value} (h : W.ownsMap Tryz.prog 25 asIs g n D) {key : Value} {kl : Lit} (hk : keyOf Tryz.prog 25 key = some kl) {u : Value} (hu : D.atKey kl (.held (.agg #[.int .i64 0, .int .i64 0])) = .held u) :
    (Instr.lookup 74 (.map (some g)) key false).run Tryz.prog W = .ok u W := by
  obtain ⟨v, ps, hrun, hv⟩ := h.lookup lawTrip Tryz.underlying74 (zeroFinding W) (asIs_mk _) hk
  rw [hu] at hv
  rw [asIs_inv hv] at hrun
  exact hrun
/-- In the nil map there is nothing. -/
theorem found_nil (b : Int) (p : ByteArray) (x r : Int) (W : World) :
    (Instr.lookup 74 (.map none) (.agg #[.int .i64 b, .string p, .int .i64 x, .int .i64 r]) false).run Tryz.prog W = .ok (.agg #[.int .i64 0, .int .i64 0]) W := by kernel_rfl
end Go.Proofs.YtpepaobgngighabGreatDoor

