/- The model of chapter 1: the states of a set as a slice of its own. -/
import Derived.Test.YtcppphjdgpkhcaaDoorBase1
namespace Go.Proofs.YtcppphjdgpkhcaaDoor
open Go.ChangeShapes Go.WideShapes Go.ChangeAt Go.RowKit

set_option maxRecDepth 100000
theorem Tryd.info3 : (Tryd.prog.info? 3).map (fun i => (i.zero, i.size, i.bytes)) = some (some (.int .i64 0), 1, 8) := by kernel_rfl

/-- The cells of a list of states. -/
def cellsOf (l : List (Fin 9)) : List Value := l.map fun x => .int .i64 (x.val : Int)
theorem cellsOf_snoc (l : List (Fin 9)) (x : Fin 9) : cellsOf (l ++ [x]) = cellsOf l ++ [.int .i64 (x.val : Int)] := by simp [cellsOf]
theorem cellsOf_len (l : List (Fin 9)) : (cellsOf l).length = l.length := by simp [cellsOf]

/-- A slice of the call's own (blocks from B on) with just these states. -/
def Holds (W : World) (B : Nat) (v : Value) (l : List (Fin 9)) : Prop := W.ownsRow B 3 1 v l.length (cellsOf l)

theorem holds_step {w wr w1 : World} {s : Int} {k : Nat} {v v' : Value} (hlt : k < 9) (hb : hasB s k = true) (hB : Below w.heap.size w wr) (ho : Holds wr w.heap.size v (upTo s k))
    (hown : w1.ownsRow w.heap.size 3 1 v' ((upTo s k).length + 1) (cellsOf (upTo s k) ++ [.int .i64 (k : Int)])) (hg : (wr.alloc (.cells #[.int .i64 (k : Int)] 3)).grownBy w1 v.ownBlock) :
    Holds w1 w.heap.size v' (upTo s (k + 1)) ∧ Below w.heap.size w w1 := by
  refine ⟨?_, (hB.alloc hB.size _).grown hg (by have := hB.size; simp; omega) (fun i e => (ho.lt i e).1)⟩
  unfold Holds
  rw [upTo_hit s hlt hb, cellsOf_snoc, List.length_append]
  exact hown

end Go.Proofs.YtcppphjdgpkhcaaDoor

