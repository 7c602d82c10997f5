/- The program's answers on one text: its kind, its size, its loops, its parts. -/
import Derived.Test.YtgkgkaapjljpcaaDoorNB
namespace Go.Proofs.YtgkgkaapjljpcaaDoor
open Go.ChangeShapes Go.WideShapes Go.ChangeAt Go.RowKit Go.Shelf
attribute [local go_sem] Oper.semAt_some
set_option maxRecDepth 100000

theorem size_le_len : ∀ nd : Node, nd.ok → nd.size ≤ nd.text.length
  | .atom a, h => by have := text_pos (.atom a) h; simp [Node.size]; omega
  | .loop p, h => by have := size_le_len p h; simp [Node.size, Node.text]; omega
  | .pair k p q, h => by have := size_le_len p h.2.1; have := size_le_len q h.2.2; simp [Node.size, Node.text]; omega



/-- What a program is made by. -/
def kindN : Node → List UInt8
  | .atom a => a
  | .loop _ => [123]
  | .pair k _ _ => [k]
theorem kindP_some {l : List UInt8} {nd : Node} (h : readP l = some nd) : kindP l = kindN nd := by
  unfold kindP
  rw [h]
  cases nd <;> rfl
theorem pkindN (nd : Node) (hok : nd.ok) (w : World) : Calls Tryd.prog 103 #[nodeV nd] w fun e w' => e = .returned (.string ⟨(kindN nd).toArray⟩) ∧ Below w.heap.size w w' := by
  have := pkind41 nd hok w
  cases nd <;> exact this


/-! ### Its parts -/
theorem own_below {W W' : World} {B n : Nat} {v : Value} {xs : List Value} (h : W.ownsRow B 9 1 v n xs) (hb : Below W.heap.size W W') : W'.ownsRow B 9 1 v n xs :=
  h.kept (below_grown hb none) (by cases h : v.ownBlock <;> simp)





theorem partsP_len (l : List UInt8) : (partsP l).length ≤ 2 := by
  unfold partsP
  split <;> simp
end Go.Proofs.YtgkgkaapjljpcaaDoor

