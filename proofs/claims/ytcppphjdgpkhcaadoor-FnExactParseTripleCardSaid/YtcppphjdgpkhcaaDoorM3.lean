/- The model's atoms: assignments from a set; all atoms. -/
import Derived.Test.YtcppphjdgpkhcaaDoorM2
import Derived.Test.YtcppphjdgpkhcaaDoorR4
namespace Go.Proofs.YtcppphjdgpkhcaaDoor
open Go.ChangeShapes Go.WideShapes Go.ChangeAt Go.RowKit Go.Shelf
attribute [local go_sem] Oper.semAt_some
set_option maxRecDepth 100000


theorem holds_at {W : World} {B : Nat} {v : Value} {l : List (Fin 9)} (h : Holds W B v l) :
    ∃ a cap, v = .slice a l.length cap ∧ ∀ (j : Nat) x, l[j]? = some x → ∃ g, a = some ⟨g, 0, none⟩ ∧ B ≤ g ∧ g < W.heap.size ∧ W.cell? ⟨g, j, none⟩ = some (.int .i64 (x.val : Int)) := by
  rcases h.2 with ⟨rfl, h0⟩ | ⟨g, cap, cur, rfl, hb, hg, _⟩
  · refine ⟨none, 0, by rw [h0], fun j x hx => ?_⟩
    have : j < l.length := (List.getElem?_eq_some_iff.1 hx).1
    omega
  · refine ⟨some ⟨g, 0, none⟩, cap, rfl, fun j x hx => ⟨g, rfl, hb, (Array.getElem?_eq_some_iff.1 hg).1, ?_⟩⟩
    have hu : (cellsOf l)[j]? = some (.int .i64 (x.val : Int)) := by simp [cellsOf, hx]
    have := World.ownsRow.cells h (g := g) rfl j _ hu
    rwa [plain_add] at this
theorem overL_take {f : Nat → Nat} {l : List (Fin 9)} {k : Nat} {x : Fin 9} (h : l[k]? = some x) : overL f (l.take (k + 1)) = overL f (l.take k) ||| f x.val := by
  have e : l.take (k + 1) = l.take k ++ [x] := by rw [List.take_add_one, h]; rfl
  rw [e, overL_snoc]
theorem mem_at9 {l : List (Fin 9)} {k : Nat} (hk : k < l.length) : ∃ v, l[k]? = some v := ⟨_, List.getElem?_eq_getElem hk⟩


theorem atomL_three {a b c : UInt8} (h : [a, b, c] ∈ tests) : b = 61 ∨ b = 35 ∨ b = 60 := by
  obtain ⟨a', b', c', e, hb⟩ := shape h
  cases e
  exact hb
end Go.Proofs.YtcppphjdgpkhcaaDoor

