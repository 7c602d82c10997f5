/- Chapter 11, the model: the rules on a sequence: small facts (wip/tools/mkZD3.py). -/
import Derived.Test.YtgkgkaapjljpcaaDoorZDs
import Derived.Test.YtgkgkaapjljpcaaDoorZO
namespace Go.Proofs.YtgkgkaapjljpcaaDoor
open Go.ChangeShapes Go.WideShapes Go.ChangeAt Go.RowKit Go.Shelf
attribute [local go_sem] Oper.semAt_some
set_option maxRecDepth 100000

theorem first_byteM (c : UInt8) (r : List UInt8) (h : 0 < (⟨(c :: r).toArray⟩ : ByteArray).size) : (⟨(c :: r).toArray⟩ : ByteArray)[0]'h = c := rfl
/-- Six cells of a block: two programs side by side. -/
def Six (W : World) (g : Nat) (a0 a1 a2 a3 a4 a5 : Value) : Prop := W.heap[g]? = some (.cells #[a0, a1, a2, a3, a4, a5] 52 (0, 0))
theorem Six.lt {W : World} {g : Nat} {a0 a1 a2 a3 a4 a5 : Value} (h : Six W g a0 a1 a2 a3 a4 a5) : g < W.heap.size := (Array.getElem?_eq_some_iff.1 h).1
theorem Six.new (W : World) (a0 a1 a2 a3 a4 a5 : Value) : Six (W.alloc (.cells #[a0, a1, a2, a3, a4, a5] 52)) W.heap.size a0 a1 a2 a3 a4 a5 := heap_alloc_new W _
theorem Six.below {W W' : World} {g : Nat} {a0 a1 a2 a3 a4 a5 : Value} (h : Six W g a0 a1 a2 a3 a4 a5) {n : Nat} (hb : Below n W W') (hn : g < n) : Six W' g a0 a1 a2 a3 a4 a5 := (hb.block g hn).trans h
theorem Six.cells {W : World} {g : Nat} {a0 a1 a2 a3 a4 a5 : Value} (h : Six W g a0 a1 a2 a3 a4 a5) :
    (W.cell? ⟨g, 0, none⟩ = some a0 ∧ W.cell? ⟨g, 1, none⟩ = some a1 ∧ W.cell? ⟨g, 2, none⟩ = some a2) ∧ (W.cell? ⟨g, 3, none⟩ = some a3 ∧ W.cell? ⟨g, 4, none⟩ = some a4 ∧ W.cell? ⟨g, 5, none⟩ = some a5) := by
  refine ⟨⟨?_, ?_, ?_⟩, ?_, ?_, ?_⟩ <;> (rw [cell_of_row _ g _ _ _ (0, 0) h]; rfl)
theorem nd_pair {Z : World} {g : Nat} {p q : Node} {k1 k2 : Int} {s1 s2 : ByteArray} {ad1 ad2 : Option Addr} {n1 n2 cap1 cap2 : Nat} (h : Six Z g (.int .u8 k1) (.string s1) (.slice ad1 n1 cap1) (.int .u8 k2) (.string s2) (.slice ad2 n2 cap2)) (hp : Nd Z p k1 s1 ad1 n1 cap1) (hq : Nd Z q k2 s2 ad2 n2 cap2) (cap : Nat) :
    Nd Z (.pair 59 p q) 59 ⟨#[]⟩ (some ⟨g, 0, none⟩) 2 cap :=
  ⟨rfl, rfl, rfl, g, rfl, Nat.zero_le _, h.lt, k1, s1, ad1, n1, cap1, k2, s2, ad2, n2, cap2, h.cells.1, h.cells.2, hp, hq⟩
theorem Var.lt' {W : World} {g : Nat} {k : Int} {s : ByteArray} {ad : Option Addr} {m cap : Nat} (h : Var W g k s ad m cap) : g < W.heap.size := (Array.getElem?_eq_some_iff.1 h).1
end Go.Proofs.YtgkgkaapjljpcaaDoor

