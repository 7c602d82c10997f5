/- The model's answers on what is reached. -/
import Derived.Test.YtcppphjdgpkhcaaDoorM5
import Derived.Test.YtcppphjdgpkhcaaDoorR5
namespace Go.Proofs.YtcppphjdgpkhcaaDoor
open Go.ChangeShapes Go.WideShapes Go.ChangeAt Go.RowKit Go.Shelf
attribute [local go_sem] Oper.semAt_some
set_option maxRecDepth 100000


/-- What is asked of a text, a set and an exit. -/
def Asked (t : ByteArray) (b : Bool) (W : World) (e : Ending) (W' : World) : Prop := Below W.heap.size W W' ∧
  ∃ k s ad n cap, e = .returned (.tuple #[.agg #[.int .u8 k, .string s, .slice ad n cap], .bool b]) ∧ ∀ nd, readP t.toList = some nd → NodeIs W' W.heap.size W'.heap.size nd k s ad n cap
theorem asked_end {W V : World} {k0 k : Int} {s0 s : ByteArray} {ad0 ad : Option Addr} {m0 c0 m cap : Nat} (h : Var V W.heap.size k0 s0 ad0 m0 c0) (hA : Below W.heap.size W V) :
    Var (set3 V W.heap.size k s ad m cap).drew W.heap.size k s ad m cap ∧ Below W.heap.size W (set3 V W.heap.size k s ad m cap).drew :=
  ⟨set3_var h k s ad m cap, (((hA.setCell (p := ⟨W.heap.size, 0, none⟩) (Nat.le_refl _) _).setCell (p := ⟨W.heap.size, 1, none⟩) (Nat.le_refl _) _).setCell (p := ⟨W.heap.size, 2, none⟩) (Nat.le_refl _) _).drew⟩
theorem asked_node {W V : World} {k : Int} {s : ByteArray} {ad : Option Addr} {m cap hi : Nat} {nd : Node} (h : NodeIs V (W.heap.size + 1) hi nd k s ad m cap) (hhi : hi ≤ V.heap.size) :
    NodeIs (set3 V W.heap.size k s ad m cap).drew W.heap.size (set3 V W.heap.size k s ad m cap).drew.heap.size nd k s ad m cap := by
  have h1 := h.same (W' := set3 V W.heap.size k s ad m cap) (fun b hb1 _ => set3_block (g := W.heap.size) (U := V) (by omega) k s ad m cap)
  have h2 : (set3 V W.heap.size k s ad m cap).heap.size = V.heap.size := set3_size V W.heap.size k s ad m cap
  exact (h1.wide (lo' := W.heap.size) (hi' := (set3 V W.heap.size k s ad m cap).heap.size) (by omega) (by omega)).drew
theorem Var.kept {V W : World} {g : Nat} {k : Int} {s : ByteArray} {ad : Option Addr} {m cap : Nat} (hb : Below V.heap.size V W) (h : Var V g k s ad m cap) : Var W g k s ad m cap := (hb.block g (Array.getElem?_eq_some_iff.1 h).1).trans h


theorem cell_other3 {V : World} {g n o : Nat} (hne : g ≠ n) (x y z : Value) : (((V.setCell ⟨n, 0, none⟩ x).setCell ⟨n, 1, none⟩ y).setCell ⟨n, 2, none⟩ z).cell? ⟨g, o, none⟩ = V.cell? ⟨g, o, none⟩ :=
  ((World.cell?_of_block (heap_setCell_other _ _ g _ hne)).trans (World.cell?_of_block (heap_setCell_other _ _ g _ hne))).trans (World.cell?_of_block (heap_setCell_other _ _ g _ hne))

end Go.Proofs.YtcppphjdgpkhcaaDoor

