/- The model's running: a program from a set. -/
import Derived.Test.YtcppphjdgpkhcaaDoorM3
import Derived.Test.YtcppphjdgpkhcaaDoorQC
namespace Go.Proofs.YtcppphjdgpkhcaaDoor
open Go.ChangeShapes Go.WideShapes Go.ChangeAt Go.RowKit Go.Shelf
attribute [local go_sem] Oper.semAt_some
set_option maxRecDepth 100000



theorem Lies.third {W : World} {b : Nat} {x y z : Value} {t : TypeId} (h : Lies W b #[x, y, z] t) : W.cell? ⟨b, 2, none⟩ = some z := by
  unfold Lies at h
  simp [World.cell?, h]
theorem lies_new2 (W : World) (o : Obj) (cs : Array Value) (t : TypeId) : Lies ((W.alloc o).alloc (.cells cs t)) (W.heap.size + 1) cs t := by
  have h := Lies.new (W.alloc o) cs t
  rwa [World.size_alloc] at h


theorem run_pair (k0 : UInt8) (p q : Node) (hk : k0 = 59 ∨ k0 = 124) (m : Nat) : (k0 = 59 ∧ runR (.pair k0 p q) m = ((runR q (runR p m).1).1, (runR p m).2 ||| (runR q (runR p m).1).2)) ∨ (k0 = 124 ∧ runR (.pair k0 p q) m = both2 (runR p m) (runR q m)) := by
  rcases hk with rfl | rfl
  · exact .inl ⟨rfl, run_seq p q m⟩
  · exact .inr ⟨rfl, run_choice p q m⟩


theorem cell_g {V W : World} {a : Addr} {p : Value} (G : V.grownBy W none) (h : V.cell? a = some p) : W.cell? a = some p := (World.cell?_of_block (G.block a.block (lt_cell h) (by simp))).trans h
theorem five_g {V W : World} {a b c d e : Addr} {p q r s t : Value} (G : V.grownBy W none) (h : V.cell? a = some p ∧ V.cell? b = some q ∧ V.cell? c = some r ∧ V.cell? d = some s ∧ V.cell? e = some t) :
    W.cell? a = some p ∧ W.cell? b = some q ∧ W.cell? c = some r ∧ W.cell? d = some s ∧ W.cell? e = some t :=
  ⟨cell_g G h.1, cell_g G h.2.1, cell_g G h.2.2.1, cell_g G h.2.2.2.1, cell_g G h.2.2.2.2⟩
theorem cell_set2 {W : World} {a : Addr} {u p q : Value} {o : Nat} (ha : a.block ≠ o) (h : W.cell? a = some u) : ((W.setCell ⟨o, 0, none⟩ p).setCell ⟨o, 1, none⟩ q).cell? a = some u := (two_set ha ha h h).1
theorem five_set {V W : World} {a b c d e : Addr} {p q r s t x y : Value} (hV : V.cell? a = some p ∧ V.cell? b = some q ∧ V.cell? c = some r ∧ V.cell? d = some s ∧ V.cell? e = some t)
    (h : W.cell? a = some p ∧ W.cell? b = some q ∧ W.cell? c = some r ∧ W.cell? d = some s ∧ W.cell? e = some t) :
    ((W.setCell ⟨V.heap.size, 0, none⟩ x).setCell ⟨V.heap.size, 1, none⟩ y).cell? a = some p ∧ ((W.setCell ⟨V.heap.size, 0, none⟩ x).setCell ⟨V.heap.size, 1, none⟩ y).cell? b = some q ∧
      ((W.setCell ⟨V.heap.size, 0, none⟩ x).setCell ⟨V.heap.size, 1, none⟩ y).cell? c = some r ∧ ((W.setCell ⟨V.heap.size, 0, none⟩ x).setCell ⟨V.heap.size, 1, none⟩ y).cell? d = some s ∧ ((W.setCell ⟨V.heap.size, 0, none⟩ x).setCell ⟨V.heap.size, 1, none⟩ y).cell? e = some t :=
  ⟨cell_set2 (Nat.ne_of_lt (lt_cell hV.1)) h.1, cell_set2 (Nat.ne_of_lt (lt_cell hV.2.1)) h.2.1, cell_set2 (Nat.ne_of_lt (lt_cell hV.2.2.1)) h.2.2.1, cell_set2 (Nat.ne_of_lt (lt_cell hV.2.2.2.1)) h.2.2.2.1, cell_set2 (Nat.ne_of_lt (lt_cell hV.2.2.2.2)) h.2.2.2.2⟩

end Go.Proofs.YtcppphjdgpkhcaaDoor

