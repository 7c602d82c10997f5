/- The program's running: a program from a set. -/
import Derived.Test.YtfoifcbpognjaaaDoorR3
namespace Go.Proofs.YtfoifcbpognjaaaDoor
open Go.ChangeShapes Go.WideShapes Go.ChangeAt Go.RowKit Go.Shelf
attribute [local go_sem] Oper.semAt_some
set_option maxRecDepth 100000

theorem run_small {nd : Node} (h : nd.ok) : ∀ m, m < 512 → Small (runR nd m) := run_lt nd h
theorem run_seq (p q : Node) (m : Nat) : runR (.pair 59 p q) m = ((runR q (runR p m).1).1, (runR p m).2 ||| (runR q (runR p m).1).2) := by rw [runR]; rfl
theorem run_choice (p q : Node) (m : Nat) : runR (.pair 124 p q) m = both2 (runR p m) (runR q m) := by rw [runR]; rfl
theorem run_loop (p : Node) (m : Nat) : runR (.loop p) m = iter (stepL (runR p)) 18 (m, 0) := by rw [runR]
/-- The answer of a program: its outcome in full. -/
def RunsTo (w : World) (x : Nat × Nat) (e : Ending) (w' : World) : Prop := e = .returned (.agg #[.int .i64 (x.1 : Int), .int .i64 (x.2 : Int)]) ∧ Below w.heap.size w w'




theorem three_then {V W : World} {a b c : Addr} {u v x : Value} {G : Prop} (hb : Below V.heap.size V W) (h : V.cell? a = some u) (k : V.cell? b = some v) (l : V.cell? c = some x) (f : W.cell? a = some u → W.cell? b = some v → W.cell? c = some x → G) : G := f (keepCell hb h) (keepCell hb k) (keepCell hb l)

theorem three_set {W : World} {a b c : Addr} {u v x p q : Value} {g : Nat} (ha : a.block ≠ g) (hb : b.block ≠ g) (hc : c.block ≠ g) (h : W.cell? a = some u) (k : W.cell? b = some v) (l : W.cell? c = some x) :
    ((W.setCell ⟨g, 0, none⟩ p).setCell ⟨g, 1, none⟩ q).cell? a = some u ∧ ((W.setCell ⟨g, 0, none⟩ p).setCell ⟨g, 1, none⟩ q).cell? b = some v ∧ ((W.setCell ⟨g, 0, none⟩ p).setCell ⟨g, 1, none⟩ q).cell? c = some x :=
  ⟨(two_set ha hb h k).1, (two_set ha hb h k).2, (two_set ha hc h l).2⟩



end Go.Proofs.YtfoifcbpognjaaaDoor

