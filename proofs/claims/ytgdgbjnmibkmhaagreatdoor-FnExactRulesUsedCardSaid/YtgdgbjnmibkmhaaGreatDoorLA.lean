/- Triples and lines that lie in slices: where they stand. -/
import Derived.Test.YtgdgbjnmibkmhaaGreatDoorTD
import Derived.Test.YtgdgbjnmibkmhaaGreatDoorGI
namespace Go.Proofs.YtgdgbjnmibkmhaaGreatDoor
open Go.ChangeShapes Go.WideShapes Go.ChangeAt Go.RowKit
set_option maxRecDepth 100000

/-! ### Where they stand -/
def IntsAt (W : World) (v : Value) (zs : List Int) : Prop := ∃ a cap, v = .slice a zs.length cap ∧ zs.length ≤ cap ∧ cap ≤ maxLen ∧ (zs = [] ∨ ∃ b off, a = some ⟨b, off, none⟩ ∧ ∀ (j : Nat) z, zs[j]? = some z → W.cell? ⟨b, off + j, none⟩ = some (.int .i64 z))
def TripCells (W : World) (b o : Nat) (T : Trip) : Prop := W.cell? ⟨b, o, none⟩ = some (.int .i64 T.b) ∧ W.cell? ⟨b, o + 1, none⟩ = some (.string T.p) ∧ W.cell? ⟨b, o + 2, none⟩ = some (.int .i64 T.x) ∧ W.cell? ⟨b, o + 3, none⟩ = some (.int .i64 T.r)
def TripsAt (W : World) (v : Value) (ts : List Trip) : Prop := ∃ a cap, v = .slice a ts.length cap ∧ ts.length ≤ cap ∧ cap ≤ maxLen ∧ (ts = [] ∨ ∃ b off, a = some ⟨b, off, none⟩ ∧ ∀ (j : Nat) T, ts[j]? = some T → TripCells W b (off + j * 4) T)
/-- A line: its triple, its rule, its references. -/
structure LineD where
  t : Trip
  rule : ByteArray
  refs : List Int
def LineCells (W : World) (b o : Nat) (l : LineD) : Prop := TripCells W b o l.t ∧ W.cell? ⟨b, o + 4, none⟩ = some (.string l.rule) ∧ ∃ v, W.cell? ⟨b, o + 5, none⟩ = some v ∧ IntsAt W v l.refs
def LinesAt (W : World) (v : Value) (ls : List LineD) : Prop := ∃ a cap, v = .slice a ls.length cap ∧ ls.length ≤ cap ∧ cap ≤ maxLen ∧ (ls = [] ∨ ∃ b off, a = some ⟨b, off, none⟩ ∧ ∀ (j : Nat) l, ls[j]? = some l → LineCells W b (off + j * 6) l)
theorem cell_ltO {W : World} {b o : Nat} {v : Value} (h : W.cell? ⟨b, o, none⟩ = some v) : b < W.heap.size := by
  unfold World.cell? at h
  cases hh : W.heap[b]? with
  | none => rw [hh] at h; simp at h
  | some o => exact (Array.getElem?_eq_some_iff.1 hh).1
theorem cell_below {W W' : World} (hb : Below W.heap.size W W') {b o : Nat} {v : Value} (h : W.cell? ⟨b, o, none⟩ = some v) : W'.cell? ⟨b, o, none⟩ = some v := (hb.cell (p := ⟨b, o, none⟩) (cell_ltO h)).trans h
theorem IntsAt.below {W W' : World} {v : Value} {zs : List Int} (h : IntsAt W v zs) (hb : Below W.heap.size W W') : IntsAt W' v zs := by
  obtain ⟨a, cap, e, h1, h2, h3⟩ := h
  refine ⟨a, cap, e, h1, h2, ?_⟩
  rcases h3 with h3 | ⟨b, off, e, h3⟩
  · exact .inl h3
  · exact .inr ⟨b, off, e, fun j z hz => cell_below hb (h3 j z hz)⟩
theorem TripCells.below {W W' : World} {b o : Nat} {T : Trip} (h : TripCells W b o T) (hb : Below W.heap.size W W') : TripCells W' b o T :=
  ⟨cell_below hb h.1, cell_below hb h.2.1, cell_below hb h.2.2.1, cell_below hb h.2.2.2⟩
theorem TripsAt.below {W W' : World} {v : Value} {ts : List Trip} (h : TripsAt W v ts) (hb : Below W.heap.size W W') : TripsAt W' v ts := by
  obtain ⟨a, cap, e, h1, h2, h3⟩ := h
  refine ⟨a, cap, e, h1, h2, ?_⟩
  rcases h3 with h3 | ⟨b, off, e, h3⟩
  · exact .inl h3
  · exact .inr ⟨b, off, e, fun j z hz => (h3 j z hz).below hb⟩
theorem LineCells.below {W W' : World} {b o : Nat} {l : LineD} (h : LineCells W b o l) (hb : Below W.heap.size W W') : LineCells W' b o l := by
  obtain ⟨h1, h2, v, h3, h4⟩ := h
  exact ⟨h1.below hb, cell_below hb h2, v, cell_below hb h3, h4.below hb⟩
theorem LinesAt.below {W W' : World} {v : Value} {ls : List LineD} (h : LinesAt W v ls) (hb : Below W.heap.size W W') : LinesAt W' v ls := by
  obtain ⟨a, cap, e, h1, h2, h3⟩ := h
  refine ⟨a, cap, e, h1, h2, ?_⟩
  rcases h3 with h3 | ⟨b, off, e, h3⟩
  · exact .inl h3
  · exact .inr ⟨b, off, e, fun j z hz => (h3 j z hz).below hb⟩

end Go.Proofs.YtgdgbjnmibkmhaaGreatDoor

