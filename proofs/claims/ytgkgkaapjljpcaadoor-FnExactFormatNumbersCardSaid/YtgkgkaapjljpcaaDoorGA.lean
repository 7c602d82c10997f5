/- Lists of texts that a call made: compared, marked and read again by the laws' own helpers. The laws' marks on lists of texts. Two equal lists of texts are told to be the same by the laws' own comparison. -/
import Derived.Test.YtgkgkaapjljpcaaDoorA2
import Derived.Laws.BytesArg
namespace Go.Proofs.YtgkgkaapjljpcaaDoor
open Go.ChangeShapes Go.WideShapes Go.ChangeAt Go.RowKit Go.Shelf

set_option maxRecDepth 100000
/-- A slice of a call's own (blocks from B on) with just these texts. -/
def TRow (W : World) (B : Nat) (v : Value) (ws : List (List UInt8)) : Prop := W.ownsRow B 9 1 v ws.length (texts ws)
theorem TRow.below {W W' : World} {B : Nat} {v : Value} {ws : List (List UInt8)} (h : TRow W B v ws) (hb : Below W.heap.size W W') : TRow W' B v ws := by
  refine World.ownsRow.kept (row := none) h ⟨hb.os, hb.tape, hb.output, hb.size, fun i hi _ => hb.block i hi⟩ ?_
  cases ho : v.ownBlock with
  | none => exact .inl rfl
  | some b => exact .inr (by simp)
theorem TRow.kept {W W' : World} {B : Nat} {v : Value} {ws : List (List UInt8)} {row : Option Nat} (h : TRow W B v ws) (hg : W.grownBy W' row) (hne : v.ownBlock = none ∨ v.ownBlock ≠ row) : TRow W' B v ws := World.ownsRow.kept h hg hne
theorem TRow.cases {W : World} {B : Nat} {v : Value} {ws : List (List UInt8)} (h : TRow W B v ws) : (v = .slice none 0 0 ∧ ws = []) ∨ ∃ g cap, v = .slice (some ⟨g, 0, none⟩) ws.length cap ∧ B ≤ g ∧ g < W.heap.size ∧ ws.length ≤ maxLen := by
  obtain ⟨h1, h2⟩ := h
  rcases h2 with ⟨rfl, h0⟩ | ⟨g, cap, cur, rfl, hb, hg, hn, hm, _⟩
  · exact .inl ⟨rfl, List.length_eq_zero_iff.1 h0⟩
  · exact .inr ⟨g, cap, rfl, hb, (Array.getElem?_eq_some_iff.1 hg).1, Nat.le_trans hn hm⟩
theorem TRow.cell {W : World} {B g cap n : Nat} {ws : List (List UInt8)} (hn : ws.length = n) (h : TRow W B (.slice (some ⟨g, 0, none⟩) n cap) ws) (i : Nat) (hi : i < n) : W.cell? ⟨g, i, none⟩ = some (.string ⟨(ws[i]?.getD []).toArray⟩) := by
  subst hn
  have := World.ownsRow.cellAt h i (by omega)
  rw [this]
  simp [texts, hi]
theorem TRow.frozen {W : World} {B g cap n : Nat} {ws : List (List UInt8)} (hn : ws.length = n) (h : TRow W B (.slice (some ⟨g, 0, none⟩) n cap) ws) (i : Nat) : W.frozen? ⟨g, i, none⟩ = false := by
  subst hn; exact World.ownsRow.frozenAt h i
theorem TRow.stored {W : World} {B g cap : Nat} {ws : List (List UInt8)} {n : Nat} (hn : ws.length = n) (h : TRow W B (.slice (some ⟨g, 0, none⟩) n cap) ws) (i : Nat) (u : List UInt8) :
    TRow (W.setCell ⟨g, i, none⟩ (.string ⟨u.toArray⟩)) B (.slice (some ⟨g, 0, none⟩) n cap) (ws.set i u) ∧ W.grownBy (W.setCell ⟨g, i, none⟩ (.string ⟨u.toArray⟩)) (some g) := by
  subst hn
  have := World.ownsRow.stored h i (.string ⟨u.toArray⟩)
  refine ⟨?_, this.2⟩
  unfold TRow texts
  rw [List.length_set, List.map_set]
  exact this.1
theorem TRow.apart {W W1 : World} {B : Nat} {v v1 : Value} {ws ws1 : List (List UInt8)} (h : TRow W B v ws) (h1 : TRow W1 W.heap.size v1 ws1) : v.ownBlock = none ∨ v.ownBlock ≠ v1.ownBlock := by
  rcases h.cases with ⟨rfl, _⟩ | ⟨g, cap, rfl, _, hlt, _⟩
  · exact .inl rfl
  · rcases h1.cases with ⟨rfl, _⟩ | ⟨g', cap', rfl, hge, _, _⟩
    · exact .inr (by simp [Value.ownBlock])
    · exact .inr (by simp [Value.ownBlock]; omega)
theorem TRow.belowOf {W W' : World} {B : Nat} {v : Value} {ws : List (List UInt8)} (h : TRow W B v ws) (hg : W.grownBy W' v.ownBlock) (hB : B ≤ W.heap.size) {A : World} (hA : Below B A W) : Below B A W' :=
  hA.grown hg hB (fun k e => by
    rcases h.cases with ⟨rfl, _⟩ | ⟨g, cap, rfl, hb, _, _⟩
    · simp [Value.ownBlock] at e
    · simp [Value.ownBlock] at e; omega)




/-- The text of a mark below 100. -/
def markT (k : Nat) : List UInt8 := if k = 0 then [109, 48] else if k < 10 then [109, UInt8.ofNat (48 + k)] else [109, UInt8.ofNat (48 + k / 10), UInt8.ofNat (48 + k % 10)]
end Go.Proofs.YtgkgkaapjljpcaaDoor

namespace Go.Proofs.YtgkgkaapjljpcaaDoor
open Go.ChangeShapes Go.WideShapes Go.ChangeAt Go.RowKit Go.Shelf
set_option maxRecDepth 100000
attribute [local go_sem] Oper.semAt_some

theorem conv_oneG (X : World) (p : Int) (g : Nat) (hg : g = X.heap.size) :
    (convert 22 9 (.slice (some ⟨g, 0, none⟩) 1 1)).run Tryd.prog (X.alloc (.cells #[.int .u8 p] 5)) = .ok (.string (strOfNums [p])) (X.alloc (.cells #[.int .u8 p] 5)) := by
  subst hg
  refine run_convert_bytes_arg _ 22 5 Tryd.underlying22 Tryd.underlying5 X.heap.size 0 1 1 [p] rfl (fun i hi => ?_) 9 Tryd.underlying9
  match i, hi with
  | 0, _ => simp

/-- The digits of a mark, ahead of what has been written. -/
def markGo : Nat → ByteArray → ByteArray
  | 0, acc => acc
  | m + 1, acc => markGo ((m + 1) / 10) (strOfNums [48 + ((m + 1 : Nat) : Int) % 10] ++ acc)
  decreasing_by omega
theorem markGo_pos {m : Nat} (h : 0 < m) (acc : ByteArray) : markGo m acc = markGo (m / 10) (strOfNums [48 + (m : Int) % 10] ++ acc) := by
  cases m with
  | zero => omega
  | succ m => rw [markGo]
theorem markGo_zero (acc : ByteArray) : markGo 0 acc = acc := by rw [markGo]
def markF (k : Nat) : ByteArray := ⟨#[109]⟩ ++ markGo k ⟨#[]⟩
def markU (k : Nat) : List UInt8 := (markF k).toList
theorem markU_eq (k : Nat) : (⟨(markU k).toArray⟩ : ByteArray) = markF k := (of_list _).symm

/-- A bound on how much is written: l bytes so far, m to come. -/
def Few (m l : Nat) : Prop := m * 10 ^ l ≤ 9000000
theorem Few.len {m l : Nat} (h : Few m l) (hm : 0 < m) : l ≤ 6 := by
  unfold Few at h
  rcases Nat.lt_or_ge 6 l with h1 | h1
  · have h2 : 10 ^ 7 ≤ 10 ^ l := Nat.pow_le_pow_right (by omega) h1
    have h3 : 10 ^ l ≤ m * 10 ^ l := Nat.le_mul_of_pos_left _ hm
    omega
  · exact h1
theorem Few.step {m l : Nat} (h : Few m l) : Few (m / 10) (l + 1) := by
  unfold Few at *
  have h1 : m / 10 * 10 ^ (l + 1) = (m / 10 * 10) * 10 ^ l := by rw [Nat.pow_succ, Nat.mul_assoc, Nat.mul_comm 10 (10 ^ l)]
  rw [h1]
  exact Nat.le_trans (Nat.mul_le_mul_right _ (Nat.div_mul_le_self m 10)) h
theorem one_size (x : Int) (acc : ByteArray) : (strOfNums [x] ++ acc).size = acc.size + 1 := by
  rw [ByteArray.size_append, strOfNums_size]; simp; omega



/-- The marks that are laid: k, k + 1 and so on, in the first i places. -/
def lay (k : Nat) (ws : List (List UInt8)) (i : Nat) : List (List UInt8) := (List.range i).map (fun j => markU (k + j)) ++ ws.drop i
theorem lay_zero (k : Nat) (ws : List (List UInt8)) : lay k ws 0 = ws := by simp [lay]
theorem lay_len (k : Nat) (ws : List (List UInt8)) (i : Nat) (h : i ≤ ws.length) : (lay k ws i).length = ws.length := by simp [lay]; omega
theorem lay_set (k : Nat) (ws : List (List UInt8)) (i : Nat) (h : i < ws.length) : (lay k ws i).set i (markU (k + i)) = lay k ws (i + 1) := by
  unfold lay
  rw [List.set_append_right _ _ (by simp), List.range_succ, List.map_append, List.append_assoc]
  congr 1
  rw [List.length_map, List.length_range, Nat.sub_self]
  cases hd : ws.drop i with
  | nil => have := List.drop_eq_nil_iff.1 hd; omega
  | cons z t =>
    have ht : t = ws.drop (i + 1) := by rw [← List.drop_drop, hd]; rfl
    rw [ht]; rfl
/-- All marks: 1, 2 and so on. -/
def tmarks (n : Nat) : List (List UInt8) := (List.range n).map (fun j => markU (1 + j))
theorem tmarks_len (n : Nat) : (tmarks n).length = n := by simp [tmarks]
theorem lay_full (ws : List (List UInt8)) : lay 1 ws ws.length = tmarks ws.length := by simp [lay, tmarks]


theorem lay_step {W wr : World} {B g cap : Nat} {k : Nat} {ws : List (List UInt8)} {i : Nat} (hi : i < ws.length) (hr : TRow wr B (.slice (some ⟨g, 0, none⟩) ws.length cap) (lay k ws i)) (hg : W.grownBy wr (some g)) :
    TRow (wr.setCell ⟨g, i, none⟩ (.string (markF (k + i)))) B (.slice (some ⟨g, 0, none⟩) ws.length cap) (lay k ws (i + 1)) ∧ W.grownBy (wr.setCell ⟨g, i, none⟩ (.string (markF (k + i)))) (some g) := by
  have h := TRow.stored (lay_len k ws i (by omega)) hr i (markU (k + i))
  rw [lay_set k ws i hi, markU_eq] at h
  exact ⟨h.1, grown_trans hg h.2⟩
theorem grown_of_below {W wr wr' : World} {row : Option Nat} (hg : W.grownBy wr row) (hb : Below wr.heap.size wr wr') : W.grownBy wr' row := grown_trans hg ⟨hb.os, hb.tape, hb.output, hb.size, fun i hi _ => hb.block i hi⟩





end Go.Proofs.YtgkgkaapjljpcaaDoor

namespace Go.Proofs.YtgkgkaapjljpcaaDoor
open Go.ChangeShapes Go.WideShapes Go.ChangeAt Go.RowKit Go.Shelf
attribute [local go_sem] Oper.semAt_some
set_option maxRecDepth 100000



end Go.Proofs.YtgkgkaapjljpcaaDoor

