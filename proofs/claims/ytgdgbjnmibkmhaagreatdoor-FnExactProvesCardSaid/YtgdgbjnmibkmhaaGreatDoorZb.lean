/- Triples and lines that lie in slices: where they stand. Lists of integers that a call made: compared, marked and read again by the laws' own helpers. Chapter 6, the laws' own helpers: lists of numbers, lines and triples turned into the program's. Chapter 6, the laws' own helpers on one line: its size, its copy, two of them compared. Chapter 6, the laws' own helpers on lists of lines: their size, their copy, two of them compared. Chapter 6, the laws' own helpers: a list of lines copied, two of them compared. Chapter 6, the laws' own helpers on lists of triples: their size, their copy, two of them compared. -/
import Derived.Test.YtgdgbjnmibkmhaaGreatDoorTD
import Derived.Test.YtgdgbjnmibkmhaaGreatDoorCutS
import Derived.Test.YtgdgbjnmibkmhaaGreatDoorGA
import Derived.Test.YtgdgbjnmibkmhaaGreatDoorTW0
namespace Go.Proofs.YtgdgbjnmibkmhaaGreatDoor
open Go.ChangeShapes Go.WideShapes Go.ChangeAt Go.RowKit
set_option maxRecDepth 100000

/-! ### Where they stand -/
def IntsAt (W : World) (v : Value) (zs : List Int) : Prop := ∃ a cap, v = .slice a zs.length cap ∧ zs.length ≤ cap ∧ cap ≤ maxLen ∧ (zs = [] ∨ ∃ b off, a = some ⟨b, off, none⟩ ∧ ∀ (j : Nat) z, zs[j]? = some z → W.cell? ⟨b, off + j, none⟩ = some (.int .i64 z))
def TripCells (W : World) (b o : Nat) (T : Trip) : Prop := W.cell? ⟨b, o, none⟩ = some (.int .i64 T.b) ∧ W.cell? ⟨b, o + 1, none⟩ = some (.string T.p) ∧ W.cell? ⟨b, o + 2, none⟩ = some (.int .i64 T.x) ∧ W.cell? ⟨b, o + 3, none⟩ = some (.int .i64 T.r)
def TripsAt (W : World) (v : Value) (ts : List Trip) : Prop := ∃ a cap, v = .slice a ts.length cap ∧ ts.length ≤ cap ∧ cap ≤ maxLen ∧ (ts = [] ∨ ∃ b off, a = some ⟨b, off, none⟩ ∧ ∀ (j : Nat) T, ts[j]? = some T → TripCells W b (off + j * 4) T)
/-- A line: its triple, its rule, its references. -/
structure LineD where
  t : Trip
  rule : ByteArray
  refs : List Int
def LineCells (W : World) (b o : Nat) (l : LineD) : Prop := TripCells W b o l.t ∧ W.cell? ⟨b, o + 4, none⟩ = some (.string l.rule) ∧ ∃ v, W.cell? ⟨b, o + 5, none⟩ = some v ∧ IntsAt W v l.refs
def LinesAt (W : World) (v : Value) (ls : List LineD) : Prop := ∃ a cap, v = .slice a ls.length cap ∧ ls.length ≤ cap ∧ cap ≤ maxLen ∧ (ls = [] ∨ ∃ b off, a = some ⟨b, off, none⟩ ∧ ∀ (j : Nat) l, ls[j]? = some l → LineCells W b (off + j * 6) l)
theorem cell_ltO {W : World} {b o : Nat} {v : Value} (h : W.cell? ⟨b, o, none⟩ = some v) : b < W.heap.size := by
  unfold World.cell? at h
  cases hh : W.heap[b]? with
  | none => rw [hh] at h; simp at h
  | some o => exact (Array.getElem?_eq_some_iff.1 hh).1
theorem cell_below {W W' : World} (hb : Below W.heap.size W W') {b o : Nat} {v : Value} (h : W.cell? ⟨b, o, none⟩ = some v) : W'.cell? ⟨b, o, none⟩ = some v := (hb.cell (p := ⟨b, o, none⟩) (cell_ltO h)).trans h
theorem IntsAt.below {W W' : World} {v : Value} {zs : List Int} (h : IntsAt W v zs) (hb : Below W.heap.size W W') : IntsAt W' v zs := by
  obtain ⟨a, cap, e, h1, h2, h3⟩ := h
  refine ⟨a, cap, e, h1, h2, ?_⟩
  rcases h3 with h3 | ⟨b, off, e, h3⟩
  · exact .inl h3
  · exact .inr ⟨b, off, e, fun j z hz => cell_below hb (h3 j z hz)⟩
theorem TripCells.below {W W' : World} {b o : Nat} {T : Trip} (h : TripCells W b o T) (hb : Below W.heap.size W W') : TripCells W' b o T :=
  ⟨cell_below hb h.1, cell_below hb h.2.1, cell_below hb h.2.2.1, cell_below hb h.2.2.2⟩
theorem TripsAt.below {W W' : World} {v : Value} {ts : List Trip} (h : TripsAt W v ts) (hb : Below W.heap.size W W') : TripsAt W' v ts := by
  obtain ⟨a, cap, e, h1, h2, h3⟩ := h
  refine ⟨a, cap, e, h1, h2, ?_⟩
  rcases h3 with h3 | ⟨b, off, e, h3⟩
  · exact .inl h3
  · exact .inr ⟨b, off, e, fun j z hz => (h3 j z hz).below hb⟩
theorem LineCells.below {W W' : World} {b o : Nat} {l : LineD} (h : LineCells W b o l) (hb : Below W.heap.size W W') : LineCells W' b o l := by
  obtain ⟨h1, h2, v, h3, h4⟩ := h
  exact ⟨h1.below hb, cell_below hb h2, v, cell_below hb h3, h4.below hb⟩
theorem LinesAt.below {W W' : World} {v : Value} {ls : List LineD} (h : LinesAt W v ls) (hb : Below W.heap.size W W') : LinesAt W' v ls := by
  obtain ⟨a, cap, e, h1, h2, h3⟩ := h
  refine ⟨a, cap, e, h1, h2, ?_⟩
  rcases h3 with h3 | ⟨b, off, e, h3⟩
  · exact .inl h3
  · exact .inr ⟨b, off, e, fun j z hz => (h3 j z hz).below hb⟩

end Go.Proofs.YtgdgbjnmibkmhaaGreatDoor

namespace Go.Proofs.YtgdgbjnmibkmhaaGreatDoor
open Go.ChangeShapes Go.WideShapes Go.ChangeAt Go.RowKit

set_option maxRecDepth 100000
/-- A slice of a call's own (blocks from B on) with just these integers. -/
def IRow (W : World) (B : Nat) (v : Value) (zs : List Int) : Prop := W.ownsRow B 3 1 v zs.length (zs.map (Value.int .i64))

theorem IRow.below {W W' : World} {B : Nat} {v : Value} {zs : List Int} (h : IRow W B v zs) (hb : Below W.heap.size W W') : IRow W' B v zs := by
  obtain ⟨h1, h2⟩ := h
  refine ⟨h1, ?_⟩
  rcases h2 with h2 | ⟨g, cap, cur, a, b, c, d⟩
  · exact .inl h2
  · exact .inr ⟨g, cap, cur, a, b, by rw [hb.block g (Array.getElem?_eq_some_iff.1 c).1]; exact c, d⟩
theorem IRow.mono {W : World} {B B' : Nat} {v : Value} {zs : List Int} (h : IRow W B v zs) (hB : B' ≤ B) : IRow W B' v zs := by
  obtain ⟨h1, h2⟩ := h
  refine ⟨h1, ?_⟩
  rcases h2 with h2 | ⟨g, cap, cur, a, b, c⟩
  · exact .inl h2
  · exact .inr ⟨g, cap, cur, a, Nat.le_trans hB b, c⟩
/-- Nil, or at the head of a block. -/
theorem IRow.cases {W : World} {B : Nat} {v : Value} {zs : List Int} (h : IRow W B v zs) : (v = .slice none 0 0 ∧ zs = []) ∨ ∃ g cap, v = .slice (some ⟨g, 0, none⟩) zs.length cap ∧ B ≤ g ∧ g < W.heap.size ∧ zs.length ≤ maxLen := by
  obtain ⟨h1, h2⟩ := h
  rcases h2 with ⟨rfl, h0⟩ | ⟨g, cap, cur, rfl, hb, hg, hn, hm, _⟩
  · exact .inl ⟨rfl, List.length_eq_zero_iff.1 h0⟩
  · exact .inr ⟨g, cap, rfl, hb, (Array.getElem?_eq_some_iff.1 hg).1, Nat.le_trans hn hm⟩
theorem IRow.cell {W : World} {B g cap : Nat} {zs : List Int} (h : IRow W B (.slice (some ⟨g, 0, none⟩) zs.length cap) zs) (i : Nat) (hi : i < zs.length) : W.cell? ⟨g, i, none⟩ = some (.int .i64 (zs[i]?.getD 0)) := by
  have := World.ownsRow.cellAt h i (by omega)
  rw [this]
  simp [hi]

theorem ieq29nil (W : World) (a b : Option Addr) (c d : Nat) :
    Calls Tryz.prog 28 #[.slice a 0 c, .slice b 0 d] W fun e w' => e = .returned (.bool true) ∧ Below W.heap.size W w' := by
  go_enter Tryz.func28, Tryz.ntmps28
  go_wp2
  go_loop [5] (fun i => i = .int .i64 0) (fun _ => 0)
  case atStart => rfl
  case round =>
    obtain rfl := hrel
    go_wp2
    go_ret
    exact ⟨rfl, Below.refl _ _⟩

set_option maxHeartbeats 1000000 in
theorem ieq29row (W : World) (g h c d : Nat) (zs : List Int) (hm : zs.length ≤ maxLen)
    (hx : ∀ i, i < zs.length → W.cell? ⟨g, i, none⟩ = some (.int .i64 (zs[i]?.getD 0))) (hy : ∀ i, i < zs.length → W.cell? ⟨h, i, none⟩ = some (.int .i64 (zs[i]?.getD 0))) :
    Calls Tryz.prog 28 #[.slice (some ⟨g, 0, none⟩) zs.length c, .slice (some ⟨h, 0, none⟩) zs.length d] W fun e w' => e = .returned (.bool true) ∧ Below W.heap.size W w' := by
  unfold maxLen at hm
  have HX := Lib.hid hx
  have HY := Lib.hid hy
  clear hx hy
  go_enter Tryz.func28, Tryz.ntmps28
  go_wp2
  go_loopw [5] (fun i wr => ∃ k : Nat, k ≤ zs.length ∧ i = .int .i64 k ∧ Below W.heap.size W wr ∧ ∀ a, wr.cell? a = W.cell? a) (fun i _ => zs.length - (intOf i).toNat)
  case atStart => exact ⟨0, by omega, rfl, Below.refl _ _, fun _ => rfl⟩
  case round =>
    obtain ⟨k, hk, rfl, hB, hs⟩ := hrel
    by_cases hlt : k < zs.length
    · have c1 : wr.cell? ⟨g, k, none⟩ = some (.int .i64 (zs[k]?.getD 0)) := (hs _).trans (HX.out k hlt)
      have c2 : wr.cell? ⟨h, k, none⟩ = some (.int .i64 (zs[k]?.getD 0)) := (hs _).trans (HY.out k hlt)
      have HS := Lib.hid hs
      clear hs
      go_wp2
      go_quiet (fail)
      go_wp2
      go_roundw
      case rel => exact ⟨k + 1, by omega, by go_num, below_drewN hB _, fun a => HS.out a⟩
      case measure => simp [intOf]; omega
    · have e : k = zs.length := by omega
      clear hlt hk
      subst e
      go_wp2
      go_ret
      exact ⟨rfl, hB⟩

theorem ieq29 {W : World} {B1 B2 : Nat} {v1 v2 : Value} {zs : List Int} (h1 : IRow W B1 v1 zs) (h2 : IRow W B2 v2 zs) :
    Calls Tryz.prog 28 #[v1, v2] W fun e w' => e = .returned (.bool true) ∧ Below W.heap.size W w' := by
  rcases h1.cases with ⟨rfl, h0⟩ | ⟨g, cap, rfl, _, _, hm⟩
  · subst h0
    rcases h2.cases with ⟨rfl, _⟩ | ⟨g', cap', rfl, _, _, hm⟩
    · exact ieq29nil W _ _ _ _
    · exact ieq29nil W _ _ _ _
  · rcases h2.cases with ⟨rfl, h0⟩ | ⟨g', cap', rfl, _, _, _⟩
    · subst h0
      exact ieq29nil W _ _ _ _
    · exact ieq29row W g g' cap cap' zs hm h1.cell h2.cell

/-- The imarks that are laid: k, k + 1 and so on, in the first i places. -/
def imk (k : Int) (zs : List Int) (i : Nat) : List Int := (List.range i).map (fun j : Nat => k + (j : Int)) ++ zs.drop i
theorem imk_zero (k : Int) (zs : List Int) : imk k zs 0 = zs := by simp [imk]
theorem imk_len (k : Int) (zs : List Int) (i : Nat) (h : i ≤ zs.length) : (imk k zs i).length = zs.length := by simp [imk]; omega
theorem imk_set (k : Int) (zs : List Int) (i : Nat) (h : i < zs.length) : (imk k zs i).set i (k + (i : Int)) = imk k zs (i + 1) := by
  unfold imk
  rw [List.set_append_right _ _ (by simp), List.range_succ, List.map_append, List.append_assoc]
  congr 1
  rw [List.length_map, List.length_range, Nat.sub_self]
  cases hd : zs.drop i with
  | nil => have := List.drop_eq_nil_iff.1 hd; omega
  | cons z t =>
    have ht : t = zs.drop (i + 1) := by rw [← List.drop_drop, hd]; rfl
    rw [ht]; rfl
theorem imk_full (k : Int) (zs : List Int) : imk k zs zs.length = (List.range zs.length).map (fun j : Nat => k + (j : Int)) := by simp [imk]

theorem imk30nil (W : World) (a : Option Addr) (c : Nat) (k : Int) :
    Calls Tryz.prog 30 #[.slice a 0 c, .int .i64 k] W fun e w' => e = .returned (.int .i64 k) ∧ W = w' := by
  go_enter Tryz.func30, Tryz.ntmps30
  go_wp2
  go_loop [1, 5] (fun q i => i = .int .i64 0 ∧ q = .int .i64 k) (fun _ _ => 0)
  case atStart => exact ⟨rfl, rfl⟩
  case round =>
    obtain ⟨rfl, rfl⟩ := hrel
    go_wp2
    go_ret
    exact ⟨rfl, rfl⟩

theorem IRow.stored {W : World} {B g cap : Nat} {zs : List Int} {n : Nat} (hn : zs.length = n) (h : IRow W B (.slice (some ⟨g, 0, none⟩) n cap) zs) (i : Nat) (u : Int) :
    IRow (W.setCell ⟨g, i, none⟩ (.int .i64 u)) B (.slice (some ⟨g, 0, none⟩) n cap) (zs.set i u) ∧ W.grownBy (W.setCell ⟨g, i, none⟩ (.int .i64 u)) (some g) := by
  subst hn
  have := World.ownsRow.stored h i (.int .i64 u)
  refine ⟨?_, this.2⟩
  unfold IRow
  rw [List.length_set, List.map_set]
  exact this.1
theorem IRow.cellN {W : World} {B g cap n : Nat} {zs : List Int} (hn : zs.length = n) (h : IRow W B (.slice (some ⟨g, 0, none⟩) n cap) zs) (i : Nat) (hi : i < n) : W.cell? ⟨g, i, none⟩ = some (.int .i64 (zs[i]?.getD 0)) := by
  subst hn; exact h.cell i hi
theorem IRow.frozen {W : World} {B g cap n : Nat} {zs : List Int} (hn : zs.length = n) (h : IRow W B (.slice (some ⟨g, 0, none⟩) n cap) zs) (i : Nat) : W.frozen? ⟨g, i, none⟩ = false := by
  subst hn; exact World.ownsRow.frozenAt h i

theorem igrown_refl (W : World) (row : Option Nat) : W.grownBy W row := ⟨rfl, rfl, rfl, Nat.le_refl _, fun _ _ _ => rfl⟩
theorem igrown_trans {A B C : World} {row : Option Nat} (h : A.grownBy B row) (k : B.grownBy C row) : A.grownBy C row :=
  ⟨k.os.trans h.os, k.tape.trans h.tape, k.output.trans h.output, Nat.le_trans h.size k.size, fun i hi hr => (k.block i (Nat.lt_of_lt_of_le hi h.size) hr).trans (h.block i hi hr)⟩

theorem imk_step {W wr : World} {B g cap : Nat} {k : Int} {zs : List Int} {i : Nat} (hi : i < zs.length) (hr : IRow wr B (.slice (some ⟨g, 0, none⟩) zs.length cap) (imk k zs i)) (hg : W.grownBy wr (some g)) :
    IRow (wr.setCell ⟨g, i, none⟩ (.int .i64 (k + (i : Int)))) B (.slice (some ⟨g, 0, none⟩) zs.length cap) (imk k zs (i + 1)) ∧ W.grownBy (wr.setCell ⟨g, i, none⟩ (.int .i64 (k + (i : Int)))) (some g) := by
  have h := IRow.stored (imk_len k zs i (by omega)) hr i (k + (i : Int))
  rw [imk_set k zs i hi] at h
  exact ⟨h.1, igrown_trans hg h.2⟩

set_option maxHeartbeats 1000000 in
theorem imk30row (W : World) (B g c : Nat) (zs : List Int) (k : Int) (h0 : 0 ≤ k) (hk : k ≤ 4000000000) (hm : zs.length ≤ 1048576)
    (hr : IRow W B (.slice (some ⟨g, 0, none⟩) zs.length c) zs) :
    Calls Tryz.prog 30 #[.slice (some ⟨g, 0, none⟩) zs.length c, .int .i64 k] W fun e w' => e = .returned (.int .i64 (k + (zs.length : Int))) ∧ IRow w' B (.slice (some ⟨g, 0, none⟩) zs.length c) (imk k zs zs.length) ∧ W.grownBy w' (some g) := by
  have hm1 : (zs.length : Int) ≤ 1048576 := by omega
  go_enter Tryz.func30, Tryz.ntmps30
  go_wp2
  go_loopw [1, 5] (fun q i wr => ∃ j : Nat, j ≤ zs.length ∧ i = .int .i64 j ∧ q = .int .i64 (k + (j : Int)) ∧ IRow wr B (.slice (some ⟨g, 0, none⟩) zs.length c) (imk k zs j) ∧ W.grownBy wr (some g)) (fun _ i _ => zs.length - (intOf i).toNat)
  case atStart => exact ⟨0, by omega, rfl, by simp, by rw [imk_zero]; exact hr, igrown_refl _ _⟩
  case round =>
    obtain ⟨j, hj, rfl, rfl, hR, hG⟩ := hrel
    by_cases hlt : j < zs.length
    · have c1 := IRow.cellN (imk_len k zs j hj) hR j hlt
      have c2 := IRow.frozen (imk_len k zs j hj) hR j
      have S := imk_step hlt hR hG
      go_wp2
      go_roundw
      case rel => exact ⟨j + 1, by omega, by go_num, by go_num, S.1, S.2⟩
      case measure => simp [intOf]; omega
    · have e : j = zs.length := by omega
      clear hlt hj
      subst e
      go_wp2
      go_ret
      exact ⟨rfl, hR, hG⟩

theorem iheld31nil (W : World) (a : Option Addr) (c : Nat) (k : Int) :
    Calls Tryz.prog 31 #[.slice a 0 c, .int .i64 k] W fun e w' => e = .returned (.int .i64 k) ∧ W = w' := by
  go_enter Tryz.func31, Tryz.ntmps31
  go_wp2
  go_loop [1, 5] (fun q i => i = .int .i64 0 ∧ q = .int .i64 k) (fun _ _ => 0)
  case atStart => exact ⟨rfl, rfl⟩
  case round =>
    obtain ⟨rfl, rfl⟩ := hrel
    go_wp2
    go_ret
    exact ⟨rfl, rfl⟩

set_option maxHeartbeats 1000000 in
theorem iheld31row (W : World) (g c n : Nat) (k : Int) (h0 : 0 ≤ k) (hk : k ≤ 4000000000) (hm : n ≤ 1048576)
    (hx : ∀ i, i < n → W.cell? ⟨g, i, none⟩ = some (.int .i64 (k + (i : Int)))) :
    Calls Tryz.prog 31 #[.slice (some ⟨g, 0, none⟩) n c, .int .i64 k] W fun e w' => e = .returned (.int .i64 (k + (n : Int))) ∧ W = w' := by
  have HX := Lib.hid hx
  clear hx
  have hm1 : (n : Int) ≤ 1048576 := by omega
  go_enter Tryz.func31, Tryz.ntmps31
  go_wp2
  go_loop [1, 5] (fun q i => ∃ j : Nat, j ≤ n ∧ i = .int .i64 j ∧ q = .int .i64 (k + (j : Int))) (fun _ i => n - (intOf i).toNat)
  case atStart => exact ⟨0, by omega, rfl, by simp⟩
  case round =>
    obtain ⟨j, hj, rfl, rfl⟩ := hrel
    by_cases hlt : j < n
    · have c1 := HX.out j hlt
      go_wp2
      go_round
      case rel => exact ⟨j + 1, by omega, by go_num, by go_num⟩
      case measure => simp [intOf]; omega
    · have e : j = n := by omega
      clear hlt hj
      subst e
      go_wp2
      go_ret
      exact ⟨rfl, rfl⟩

/-- The imarks: 1, 2 and so on. -/
def imarks (n : Nat) : List Int := (List.range n).map (fun j : Nat => 1 + (j : Int))
theorem imarks_len (n : Nat) : (imarks n).length = n := by simp [imarks]

theorem imk30 {W : World} {B : Nat} {v : Value} {zs : List Int} (hr : IRow W B v zs) (hm : zs.length ≤ 1048576) :
    Calls Tryz.prog 30 #[v, .int .i64 1] W fun e w' => e = .returned (.int .i64 (1 + (zs.length : Int))) ∧ IRow w' B v (imarks zs.length) ∧ W.grownBy w' v.ownBlock := by
  have hr0 := hr
  rcases hr.cases with ⟨rfl, rfl⟩ | ⟨g, cap, rfl, hB, _, _⟩
  · refine (imk30nil W _ _ _).mono fun e w' ⟨he, hw⟩ => ?_
    subst hw
    exact ⟨he, hr0, igrown_refl _ _⟩
  · refine (imk30row W B g cap zs 1 (by omega) (by omega) hm hr).mono fun e w' ⟨he, h1, h2⟩ => ?_
    exact ⟨he, by rw [imk_full] at h1; exact h1, h2⟩

theorem iheld31 {W : World} {B : Nat} {v : Value} {n : Nat} (hr : IRow W B v (imarks n)) (hm : n ≤ 1000000) :
    Calls Tryz.prog 31 #[v, .int .i64 1] W fun e w' => e = .returned (.int .i64 (1 + (n : Int))) ∧ W = w' := by
  rcases hr.cases with ⟨rfl, h0⟩ | ⟨g, cap, rfl, hB, _, _⟩
  · have : n = 0 := by have := congrArg List.length h0; rw [imarks_len] at this; exact this
    subst this
    exact iheld31nil W _ _ _
  · rw [imarks_len] at hr ⊢
    refine iheld31row W g cap n 1 (by omega) (by omega) (by omega) (fun i hi => ?_)
    rw [IRow.cellN (imarks_len n) hr i hi]
    simp [imarks, hi]

theorem IRow.kept {W W' : World} {B : Nat} {v : Value} {zs : List Int} {row : Option Nat} (h : IRow W B v zs) (hg : W.grownBy W' row) (hne : v.ownBlock = none ∨ v.ownBlock ≠ row) : IRow W' B v zs := World.ownsRow.kept h hg hne
/-- Two rows of two calls, one behind the other, lie apart. -/
theorem IRow.apart {W W1 : World} {B : Nat} {v v1 : Value} {zs zs1 : List Int} (h : IRow W B v zs) (h1 : IRow W1 W.heap.size v1 zs1) : v.ownBlock = none ∨ v.ownBlock ≠ v1.ownBlock := by
  rcases h.cases with ⟨rfl, _⟩ | ⟨g, cap, rfl, _, hlt, _⟩
  · exact .inl rfl
  · rcases h1.cases with ⟨rfl, _⟩ | ⟨g', cap', rfl, hge, _, _⟩
    · exact .inr (by simp [Value.ownBlock])
    · exact .inr (by simp [Value.ownBlock]; omega)
theorem IRow.belowOf {W W' : World} {B : Nat} {v : Value} {zs : List Int} (h : IRow W B v zs) (hg : W.grownBy W' v.ownBlock) (hB : B ≤ W.heap.size) {A : World} (hA : Below B A W) : Below B A W' :=
  hA.grown hg hB (fun k e => by
    rcases h.cases with ⟨rfl, _⟩ | ⟨g, cap, rfl, hb, _, _⟩
    · simp [Value.ownBlock] at e
    · simp [Value.ownBlock] at e; omega)

end Go.Proofs.YtgdgbjnmibkmhaaGreatDoor

namespace Go.Proofs.YtgdgbjnmibkmhaaGreatDoor
open Go.ChangeShapes Go.WideShapes Go.ChangeAt Go.RowKit Go.Shelf
attribute [local go_sem] Oper.semAt_some
set_option maxRecDepth 100000

theorem infoInt : (Tryz.prog.info? 3).map (fun i => (i.zero, i.size, i.bytes)) = some (some (.int .i64 0), 1, 8) := by kernel_rfl
theorem set_take {zs : List Int} {k : Nat} {z : Int} (h : zs[k]? = some z) : (zs.take k ++ List.replicate (zs.length - k) 0).set k z = zs.take (k + 1) ++ List.replicate (zs.length - (k + 1)) 0 := by
  have hk : k < zs.length := (List.getElem?_eq_some_iff.1 h).1
  have hl : (zs.take k).length = k := by rw [List.length_take]; omega
  have e : zs.length - k = (zs.length - (k + 1)) + 1 := by omega
  rw [List.set_append_right _ _ (by omega), hl, Nat.sub_self, e, List.replicate_succ, List.set_cons_zero, List.take_add_one, h]
  simp
theorem grown_old {W w1 wr : World} (h1 : W.grownBy w1 none) (h2 : w1.grownBy wr (some W.heap.size)) {b o : Nat} {v : Value} (h : W.cell? ⟨b, o, none⟩ = some v) : wr.cell? ⟨b, o, none⟩ = some v := by
  have hb : b < W.heap.size := by
    unfold World.cell? at h
    cases hh : W.heap[b]? with
    | none => rw [hh] at h; simp at h
    | some o => exact (Array.getElem?_eq_some_iff.1 hh).1
  have e1 := h1.block b hb (by simp)
  have e2 := h2.block b (Nat.lt_of_lt_of_le hb h1.size) (by intro q; cases q; omega)
  exact (World.cell?_of_block (a := ⟨b, o, none⟩) (e2.trans e1)).trans h
set_option maxHeartbeats 1000000 in
theorem toI109 {W : World} {v : Value} {zs : List Int} (h : IntsAt W v zs) (hn : zs.length ≤ 1048576) :
    Calls Tryz.prog 44 #[v] W fun e W' => ∃ g', e = .returned (.slice (some ⟨g', 0, none⟩) zs.length zs.length) ∧ IRow W' W.heap.size (.slice (some ⟨g', 0, none⟩) zs.length zs.length) zs ∧ Below W.heap.size W W' := by
  obtain ⟨a, cap, rfl, h1, h2, h3⟩ := h
  obtain ⟨i0, hi, hz0, hz1, hz2⟩ := info_parts infoInt
  obtain ⟨w1, hr, hown, hg1⟩ := run_make_full (P := Tryz.prog) W W.heap.size 24 3 i0 (.int .i64 0) 1 Tryz.underlying24 hi hz0 hz1 .i64 .i64 zs.length (by rw [hz2]; omega) (by unfold maxLen; omega) (Nat.le_refl _)
  have hrow : IRow w1 W.heap.size (.slice (some ⟨W.heap.size, 0, none⟩) zs.length zs.length) (List.replicate zs.length 0) := by
    unfold IRow
    rw [List.length_replicate, List.map_replicate, ← toList_madeCells_one]
    simpa [Value.cells] using hown
  have hnn : ¬ ((zs.length : Int) < 0) := by omega
  have hni : (zs.length : Int) ≤ 1048576 := by omega
  clear hown
  go_enter Tryz.func44, Tryz.ntmps44
  go_wp2_with fail
  clear hr
  go_loopw [4] (fun i wr => ∃ k : Nat, k ≤ zs.length ∧ i = .int .i64 (k : Int) ∧ IRow wr W.heap.size (.slice (some ⟨W.heap.size, 0, none⟩) zs.length zs.length) (zs.take k ++ List.replicate (zs.length - k) 0) ∧ w1.grownBy wr (some W.heap.size)) (fun i _ => zs.length - (intOf i).toNat)
  case atStart => exact ⟨0, by omega, rfl, hrow, igrown_refl _ _⟩
  case round =>
    obtain ⟨k, hk, rfl, hR, hG⟩ := hrel
    by_cases hlt : k < zs.length
    · have hlt2 : (k : Int) < (zs.length : Int) := by omega
      have hz : zs[k]? = some zs[k] := List.getElem?_eq_getElem hlt
      rcases h3 with h3 | ⟨b, off, rfl, h3⟩
      · rw [h3] at hlt; simp at hlt
      have hc := grown_old hg1 hG (h3 k _ hz)
      have hlen : (zs.take k ++ List.replicate (zs.length - k) 0).length = zs.length := by simp; omega
      have fz := hR.frozen hlen k
      have hst := hR.stored hlen k zs[k]
      rw [set_take hz] at hst
      have hkc : k < zs.length := hlt
      generalize zs[k] = z at hc hst
      have hco := hR.cellN hlen k hlt
      go_wp2_with fail
      go_roundw
      case rel => exact ⟨k + 1, by omega, by go_num, hst.1, igrown_trans hG hst.2⟩
      case measure => simp [intOf]; omega
    · have hkn : k = zs.length := by omega
      have hge : ¬ ((k : Int) < (zs.length : Int)) := by omega
      go_wp2_with fail
      go_ret
      have hR2 : IRow wr W.heap.size (.slice (some ⟨W.heap.size, 0, none⟩) zs.length zs.length) zs := by
        rw [hkn] at hR
        simpa using hR
      exact ⟨_, rfl, hR2, ((Below.refl _ W).grown hg1 (Nat.le_refl _) (fun i e => by cases e)).grown hG hg1.size (fun i e => by cases e; exact Nat.le_refl _)⟩
set_option maxHeartbeats 1000000 in
theorem ieqIrow (W : World) (g h o q c d : Nat) (zs : List Int) (hm : zs.length ≤ maxLen)
    (hx : ∀ (i : Nat) z, zs[i]? = some z → W.cell? ⟨g, o + i, none⟩ = some (.int .i64 z)) (hy : ∀ (i : Nat) z, zs[i]? = some z → W.cell? ⟨h, q + i, none⟩ = some (.int .i64 z)) :
    Calls Tryz.prog 28 #[.slice (some ⟨g, o, none⟩) zs.length c, .slice (some ⟨h, q, none⟩) zs.length d] W fun e w' => e = .returned (.bool true) ∧ Below W.heap.size W w' := by
  unfold maxLen at hm
  have HX := Lib.hid hx
  have HY := Lib.hid hy
  clear hx hy
  go_enter Tryz.func28, Tryz.ntmps28
  go_wp2
  go_loopw [5] (fun i wr => ∃ k : Nat, k ≤ zs.length ∧ i = .int .i64 k ∧ Below W.heap.size W wr ∧ ∀ a, wr.cell? a = W.cell? a) (fun i _ => zs.length - (intOf i).toNat)
  case atStart => exact ⟨0, by omega, rfl, Below.refl _ _, fun _ => rfl⟩
  case round =>
    obtain ⟨k, hk, rfl, hB, hs⟩ := hrel
    by_cases hlt : k < zs.length
    · have hz : zs[k]? = some zs[k] := List.getElem?_eq_getElem hlt
      have c1 := (hs _).trans (HX.out k _ hz)
      have c2 := (hs _).trans (HY.out k _ hz)
      have HS := Lib.hid hs
      clear hs
      generalize zs[k] = z at c1 c2
      go_wp2
      go_quiet (fail)
      go_wp2
      go_roundw
      case rel => exact ⟨k + 1, by omega, by go_num, below_drewN hB _, fun a => HS.out a⟩
      case measure => simp [intOf]; omega
    · have e : k = zs.length := by omega
      clear hlt hk
      subst e
      go_wp2
      go_ret
      exact ⟨rfl, hB⟩
theorem ieqI {W : World} {v1 v2 : Value} {zs : List Int} (h1 : IntsAt W v1 zs) (h2 : IntsAt W v2 zs) :
    Calls Tryz.prog 28 #[v1, v2] W fun e w' => e = .returned (.bool true) ∧ Below W.heap.size W w' := by
  obtain ⟨a, c, rfl, q1, q2, q3⟩ := h1
  obtain ⟨b, d, rfl, r1, r2, r3⟩ := h2
  rcases q3 with rfl | ⟨g, o, rfl, q3⟩
  · exact ieq29nil W _ _ _ _
  · rcases r3 with rfl | ⟨h, q, rfl, r3⟩
    · exact ieq29nil W _ _ _ _
    · exact ieqIrow W g h o q c d zs (Nat.le_trans q1 q2) q3 r3
theorem IRow.ints {W : World} {B : Nat} {v : Value} {zs : List Int} (h : IRow W B v zs) : IntsAt W v zs := by
  have h0 := h
  rcases h.2 with ⟨rfl, hn⟩ | ⟨g, cap, cur, rfl, hb, hg, hn, hm, _⟩
  · have hz : zs = [] := List.length_eq_zero_iff.1 hn
    subst hz
    exact ⟨none, 0, rfl, Nat.le_refl _, Nat.zero_le _, .inl rfl⟩
  · refine ⟨_, cap, rfl, hn, hm, .inr ⟨g, 0, rfl, fun j z hz => ?_⟩⟩
    have hj := (List.getElem?_eq_some_iff.1 hz).1
    rw [Nat.zero_add, h0.cell j hj, hz]
    rfl
end Go.Proofs.YtgdgbjnmibkmhaaGreatDoor

namespace Go.Proofs.YtgdgbjnmibkmhaaGreatDoor
open Go.ChangeShapes Go.WideShapes Go.ChangeAt Go.RowKit Go.Shelf
attribute [local go_sem] Oper.semAt_some
set_option maxRecDepth 100000

/-! ### Blocks of six cells -/
def Six (W : World) (g : Nat) (t : TypeId) (c0 c1 c2 c3 c4 c5 : Value) : Prop := W.heap[g]? = some (.cells #[c0, c1, c2, c3, c4, c5] t (0, 0))
theorem Six.new (W : World) (t : TypeId) (c0 c1 c2 c3 c4 c5 : Value) : Six (W.alloc (.cells #[c0, c1, c2, c3, c4, c5] t)) W.heap.size t c0 c1 c2 c3 c4 c5 := heap_alloc_new W _
theorem Six.lt {W : World} {g : Nat} {t : TypeId} {c0 c1 c2 c3 c4 c5 : Value} (h : Six W g t c0 c1 c2 c3 c4 c5) : g < W.heap.size := (Array.getElem?_eq_some_iff.1 h).1
theorem Six.below {W W' : World} {g : Nat} {t : TypeId} {c0 c1 c2 c3 c4 c5 : Value} (h : Six W g t c0 c1 c2 c3 c4 c5) {n : Nat} (hb : Below n W W') (hn : g < n) : Six W' g t c0 c1 c2 c3 c4 c5 := (hb.block g hn).trans h
theorem Six.alloc {W : World} {g : Nat} {t : TypeId} {c0 c1 c2 c3 c4 c5 : Value} (h : Six W g t c0 c1 c2 c3 c4 c5) (o : Obj) : Six (W.alloc o) g t c0 c1 c2 c3 c4 c5 := h.below ((Below.refl _ W).alloc (Nat.le_refl _) o) h.lt
theorem Six.other {W : World} {g g' o : Nat} {t : TypeId} {c0 c1 c2 c3 c4 c5 : Value} (h : Six W g t c0 c1 c2 c3 c4 c5) (hne : g ≠ g') (v : Value) : Six (W.setCell ⟨g', o, none⟩ v) g t c0 c1 c2 c3 c4 c5 := by
  unfold Six at *
  rw [heap_setCell_other W ⟨g', o, none⟩ g _ hne]
  exact h
theorem Six.cells {W : World} {g : Nat} {t : TypeId} {c0 c1 c2 c3 c4 c5 : Value} (h : Six W g t c0 c1 c2 c3 c4 c5) :
    W.cell? ⟨g, 0, none⟩ = some c0 ∧ W.cell? ⟨g, 1, none⟩ = some c1 ∧ W.cell? ⟨g, 2, none⟩ = some c2 ∧ W.cell? ⟨g, 3, none⟩ = some c3 ∧ W.cell? ⟨g, 4, none⟩ = some c4 ∧ W.cell? ⟨g, 5, none⟩ = some c5 := by
  refine ⟨?_, ?_, ?_, ?_, ?_, ?_⟩
  · rw [cell_of_row _ g 0 _ _ (0, 0) h]; rfl
  · rw [cell_of_row _ g 1 _ _ (0, 0) h]; rfl
  · rw [cell_of_row _ g 2 _ _ (0, 0) h]; rfl
  · rw [cell_of_row _ g 3 _ _ (0, 0) h]; rfl
  · rw [cell_of_row _ g 4 _ _ (0, 0) h]; rfl
  · rw [cell_of_row _ g 5 _ _ (0, 0) h]; rfl
theorem Six.frozen {W : World} {g : Nat} {t : TypeId} {c0 c1 c2 c3 c4 c5 : Value} (h : Six W g t c0 c1 c2 c3 c4 c5) :
    W.frozen? ⟨g, 0, none⟩ = false ∧ W.frozen? ⟨g, 1, none⟩ = false ∧ W.frozen? ⟨g, 2, none⟩ = false ∧ W.frozen? ⟨g, 3, none⟩ = false ∧ W.frozen? ⟨g, 4, none⟩ = false ∧ W.frozen? ⟨g, 5, none⟩ = false := by
  unfold Six at h
  refine ⟨?_, ?_, ?_, ?_, ?_, ?_⟩ <;> (unfold World.frozen?; rw [h]; rfl)
theorem Six.set0 {W : World} {g : Nat} {t : TypeId} {c0 c1 c2 c3 c4 c5 : Value} (h : Six W g t c0 c1 c2 c3 c4 c5) (v : Value) : Six (W.setCell ⟨g, 0, none⟩ v) g t v c1 c2 c3 c4 c5 := by
  unfold Six at *
  rw [heap_setCell_same W g 0 _ t _ h]
  rfl
theorem Six.set1 {W : World} {g : Nat} {t : TypeId} {c0 c1 c2 c3 c4 c5 : Value} (h : Six W g t c0 c1 c2 c3 c4 c5) (v : Value) : Six (W.setCell ⟨g, 1, none⟩ v) g t c0 v c2 c3 c4 c5 := by
  unfold Six at *
  rw [heap_setCell_same W g 1 _ t _ h]
  rfl
theorem Six.set2 {W : World} {g : Nat} {t : TypeId} {c0 c1 c2 c3 c4 c5 : Value} (h : Six W g t c0 c1 c2 c3 c4 c5) (v : Value) : Six (W.setCell ⟨g, 2, none⟩ v) g t c0 c1 v c3 c4 c5 := by
  unfold Six at *
  rw [heap_setCell_same W g 2 _ t _ h]
  rfl
theorem Six.set3 {W : World} {g : Nat} {t : TypeId} {c0 c1 c2 c3 c4 c5 : Value} (h : Six W g t c0 c1 c2 c3 c4 c5) (v : Value) : Six (W.setCell ⟨g, 3, none⟩ v) g t c0 c1 c2 v c4 c5 := by
  unfold Six at *
  rw [heap_setCell_same W g 3 _ t _ h]
  rfl
theorem Six.set4 {W : World} {g : Nat} {t : TypeId} {c0 c1 c2 c3 c4 c5 : Value} (h : Six W g t c0 c1 c2 c3 c4 c5) (v : Value) : Six (W.setCell ⟨g, 4, none⟩ v) g t c0 c1 c2 c3 v c5 := by
  unfold Six at *
  rw [heap_setCell_same W g 4 _ t _ h]
  rfl
theorem Six.set5 {W : World} {g : Nat} {t : TypeId} {c0 c1 c2 c3 c4 c5 : Value} (h : Six W g t c0 c1 c2 c3 c4 c5) (v : Value) : Six (W.setCell ⟨g, 5, none⟩ v) g t c0 c1 c2 c3 c4 v := by
  unfold Six at *
  rw [heap_setCell_same W g 5 _ t _ h]
  rfl
theorem below_cell {n g o : Nat} {A U : World} (h : Below n A U) (hn : n ≤ g) (v : Value) : Below n A (U.setCell ⟨g, o, none⟩ v) :=
  ⟨h.os, h.tape, h.output, by simpa using h.size, fun i hi => (heap_setCell_other U ⟨g, o, none⟩ i _ (by show i ≠ g; omega)).trans (h.block i hi)⟩
theorem IRow.set_low {W : World} {B g o : Nat} {v : Value} {zs : List Int} (h : IRow W B v zs) (hg : g < B) (u : Value) : IRow (W.setCell ⟨g, o, none⟩ u) B v zs := by
  obtain ⟨h1, h2⟩ := h
  refine ⟨h1, ?_⟩
  rcases h2 with h2 | ⟨k, cap, cur, a, b, c, d⟩
  · exact .inl h2
  · exact .inr ⟨k, cap, cur, a, b, (heap_setCell_other W ⟨g, o, none⟩ k _ (by show k ≠ g; omega)).trans c, d⟩
theorem row_seven {W : World} {n B : Nat} {v : Value} {zs : List Int} (h : IRow W B v zs) (hn : n + 1 + 1 < B) (h0 : n ≤ B) (s : Value) (b : Int) (p : ByteArray) (x r : Int) (u : ByteArray) :
    IRow (((((((W.setCell ⟨n + 1 + 1, 5, none⟩ s).setCell ⟨n + 1, 0, none⟩ (.int .i64 b)).setCell ⟨n + 1, 1, none⟩ (.string p)).setCell ⟨n + 1, 2, none⟩ (.int .i64 x)).setCell ⟨n + 1, 3, none⟩ (.int .i64 r)).setCell ⟨n + 1, 4, none⟩ (.string u)).setCell ⟨n + 1, 5, none⟩ s) n v zs :=
  (((((((h.set_low (o := 5) hn s).set_low (g := n + 1) (o := 0) (by omega) _).set_low (g := n + 1) (o := 1) (by omega) _).set_low (g := n + 1) (o := 2) (by omega) _).set_low (g := n + 1) (o := 3) (by omega) _).set_low (g := n + 1) (o := 4) (by omega) _).set_low (g := n + 1) (o := 5) (by omega) _).mono h0
/-! ### One line -/
set_option maxHeartbeats 2000000 in
theorem toL51 (b : Int) (p : ByteArray) (x r : Int) (u : ByteArray) (v : Value) (zs : List Int) (W : World) (hI : IntsAt W v zs) (hn : zs.length ≤ 1048576) :
    Calls Tryz.prog 12 #[.agg #[.int .i64 b, .string p, .int .i64 x, .int .i64 r, .string u, v]] W fun e W' => ∃ g', e = .returned (.agg #[.int .i64 b, .string p, .int .i64 x, .int .i64 r, .string u, .slice (some ⟨g', 0, none⟩) zs.length zs.length]) ∧ IRow W' W.heap.size (.slice (some ⟨g', 0, none⟩) zs.length zs.length) zs ∧ Below W.heap.size W W' := by
  have a0 := Six.new W 26 (.int .i64 b) (.string p) (.int .i64 x) (.int .i64 r) (.string u) v
  have hb0 : Below W.heap.size W (W.alloc (.cells #[.int .i64 b, .string p, .int .i64 x, .int .i64 r, .string u, v] 26)) := (Below.refl _ W).alloc (Nat.le_refl _) _
  have r0 := Six.new (W.alloc (.cells #[.int .i64 b, .string p, .int .i64 x, .int .i64 r, .string u, v] 26)) 33 (.int .i64 0) (.string ⟨#[]⟩) (.int .i64 0) (.int .i64 0) (.string ⟨#[]⟩) (.slice none 0 0)
  have o0 := Six.new ((W.alloc (.cells #[.int .i64 b, .string p, .int .i64 x, .int .i64 r, .string u, v] 26)).alloc (.cells #[.int .i64 0, .string ⟨#[]⟩, .int .i64 0, .int .i64 0, .string ⟨#[]⟩, .slice none 0 0] 33)) 33 (.int .i64 0) (.string ⟨#[]⟩) (.int .i64 0) (.int .i64 0) (.string ⟨#[]⟩) (.slice none 0 0)
  rw [World.size_alloc] at r0
  rw [World.size_alloc, World.size_alloc] at o0
  have a2 := (a0.alloc (.cells #[.int .i64 0, .string ⟨#[]⟩, .int .i64 0, .int .i64 0, .string ⟨#[]⟩, .slice none 0 0] 33)).alloc (.cells #[.int .i64 0, .string ⟨#[]⟩, .int .i64 0, .int .i64 0, .string ⟨#[]⟩, .slice none 0 0] 33)
  have r2 := r0.alloc (.cells #[.int .i64 0, .string ⟨#[]⟩, .int .i64 0, .int .i64 0, .string ⟨#[]⟩, .slice none 0 0] 33)
  have hb2 := (hb0.alloc hb0.size (.cells #[.int .i64 0, .string ⟨#[]⟩, .int .i64 0, .int .i64 0, .string ⟨#[]⟩, .slice none 0 0] 33)).alloc (by simp; omega) (.cells #[.int .i64 0, .string ⟨#[]⟩, .int .i64 0, .int .i64 0, .string ⟨#[]⟩, .slice none 0 0] 33)
  clear a0 r0
  have hcp : v.cells = #[v] := by obtain ⟨a, cap, rfl, _⟩ := hI; rfl
  go_enter Tryz.func12, Tryz.ntmps12
  go_wp2_with fail
  go_at_call 24
  refine (to14 b p x r _).mono ?_
  rintro e W1 ⟨rfl, b1⟩
  have a3 := a2.below b1 a2.lt
  have r3 := r2.below b1 r2.lt
  have o3 := o0.below b1 o0.lt
  have hb3 := hb2.trans (b1.mono hb2.size)
  have n1 : W.heap.size ≠ W.heap.size + 1 + 1 := by omega
  have n2 : W.heap.size + 1 ≠ W.heap.size + 1 + 1 := by omega
  have n3 : W.heap.size + 1 + 1 ≠ W.heap.size + 1 := by omega
  have q1 : W.heap.size ≤ W.heap.size + 1 + 1 := by omega
  have q2 : W.heap.size ≤ W.heap.size + 1 := by omega
  clear a2 r2 o0 hb2 b1 hb0
  obtain ⟨c0, c1, c2, c3, _, _⟩ := o3.cells
  obtain ⟨f0, f1, f2, f3, _, _⟩ := o3.frozen
  have o4 := (((o3.set0 (.int .i64 b)).set1 (.string p)).set2 (.int .i64 x)).set3 (.int .i64 r)
  have a4 := (((a3.other n1 (o := 0) (.int .i64 b)).other n1 (o := 1) (.string p)).other n1 (o := 2) (.int .i64 x)).other n1 (o := 3) (.int .i64 r)
  have r4 := (((r3.other n2 (o := 0) (.int .i64 b)).other n2 (o := 1) (.string p)).other n2 (o := 2) (.int .i64 x)).other n2 (o := 3) (.int .i64 r)
  have hb4 := below_cell (o := 3) (below_cell (o := 2) (below_cell (o := 1) (below_cell (o := 0) hb3 q1 (.int .i64 b)) q1 (.string p)) q1 (.int .i64 x)) q1 (.int .i64 r)
  obtain ⟨_, _, _, _, d4, _⟩ := a4.cells
  obtain ⟨_, _, _, _, e4, _⟩ := o4.cells
  obtain ⟨_, _, _, _, g4, _⟩ := o4.frozen
  have o5 := o4.set4 (.string u)
  have a5 := a4.other n1 (o := 4) (.string u)
  have r5 := r4.other n2 (o := 4) (.string u)
  have hb5 := below_cell (o := 4) hb4 q1 (.string u)
  obtain ⟨_, _, _, _, _, d5⟩ := a5.cells
  have hI5 := hI.below hb5
  clear a3 r3 hb3 a4 r4 hb4 o3 o4
  go_wp2_with fail
  go_at_call 44
  refine (toI109 hI5 hn).mono ?_
  rintro e W6 ⟨g2, rfl, hrow, b6⟩
  have o6 := o5.below b6 o5.lt
  have r6 := r5.below b6 r5.lt
  have hb6 := hb5.trans (b6.mono hb5.size)
  have hl5 := o5.lt
  have hrow := hrow.mono (B' := W.heap.size + 1 + 1 + 1) (by omega)
  clear a5 r5 o5 hb5 b6 hI5 hI d4 d5 e4 g4 c0 c1 c2 c3 f0 f1 f2 f3 hl5
  obtain ⟨_, _, _, _, _, k5⟩ := o6.cells
  obtain ⟨_, _, _, _, _, l5⟩ := o6.frozen
  have o7 := o6.set5 (.slice (some ⟨g2, 0, none⟩) zs.length zs.length)
  have r7 := r6.other n2 (o := 5) (.slice (some ⟨g2, 0, none⟩) zs.length zs.length)
  have hb7 := below_cell (o := 5) hb6 q1 (.slice (some ⟨g2, 0, none⟩) zs.length zs.length)
  obtain ⟨h0, h1, h2, h3, h4, h5⟩ := o7.cells
  obtain ⟨c0, c1, c2, c3, c4, c5⟩ := r7.cells
  obtain ⟨f0, f1, f2, f3, f4, f5⟩ := r7.frozen
  have r8 := (((((r7.set0 (.int .i64 b)).set1 (.string p)).set2 (.int .i64 x)).set3 (.int .i64 r)).set4 (.string u)).set5 (.slice (some ⟨g2, 0, none⟩) zs.length zs.length)
  have hb8 := below_cell (o := 5) (below_cell (o := 4) (below_cell (o := 3) (below_cell (o := 2) (below_cell (o := 1) (below_cell (o := 0) hb7 q2 (.int .i64 b)) q2 (.string p)) q2 (.int .i64 x)) q2 (.int .i64 r)) q2 (.string u)) q2 (.slice (some ⟨g2, 0, none⟩) zs.length zs.length)
  have HR := Lib.hid (row_seven (n := W.heap.size) hrow (by omega) (by omega) (.slice (some ⟨g2, 0, none⟩) zs.length zs.length) b p x r u)
  clear r6 o6 hb6 hb7 o7 hrow
  go_wp2_with fail
  obtain ⟨d0, d1, d2, d3, d4, d5⟩ := r8.cells
  exact bodyPost_ret (v := .agg #[.int .i64 b, .string p, .int .i64 x, .int .i64 r, .string u, .slice (some ⟨g2, 0, none⟩) zs.length zs.length]) (by simp [results, Tryz.results12, go_sem, d0, d1, d2, d3, d4, d5]) rfl ⟨g2, rfl, HR.out, hb8⟩
end Go.Proofs.YtgdgbjnmibkmhaaGreatDoor

namespace Go.Proofs.YtgdgbjnmibkmhaaGreatDoor
open Go.ChangeShapes Go.WideShapes Go.ChangeAt Go.RowKit Go.Shelf
attribute [local go_sem] Oper.semAt_some
set_option maxRecDepth 100000

/-! ### Sizes -/
theorem szI108 {W : World} {v : Value} {zs : List Int} (h : IntsAt W v zs) (L : Int) (h0 : 0 ≤ L) (h1 : L ≤ 1048576) :
    Calls Tryz.prog 37 #[v, .int .i64 L] W fun e W' => e = .returned (.int .i64 (if (zs.length : Int) ≤ L then L - zs.length else -1)) ∧ Below W.heap.size W W' := by
  obtain ⟨a, cap, rfl, q1, q2, _⟩ := h
  unfold maxLen at q2
  have hm : (zs.length : Int) ≤ 9223372036854775807 := by omega
  by_cases hle : (zs.length : Int) ≤ L
  · rw [if_pos hle]
    have hn : ¬ (L - (zs.length : Int) < 0) := by omega
    go_enter Tryz.func37, Tryz.ntmps37
    go_wp2
    go_ret
    exact ⟨rfl, Below.refl _ _⟩
  · rw [if_neg hle]
    have hn : L - (zs.length : Int) < 0 := by omega
    go_enter Tryz.func37, Tryz.ntmps37
    go_wp2
    go_ret
    exact ⟨rfl, Below.refl _ _⟩
def szOf (n : Nat) (L : Int) : Int := if (n : Int) ≤ L then L - n else -1
set_option maxHeartbeats 2000000 in
theorem szL49 (b : Int) (p : ByteArray) (x r : Int) (u : ByteArray) (v : Value) (zs : List Int) (W : World) (hI : IntsAt W v zs) (hp : p.size ≤ maxLen) (hu : u.size ≤ maxLen) (L : Int) (h0 : 0 ≤ L) (h1 : L ≤ 1048576) :
    Calls Tryz.prog 9 #[.agg #[.int .i64 b, .string p, .int .i64 x, .int .i64 r, .string u, v], .int .i64 L] W fun e W' => e = .returned (.int .i64 (szOf (p.size + u.size + zs.length) L)) ∧ Below W.heap.size W W' := by
  unfold maxLen at hp hu
  have a0 := Six.new W 26 (.int .i64 b) (.string p) (.int .i64 x) (.int .i64 r) (.string u) v
  have hb0 : Below W.heap.size W (W.alloc (.cells #[.int .i64 b, .string p, .int .i64 x, .int .i64 r, .string u, v] 26)) := (Below.refl _ W).alloc (Nat.le_refl _) _
  have hs := fun X => sz12 b p x r L X h0 h1 hp
  have hcp : v.cells = #[v] := by obtain ⟨a, cap, rfl, _⟩ := hI; rfl
  by_cases hA : (p.size : Int) ≤ L
  · rw [if_pos hA] at hs
    have hn1 : ¬ (L - (p.size : Int) < 0) := by omega
    by_cases hB : (u.size : Int) ≤ L - p.size
    · have hn2 : ¬ (L - (p.size : Int) - (u.size : Int) < 0) := by omega
      have hz : szOf (p.size + u.size + zs.length) L = if (zs.length : Int) ≤ L - p.size - u.size then L - p.size - u.size - zs.length else -1 := by
        unfold szOf
        split <;> split <;> omega
      rw [hz]
      have hui : (u.size : Int) ≤ 9223372036854775807 := by omega
      have hS := fun (X : World) (hX : IntsAt X v zs) => szI108 hX (L - p.size - u.size) (by omega) (by omega)
      have hz3 : (if (zs.length : Int) ≤ L - p.size - u.size then L - p.size - u.size - zs.length else -1) < 0 ∨ ¬ (if (zs.length : Int) ≤ L - p.size - u.size then L - p.size - u.size - zs.length else -1) < 0 := by omega
      have hm1 : ¬ ((zs.length : Int) ≤ L - p.size - u.size) → (if (zs.length : Int) ≤ L - p.size - u.size then L - p.size - u.size - zs.length else -1) = -1 := fun h => if_neg h
      generalize hk : (if (zs.length : Int) ≤ L - p.size - u.size then L - p.size - u.size - zs.length else -1) = k at *
      have hk1 : k < 0 → k = -1 := fun h => by
        rw [← hk] at h ⊢
        split at h
        · omega
        · rename_i h2; rw [if_neg h2]
      clear hk hm1 hz
      go_enter Tryz.func9, Tryz.ntmps9
      go_wp2_with fail
      go_at_call 22
      refine (hs _).mono ?_
      rintro e W1 ⟨rfl, b1⟩
      have a1 := a0.below b1 a0.lt
      have hb1 := hb0.trans (b1.mono hb0.size)
      have hI1 := hI.below hb1
      obtain ⟨_, _, _, _, c4, c5⟩ := a1.cells
      go_wp2_with fail
      go_at_call 37
      refine (hS _ hI1).mono ?_
      rintro e W2 ⟨rfl, b2⟩
      have hb2 := hb1.trans (b2.mono hb1.size)
      rcases hz3 with hz3 | hz3
      · obtain rfl := hk1 hz3
        go_wp2_with fail
        go_ret
        exact ⟨rfl, hb2⟩
      · go_wp2_with fail
        go_ret
        exact ⟨rfl, hb2⟩
    · have hn2 : L - (p.size : Int) - (u.size : Int) < 0 := by omega
      have hz : szOf (p.size + u.size + zs.length) L = -1 := by unfold szOf; rw [if_neg (by omega)]
      rw [hz]
      have hui : (u.size : Int) ≤ 9223372036854775807 := by omega
      go_enter Tryz.func9, Tryz.ntmps9
      go_wp2_with fail
      go_at_call 22
      refine (hs _).mono ?_
      rintro e W1 ⟨rfl, b1⟩
      have a1 := a0.below b1 a0.lt
      have hb1 := hb0.trans (b1.mono hb0.size)
      obtain ⟨_, _, _, _, c4, c5⟩ := a1.cells
      go_wp2_with fail
      go_ret
      exact ⟨rfl, hb1⟩
  · rw [if_neg hA] at hs
    have hz : szOf (p.size + u.size + zs.length) L = -1 := by unfold szOf; rw [if_neg (by omega)]
    rw [hz]
    go_enter Tryz.func9, Tryz.ntmps9
    go_wp2_with fail
    go_at_call 22
    refine (hs _).mono ?_
    rintro e W1 ⟨rfl, b1⟩
    have hb1 := hb0.trans (b1.mono hb0.size)
    go_wp2_with fail
    go_ret
    exact ⟨rfl, hb1⟩
def wt1 (l : LineD) : Nat := l.t.p.size + l.rule.size + l.refs.length
def wtL (ls : List LineD) : Nat := (ls.map wt1).sum
theorem wtL_succ {ls : List LineD} {k : Nat} {l : LineD} (h : ls[k]? = some l) : wtL (ls.take (k + 1)) = wtL (ls.take k) + wt1 l := by
  unfold wtL
  rw [List.take_add_one, h]
  simp
theorem wtL_take (ls : List LineD) (k : Nat) : wtL (ls.take k) ≤ wtL ls := by
  have : wtL ls = wtL (ls.take k) + wtL (ls.drop k) := by
    unfold wtL
    rw [← List.sum_append, ← List.map_append, List.take_append_drop]
  omega
theorem line_cells {W : World} {b o : Nat} {l : LineD} (h : LineCells W b o l) : ∃ v, IntsAt W v l.refs ∧ W.cell? ⟨b, o, none⟩ = some (.int .i64 l.t.b) ∧ W.cell? ⟨b, o + 1, none⟩ = some (.string l.t.p) ∧ W.cell? ⟨b, o + 2, none⟩ = some (.int .i64 l.t.x) ∧ W.cell? ⟨b, o + 3, none⟩ = some (.int .i64 l.t.r) ∧ W.cell? ⟨b, o + 4, none⟩ = some (.string l.rule) ∧ W.cell? ⟨b, o + 5, none⟩ = some v := by
  obtain ⟨⟨h0, h1, h2, h3⟩, h4, v, h5, h6⟩ := h
  exact ⟨v, h6, h0, h1, h2, h3, h4, h5⟩
set_option maxHeartbeats 2000000 in
theorem szS55 {W : World} {v : Value} {ls : List LineD} (h : LinesAt W v ls) (hs : ∀ l ∈ ls, l.t.p.size ≤ maxLen ∧ l.rule.size ≤ maxLen) (L : Int) (h0 : 0 ≤ L) (h1 : L ≤ 1048576) :
    Calls Tryz.prog 17 #[v, .int .i64 L] W fun e W' => e = .returned (.int .i64 (szOf (ls.length + wtL ls) L)) ∧ Below W.heap.size W W' := by
  obtain ⟨a, cap, rfl, q1, q2, q3⟩ := h
  unfold maxLen at q2
  have hm : (ls.length : Int) ≤ 9223372036854775807 := by omega
  by_cases hle : (ls.length : Int) ≤ L
  · have hn : ¬ (L - (ls.length : Int) < 0) := by omega
    have HF := Lib.hid (fun (k : Nat) (l : LineD) (hk : ls[k]? = some l) (hz : ¬ ((wt1 l : Int) ≤ L - ls.length - wtL (ls.take k))) => (show szOf (ls.length + wtL ls) L = -1 from by
      have h1 := wtL_succ hk
      have h2 := wtL_take ls (k + 1)
      unfold szOf
      rw [if_neg (by omega)]))
    have HE := Lib.hid (fun (hz : (wtL ls : Int) ≤ L - ls.length) => (show szOf (ls.length + wtL ls) L = L - ls.length - wtL ls from by
      unfold szOf
      rw [if_pos (by omega)]
      omega))
    generalize szOf (ls.length + wtL ls) L = res at HF HE ⊢
    go_enter Tryz.func17, Tryz.ntmps17
    go_wp2_with fail
    go_loopw [1, 5] (fun q i wr => ∃ k : Nat, k ≤ ls.length ∧ i = .int .i64 (k : Int) ∧ (wtL (ls.take k) : Int) ≤ L - ls.length ∧ q = .int .i64 (L - ls.length - wtL (ls.take k)) ∧ Below W.heap.size W wr) (fun _ i _ => ls.length - (intOf i).toNat)
    case atStart => exact ⟨0, by omega, rfl, by simp [wtL]; omega, by simp [wtL], Below.refl _ _⟩
    case round =>
      obtain ⟨k, hk, rfl, hw, rfl, hB⟩ := hrel
      by_cases hlt : k < ls.length
      · have hlt2 : (k : Int) < (ls.length : Int) := by omega
        have hl : ls[k]? = some ls[k] := List.getElem?_eq_getElem hlt
        rcases q3 with q3 | ⟨g, off, rfl, q3⟩
        · rw [q3] at hlt; simp at hlt
        have hsz := hs ls[k] (List.getElem_mem hlt)
        have hc := (q3 k _ hl).below hB
        have hF := HF.out k _ hl
        have hsucc := wtL_succ hl
        generalize ls[k] = l at hl hsz hc hF hsucc
        obtain ⟨vr, hI, c0, c1, c2, c3, c4, c5⟩ := line_cells hc
        have hcp : vr.cells = #[vr] := by obtain ⟨a, cap, rfl, _⟩ := hI; rfl
        have hC := fun (X : World) (hX : IntsAt X vr l.refs) => szL49 l.t.b l.t.p l.t.x l.t.r l.rule vr l.refs X hX hsz.1 hsz.2 (L - ls.length - wtL (ls.take k)) (by omega) (by omega)
        have hwt : l.t.p.size + l.rule.size + l.refs.length = wt1 l := rfl
        rw [hwt] at hC
        by_cases hfit : (wt1 l : Int) ≤ L - ls.length - wtL (ls.take k)
        · have hso : szOf (wt1 l) (L - ls.length - wtL (ls.take k)) = L - ls.length - wtL (ls.take k) - wt1 l := if_pos hfit
          rw [hso] at hC
          have hnn : ¬ (L - (ls.length : Int) - wtL (ls.take k) - wt1 l < 0) := by omega
          have HS := Lib.hid hsucc
          clear hsucc hso hF hwt hsz
          go_wp2_with fail
          go_at_call 9
          refine (hC _ hI).mono ?_
          rintro e W1 ⟨rfl, b1⟩
          go_wp2_with fail
          go_roundw
          case rel => exact ⟨k + 1, by omega, by go_num, by rw [HS.out]; omega, by rw [HS.out]; congr 1; omega, hB.trans (b1.mono hB.size)⟩
          case measure => simp [intOf]; omega
        · have hso : szOf (wt1 l) (L - ls.length - wtL (ls.take k)) = -1 := if_neg hfit
          rw [hso] at hC
          have hr := hF (by omega)
          clear hsucc hso hF hwt hsz
          go_wp2_with fail
          go_at_call 9
          refine (hC _ hI).mono ?_
          rintro e W1 ⟨rfl, b1⟩
          go_wp2_with fail
          go_ret
          exact ⟨by first | rfl | (rw [hr]; rfl), hB.trans (b1.mono hB.size)⟩
      · have hkn : k = ls.length := by omega
        have hge : ¬ ((k : Int) < (ls.length : Int)) := by omega
        have htk : ls.take k = ls := by rw [hkn, List.take_length]
        rw [htk] at hw ⊢
        have hr := HE.out hw
        go_wp2_with fail
        go_ret
        exact ⟨by first | rfl | (rw [hr]; rfl), hB⟩
  · have hn : L - (ls.length : Int) < 0 := by omega
    have hz : szOf (ls.length + wtL ls) L = -1 := by unfold szOf; rw [if_neg (by omega)]
    rw [hz]
    go_enter Tryz.func17, Tryz.ntmps17
    go_wp2
    go_ret
    exact ⟨rfl, Below.refl _ _⟩
end Go.Proofs.YtgdgbjnmibkmhaaGreatDoor

namespace Go.Proofs.YtgdgbjnmibkmhaaGreatDoor
open Go.ChangeShapes Go.WideShapes Go.ChangeAt Go.RowKit Go.Shelf
attribute [local go_sem] Oper.semAt_some
set_option maxRecDepth 100000

/-! ### A list's own block -/
def BlkAt (W : World) (g n : Nat) : Prop := ∃ arr, W.heap[g]? = some (.cells arr 33 (0, 0)) ∧ arr.size = n
theorem BlkAt.lt {W : World} {g n : Nat} (h : BlkAt W g n) : g < W.heap.size := by obtain ⟨arr, h, _⟩ := h; exact (Array.getElem?_eq_some_iff.1 h).1
theorem BlkAt.below {W W' : World} {g n m : Nat} (h : BlkAt W g n) (hb : Below m W W') (hg : g < m) : BlkAt W' g n := by obtain ⟨arr, h, hs⟩ := h; exact ⟨arr, (hb.block g hg).trans h, hs⟩
theorem BlkAt.set {W : World} {g n : Nat} (h : BlkAt W g n) (i : Nat) (v : Value) : BlkAt (W.setCell ⟨g, i, none⟩ v) g n := by
  obtain ⟨arr, h, hs⟩ := h
  exact ⟨_, heap_setCell_same W g i arr _ v h, by simpa using hs⟩
theorem BlkAt.cell {W : World} {g n i : Nat} (h : BlkAt W g n) (hi : i < n) : ∃ u, W.cell? ⟨g, i, none⟩ = some u := by
  obtain ⟨arr, h, hs⟩ := h
  exact ⟨arr[i]'(by omega), by rw [cell_of_row _ g i _ _ (0, 0) h]; exact Array.getElem?_eq_getElem _⟩
theorem BlkAt.frozen {W : World} {g n : Nat} (h : BlkAt W g n) (i : Nat) : W.frozen? ⟨g, i, none⟩ = false := by
  obtain ⟨arr, h, hs⟩ := h
  unfold World.frozen?
  rw [h]
  rfl
/-- A line of a list of one's own, at o of block g: its references lie in blocks from B on. -/
def OLine (B : Nat) (W : World) (g o : Nat) (l : LineD) : Prop := TripCells W g o l.t ∧ W.cell? ⟨g, o + 4, none⟩ = some (.string l.rule) ∧ ∃ h, W.cell? ⟨g, o + 5, none⟩ = some (.slice (some ⟨h, 0, none⟩) l.refs.length l.refs.length) ∧ IRow W B (.slice (some ⟨h, 0, none⟩) l.refs.length l.refs.length) l.refs
theorem OLine.line {B : Nat} {W : World} {g o : Nat} {l : LineD} (h : OLine B W g o l) : LineCells W g o l := by
  obtain ⟨h1, h2, k, h3, h4⟩ := h
  exact ⟨h1, h2, _, h3, h4.ints⟩
theorem OLine.below {B : Nat} {W W' : World} {g o : Nat} {l : LineD} (h : OLine B W g o l) (hb : Below W.heap.size W W') : OLine B W' g o l := by
  obtain ⟨h1, h2, k, h3, h4⟩ := h
  exact ⟨h1.below hb, cell_below hb h2, k, cell_below hb h3, h4.below hb⟩
theorem OLine.set {B : Nat} {W : World} {g o i : Nat} {l : LineD} (h : OLine B W g o l) (hg : g < B) (hi : i < o ∨ o + 6 ≤ i) (v : Value) : OLine B (W.setCell ⟨g, i, none⟩ v) g o l := by
  have ne : ∀ j, j < 6 → (⟨g, i, none⟩ : Addr) ≠ ⟨g, o + j, none⟩ := fun j hj e => by
    have : i = o + j := congrArg Addr.off e
    omega
  obtain ⟨⟨a0, a1, a2, a3⟩, h2, k, h3, h4⟩ := h
  refine ⟨⟨?_, ?_, ?_, ?_⟩, ?_, k, ?_, h4.set_low hg v⟩
  · exact (World.cell?_setCell_other _ _ _ _ (ne 0 (by omega))).trans a0
  · exact (World.cell?_setCell_other _ _ _ _ (ne 1 (by omega))).trans a1
  · exact (World.cell?_setCell_other _ _ _ _ (ne 2 (by omega))).trans a2
  · exact (World.cell?_setCell_other _ _ _ _ (ne 3 (by omega))).trans a3
  · exact (World.cell?_setCell_other _ _ _ _ (ne 4 (by omega))).trans h2
  · exact (World.cell?_setCell_other _ _ _ _ (ne 5 (by omega))).trans h3
/-- Six cells stored, one behind the other. -/
def six6 (W : World) (g o : Nat) (c0 c1 c2 c3 c4 c5 : Value) : World := (((((W.setCell ⟨g, o, none⟩ c0).setCell ⟨g, o + 1, none⟩ c1).setCell ⟨g, o + 2, none⟩ c2).setCell ⟨g, o + 3, none⟩ c3).setCell ⟨g, o + 4, none⟩ c4).setCell ⟨g, o + 5, none⟩ c5
theorem six6_blk {W : World} {g n : Nat} (h : BlkAt W g n) (o : Nat) (c0 c1 c2 c3 c4 c5 : Value) : BlkAt (six6 W g o c0 c1 c2 c3 c4 c5) g n := (((((h.set _ _).set _ _).set _ _).set _ _).set _ _).set _ _
theorem six6_keep {B : Nat} {W : World} {g o q : Nat} {l : LineD} (h : OLine B W g q l) (hg : g < B) (hi : o + 6 ≤ q ∨ q + 6 ≤ o) (c0 c1 c2 c3 c4 c5 : Value) : OLine B (six6 W g o c0 c1 c2 c3 c4 c5) g q l :=
  (((((h.set (i := o) hg (by omega) c0).set (i := o + 1) hg (by omega) c1).set (i := o + 2) hg (by omega) c2).set (i := o + 3) hg (by omega) c3).set (i := o + 4) hg (by omega) c4).set (i := o + 5) hg (by omega) c5
theorem six6_below {A W : World} {n g : Nat} (h : Below n A W) (hg : n ≤ g) (o : Nat) (c0 c1 c2 c3 c4 c5 : Value) : Below n A (six6 W g o c0 c1 c2 c3 c4 c5) :=
  below_cell (below_cell (below_cell (below_cell (below_cell (below_cell h hg c0) hg c1) hg c2) hg c3) hg c4) hg c5
theorem six6_row {B : Nat} {W : World} {g o : Nat} {v : Value} {zs : List Int} (h : IRow W B v zs) (hg : g < B) (c0 c1 c2 c3 c4 c5 : Value) : IRow (six6 W g o c0 c1 c2 c3 c4 c5) B v zs :=
  (((((h.set_low hg c0).set_low hg c1).set_low hg c2).set_low hg c3).set_low hg c4).set_low hg c5
theorem blk_here {W : World} {g n o : Nat} (h : BlkAt W g n) (ho : o < n) (v : Value) : (W.setCell ⟨g, o, none⟩ v).cell? ⟨g, o, none⟩ = some v := by
  obtain ⟨u, hu⟩ := h.cell ho
  exact World.cell?_setCell_same _ _ _ hu
theorem keep_cell {W : World} {g o i : Nat} {c u : Value} (h : W.cell? ⟨g, o, none⟩ = some c) (hi : i ≠ o) : (W.setCell ⟨g, i, none⟩ u).cell? ⟨g, o, none⟩ = some c :=
  (World.cell?_setCell_other _ _ _ _ (fun e => hi (congrArg Addr.off e))).trans h
theorem six6_line {B : Nat} {W : World} {g n o h : Nat} {l : LineD} (hb : BlkAt W g n) (ho : o + 6 ≤ n) (hr : IRow W B (.slice (some ⟨h, 0, none⟩) l.refs.length l.refs.length) l.refs) (hg : g < B) :
    OLine B (six6 W g o (.int .i64 l.t.b) (.string l.t.p) (.int .i64 l.t.x) (.int .i64 l.t.r) (.string l.rule) (.slice (some ⟨h, 0, none⟩) l.refs.length l.refs.length)) g o l := by
  have b0 := hb.set o (.int .i64 l.t.b)
  have b1 := b0.set (o + 1) (.string l.t.p)
  have b2 := b1.set (o + 2) (.int .i64 l.t.x)
  have b3 := b2.set (o + 3) (.int .i64 l.t.r)
  have b4 := b3.set (o + 4) (.string l.rule)
  refine ⟨⟨?_, ?_, ?_, ?_⟩, ?_, h, ?_, six6_row hr hg _ _ _ _ _ _⟩
  · exact keep_cell (keep_cell (keep_cell (keep_cell (keep_cell (blk_here hb (by omega) _) (by omega)) (by omega)) (by omega)) (by omega)) (by omega)
  · exact keep_cell (keep_cell (keep_cell (keep_cell (blk_here b0 (by omega) _) (by omega)) (by omega)) (by omega)) (by omega)
  · exact keep_cell (keep_cell (keep_cell (blk_here b1 (by omega) _) (by omega)) (by omega)) (by omega)
  · exact keep_cell (keep_cell (blk_here b2 (by omega) _) (by omega)) (by omega)
  · exact keep_cell (blk_here b3 (by omega) _) (by omega)
  · exact blk_here b4 (by omega) _
theorem infoLine : ((Tryz.prog.info? 33).bind fun i => i.zero.map fun z => (z.cells.size, i.size, i.bytes)) = some (6, 6, 80) := by kernel_rfl
set_option maxHeartbeats 4000000 in
theorem toS56 {W : World} {v : Value} {ls : List LineD} (h : LinesAt W v ls) (hn : ls.length ≤ 1048576) (hr : ∀ l ∈ ls, l.refs.length ≤ 1048576) :
    Calls Tryz.prog 19 #[v] W fun e W' => e = .returned (.slice (some ⟨W.heap.size, 0, none⟩) ls.length ls.length) ∧ BlkAt W' W.heap.size (ls.length * 6) ∧ (∀ (j : Nat) l, ls[j]? = some l → OLine (W.heap.size + 1) W' W.heap.size (j * 6) l) ∧ Below W.heap.size W W' := by
  obtain ⟨a, cap, rfl, q1, q2, q3⟩ := h
  unfold maxLen at q2
  obtain ⟨il, z, hi, hz, hzs, his, hby⟩ : ∃ il z, Tryz.prog.info? 33 = some il ∧ il.zero = some z ∧ z.cells.size = 6 ∧ il.size = 6 ∧ il.bytes = 80 := by
    have := infoLine
    cases hi : Tryz.prog.info? 33 with
    | none => rw [hi] at this; cases this
    | some il =>
      rw [hi] at this
      cases hz : il.zero with
      | none => simp [hz] at this
      | some z =>
        simp [hz] at this
        exact ⟨il, z, rfl, hz, this.1, this.2.1, this.2.2⟩
  have hmk := run_make (P := Tryz.prog) W 43 33 il z Tryz.underlying43 hi hz .i64 .i64 (ls.length : Int) (ls.length : Int) (by omega) (Int.le_refl _) (by rw [hby]; omega) (by omega)
  rw [Int.toNat_natCast, his] at hmk
  have hB0 : BlkAt (W.alloc (.cells (madeCells z.cells (ls.length * 6)) 33)) W.heap.size (ls.length * 6) := ⟨_, heap_alloc_new W _, size_madeCells _ _⟩
  have hW0 : Below W.heap.size W (W.alloc (.cells (madeCells z.cells (ls.length * 6)) 33)) := (Below.refl _ W).alloc (Nat.le_refl _) _
  have hni : (ls.length : Int) ≤ 1048576 := by omega
  clear hi hz hzs his hby
  obtain ⟨g, hg⟩ : ∃ g, g = W.heap.size := ⟨_, rfl⟩
  rw [← hg] at hmk hB0 hW0 ⊢
  have HGs := Lib.hid hg
  clear hg
  generalize W.alloc (.cells (madeCells z.cells (ls.length * 6)) 33) = W1 at hmk hB0 hW0
  go_enter Tryz.func19, Tryz.ntmps19
  go_wp2_with fail
  clear hmk
  go_loopw [4] (fun i wr => ∃ k : Nat, k ≤ ls.length ∧ i = .int .i64 (k : Int) ∧ BlkAt wr g (ls.length * 6) ∧ (∀ (j : Nat) l, j < k → ls[j]? = some l → OLine (g + 1) wr g (j * 6) l) ∧ Below g W wr) (fun i _ => ls.length - (intOf i).toNat)
  case atStart => exact ⟨0, by omega, rfl, hB0, fun j l hj => by omega, hW0⟩
  case round =>
    obtain ⟨k, hk, rfl, hBk, hO, hB⟩ := hrel
    by_cases hlt : k < ls.length
    · have hlt2 : (k : Int) < (ls.length : Int) := by omega
      have hl : ls[k]? = some ls[k] := List.getElem?_eq_getElem hlt
      rcases q3 with q3 | ⟨b, off, rfl, q3⟩
      · rw [q3] at hlt; simp at hlt
      have hrl := hr ls[k] (List.getElem_mem hlt)
      have hc := (q3 k _ hl).below (show Below W.heap.size W wr by rw [← HGs.out]; exact hB)
      generalize ls[k] = l at hl hrl hc
      obtain ⟨vr, hI, c0, c1, c2, c3, c4, c5⟩ := line_cells hc
      have hcp : vr.cells = #[vr] := by obtain ⟨a, cap, rfl, _⟩ := hI; rfl
      have hgk := hBk.lt
      go_wp2_with fail
      go_at_call 12
      refine (toL51 l.t.b l.t.p l.t.x l.t.r l.rule vr l.refs _ hI hrl).mono ?_
      rintro e W2 ⟨h2, rfl, hrow, b2⟩
      have hk6 : k * 6 + 6 ≤ ls.length * 6 := by omega
      have hB2 := hBk.below b2 hgk
      have hO2 := fun (j : Nat) l' (hj : j < k) (hl' : ls[j]? = some l') => (hO j l' hj hl').below b2
      have hBW := hB.trans (b2.mono (Nat.le_of_lt hgk))
      have hrow := hrow.mono (B' := g + 1) hgk
      have d0 := hB2.set (k * 6) (.int .i64 l.t.b)
      have d1 := d0.set (k * 6 + 1) (.string l.t.p)
      have d2 := d1.set (k * 6 + 2) (.int .i64 l.t.x)
      have d3 := d2.set (k * 6 + 3) (.int .i64 l.t.r)
      have d4 := d3.set (k * 6 + 4) (.string l.rule)
      obtain ⟨u0, y0⟩ := hB2.cell (i := k * 6) (by omega)
      obtain ⟨u1, y1⟩ := hB2.cell (i := k * 6 + 1) (by omega)
      obtain ⟨u2, y2⟩ := hB2.cell (i := k * 6 + 2) (by omega)
      obtain ⟨u3, y3⟩ := hB2.cell (i := k * 6 + 3) (by omega)
      obtain ⟨u4, y4⟩ := hB2.cell (i := k * 6 + 4) (by omega)
      obtain ⟨u5, y5⟩ := hB2.cell (i := k * 6 + 5) (by omega)
      have f0 := hB2.frozen (k * 6)
      have f1 := hB2.frozen (k * 6 + 1)
      have f2 := hB2.frozen (k * 6 + 2)
      have f3 := hB2.frozen (k * 6 + 3)
      have f4 := hB2.frozen (k * 6 + 4)
      have f5 := hB2.frozen (k * 6 + 5)
      have HX := Lib.hid (And.intro hB2 (And.intro hO2 (And.intro hBW hrow)))
      clear hBk hO hB hrow b2 c0 c1 c2 c3 c4 c5 hI hc d0 d1 d2 d3 d4 hB2 hO2 hBW q3
      go_wp2_with fail
      go_roundw
      case rel =>
        obtain ⟨hB2, hO2, hBW, hrow⟩ := HX.out
        refine ⟨k + 1, by omega, by go_num, six6_blk hB2 _ _ _ _ _ _ _, fun j l' hj hl' => ?_, six6_below hBW (Nat.le_refl _) _ _ _ _ _ _ _⟩
        by_cases he : j = k
        · subst he
          rw [hl] at hl'
          cases hl'
          exact six6_line hB2 hk6 hrow (Nat.lt_succ_self _)
        · exact six6_keep (hO2 j l' (by omega) hl') (Nat.lt_succ_self _) (by omega) _ _ _ _ _ _
      case measure => simp [intOf]; omega
    · have hkn : k = ls.length := by omega
      have hge : ¬ ((k : Int) < (ls.length : Int)) := by omega
      go_wp2_with fail
      go_ret
      exact ⟨rfl, hBk, fun j l hl => hO j l (by have := (List.getElem?_eq_some_iff.1 hl).1; omega) hl, hB⟩
/-! ### Compared -/
set_option maxHeartbeats 2000000 in
theorem eqL53 (b : Int) (p : ByteArray) (x r : Int) (u : ByteArray) (v1 v2 : Value) (zs : List Int) (W : World) (h1 : IntsAt W v1 zs) (h2 : IntsAt W v2 zs) :
    Calls Tryz.prog 15 #[.agg #[.int .i64 b, .string p, .int .i64 x, .int .i64 r, .string u, v1], .agg #[.int .i64 b, .string p, .int .i64 x, .int .i64 r, .string u, v2]] W fun e W' => e = .returned (.bool true) ∧ Below W.heap.size W W' := by
  have a0 := (Six.new W 33 (.int .i64 b) (.string p) (.int .i64 x) (.int .i64 r) (.string u) v1).alloc (.cells #[.int .i64 b, .string p, .int .i64 x, .int .i64 r, .string u, v2] 33)
  have b0 := Six.new (W.alloc (.cells #[.int .i64 b, .string p, .int .i64 x, .int .i64 r, .string u, v1] 33)) 33 (.int .i64 b) (.string p) (.int .i64 x) (.int .i64 r) (.string u) v2
  rw [World.size_alloc] at b0
  have hb0 : Below W.heap.size W ((W.alloc (.cells #[.int .i64 b, .string p, .int .i64 x, .int .i64 r, .string u, v1] 33)).alloc (.cells #[.int .i64 b, .string p, .int .i64 x, .int .i64 r, .string u, v2] 33)) := ((Below.refl _ W).alloc (Nat.le_refl _) _).alloc (by simp) _
  have e1 : v1.cells = #[v1] := by obtain ⟨a, cap, rfl, _⟩ := h1; rfl
  have e2 : v2.cells = #[v2] := by obtain ⟨a, cap, rfl, _⟩ := h2; rfl
  go_enter Tryz.func15, Tryz.ntmps15
  go_wp2_with fail
  go_at_call 49
  refine (eq20 b p x r _).mono ?_
  rintro e W1 ⟨rfl, b1⟩
  have a1 := a0.below b1 a0.lt
  have c1 := b0.below b1 b0.lt
  have hb1 := hb0.trans (b1.mono hb0.size)
  have i1 := h1.below hb1
  have i2 := h2.below hb1
  obtain ⟨_, _, _, _, m4, m5⟩ := a1.cells
  obtain ⟨_, _, _, _, n4, n5⟩ := c1.cells
  clear a0 b0 hb0 b1 h1 h2
  go_wp2_with fail
  go_at_call 28
  refine (ieqI i1 i2).mono ?_
  rintro e W2 ⟨rfl, b2⟩
  have hb2 := hb1.trans (b2.mono hb1.size)
  go_wp2_with fail
  go_ret
  exact ⟨rfl, hb2⟩
set_option maxHeartbeats 2000000 in
theorem eqS57 {W : World} {v1 v2 : Value} {ls : List LineD} (h1 : LinesAt W v1 ls) (h2 : LinesAt W v2 ls) (hn : ls.length ≤ 1048576) :
    Calls Tryz.prog 21 #[v1, v2] W fun e W' => e = .returned (.bool true) ∧ Below W.heap.size W W' := by
  obtain ⟨a, c, rfl, _, _, q3⟩ := h1
  obtain ⟨a', c', rfl, _, _, r3⟩ := h2
  have hni : (ls.length : Int) ≤ 1048576 := by omega
  have hne : ((ls.length : Int) == (ls.length : Int)) = true := by simp
  go_enter Tryz.func21, Tryz.ntmps21
  go_wp2_with fail
  go_loopw [5] (fun i wr => ∃ k : Nat, k ≤ ls.length ∧ i = .int .i64 (k : Int) ∧ Below W.heap.size W wr) (fun i _ => ls.length - (intOf i).toNat)
  case atStart => exact ⟨0, by omega, rfl, Below.refl _ _⟩
  case round =>
    obtain ⟨k, hk, rfl, hB⟩ := hrel
    by_cases hlt : k < ls.length
    · have hlt2 : (k : Int) < (ls.length : Int) := by omega
      have hl : ls[k]? = some ls[k] := List.getElem?_eq_getElem hlt
      rcases q3 with q3 | ⟨g, off, rfl, q3⟩
      · rw [q3] at hlt; simp at hlt
      rcases r3 with r3 | ⟨g', off', rfl, r3⟩
      · rw [r3] at hlt; simp at hlt
      have hc := ((q3 k _ hl).below hB).below ((Below.refl _ wr).drew)
      have hd := ((r3 k _ hl).below hB).below ((Below.refl _ wr).drew)
      generalize ls[k] = l at hl hc hd
      obtain ⟨va, i1, c0, c1, c2, c3, c4, c5⟩ := line_cells hc
      obtain ⟨vb, i2, d0, d1, d2, d3, d4, d5⟩ := line_cells hd
      have e1 : va.cells = #[va] := by obtain ⟨a, cap, rfl, _⟩ := i1; rfl
      have e2 : vb.cells = #[vb] := by obtain ⟨a, cap, rfl, _⟩ := i2; rfl
      have hC := eqL53 l.t.b l.t.p l.t.x l.t.r l.rule va vb l.refs wr.drew i1 i2
      clear q3 r3 hc hd i1 i2
      go_wp2_with fail
      go_region_with (go_at_call 15; refine hC.mono ?_; rintro e W1 ⟨rfl, b1⟩)
      all_goals go_wp2_with fail
      all_goals go_roundw
      all_goals first
        | exact ⟨k + 1, by omega, by go_num, hB.trans (((Below.refl _ wr).drew.trans b1).mono hB.size)⟩
        | (simp [intOf]; omega)
    · have hkn : k = ls.length := by omega
      have hge : ¬ ((k : Int) < (ls.length : Int)) := by omega
      go_wp2_with fail
      go_ret
      exact ⟨rfl, hB⟩
end Go.Proofs.YtgdgbjnmibkmhaaGreatDoor

namespace Go.Proofs.YtgdgbjnmibkmhaaGreatDoor
open Go.ChangeShapes Go.WideShapes Go.ChangeAt Go.RowKit Go.Shelf
attribute [local go_sem] Oper.semAt_some
set_option maxRecDepth 100000

def wtT (ts : List Trip) : Nat := (ts.map fun T => T.p.size).sum
theorem wtT_succ {ts : List Trip} {k : Nat} {T : Trip} (h : ts[k]? = some T) : wtT (ts.take (k + 1)) = wtT (ts.take k) + T.p.size := by
  unfold wtT
  rw [List.take_add_one, h]
  simp
theorem wtT_take (ts : List Trip) (k : Nat) : wtT (ts.take k) ≤ wtT ts := by
  have : wtT ts = wtT (ts.take k) + wtT (ts.drop k) := by
    unfold wtT
    rw [← List.sum_append, ← List.map_append, List.take_append_drop]
  omega
set_option maxHeartbeats 2000000 in
theorem szT50 {W : World} {v : Value} {ts : List Trip} (h : TripsAt W v ts) (hs : ∀ T ∈ ts, T.p.size ≤ maxLen) (L : Int) (h0 : 0 ≤ L) (h1 : L ≤ 1048576) :
    Calls Tryz.prog 10 #[v, .int .i64 L] W fun e W' => e = .returned (.int .i64 (szOf (ts.length + wtT ts) L)) ∧ Below W.heap.size W W' := by
  obtain ⟨a, cap, rfl, q1, q2, q3⟩ := h
  unfold maxLen at q2
  have hm : (ts.length : Int) ≤ 9223372036854775807 := by omega
  by_cases hle : (ts.length : Int) ≤ L
  · have hn : ¬ (L - (ts.length : Int) < 0) := by omega
    have HF := Lib.hid (fun (k : Nat) (T : Trip) (hk : ts[k]? = some T) (hz : ¬ ((T.p.size : Int) ≤ L - ts.length - wtT (ts.take k))) => (show szOf (ts.length + wtT ts) L = -1 from by
      have h1 := wtT_succ hk
      have h2 := wtT_take ts (k + 1)
      unfold szOf
      rw [if_neg (by omega)]))
    have HE := Lib.hid (fun (hz : (wtT ts : Int) ≤ L - ts.length) => (show szOf (ts.length + wtT ts) L = L - ts.length - wtT ts from by
      unfold szOf
      rw [if_pos (by omega)]
      omega))
    generalize szOf (ts.length + wtT ts) L = res at HF HE ⊢
    go_enter Tryz.func10, Tryz.ntmps10
    go_wp2_with fail
    go_loopw [1, 5] (fun q i wr => ∃ k : Nat, k ≤ ts.length ∧ i = .int .i64 (k : Int) ∧ (wtT (ts.take k) : Int) ≤ L - ts.length ∧ q = .int .i64 (L - ts.length - wtT (ts.take k)) ∧ Below W.heap.size W wr) (fun _ i _ => ts.length - (intOf i).toNat)
    case atStart => exact ⟨0, by omega, rfl, by simp [wtT]; omega, by simp [wtT], Below.refl _ _⟩
    case round =>
      obtain ⟨k, hk, rfl, hw, rfl, hB⟩ := hrel
      by_cases hlt : k < ts.length
      · have hlt2 : (k : Int) < (ts.length : Int) := by omega
        have hl : ts[k]? = some ts[k] := List.getElem?_eq_getElem hlt
        rcases q3 with q3 | ⟨g, off, rfl, q3⟩
        · rw [q3] at hlt; simp at hlt
        have hsz := hs ts[k] (List.getElem_mem hlt)
        have hc := (q3 k _ hl).below hB
        have hF := HF.out k _ hl
        have hsucc := wtT_succ hl
        generalize ts[k] = T at hl hsz hc hF hsucc
        obtain ⟨c0, c1, c2, c3⟩ := hc
        have hC := fun (X : World) => sz12 T.b T.p T.x T.r (L - ts.length - wtT (ts.take k)) X (by omega) (by omega) hsz
        by_cases hfit : (T.p.size : Int) ≤ L - ts.length - wtT (ts.take k)
        · rw [if_pos hfit] at hC
          have hnn : ¬ (L - (ts.length : Int) - wtT (ts.take k) - T.p.size < 0) := by omega
          have HS := Lib.hid hsucc
          clear hsucc hF hsz
          go_wp2_with fail
          go_at_call 22
          refine (hC _).mono ?_
          rintro e W1 ⟨rfl, b1⟩
          go_wp2_with fail
          go_roundw
          case rel => exact ⟨k + 1, by omega, by go_num, by rw [HS.out]; omega, by rw [HS.out]; congr 1; omega, hB.trans (b1.mono hB.size)⟩
          case measure => simp [intOf]; omega
        · rw [if_neg hfit] at hC
          have hr := hF (by omega)
          clear hsucc hF hsz
          go_wp2_with fail
          go_at_call 22
          refine (hC _).mono ?_
          rintro e W1 ⟨rfl, b1⟩
          go_wp2_with fail
          go_ret
          exact ⟨by first | rfl | (rw [hr]; rfl), hB.trans (b1.mono hB.size)⟩
      · have hkn : k = ts.length := by omega
        have hge : ¬ ((k : Int) < (ts.length : Int)) := by omega
        have htk : ts.take k = ts := by rw [hkn, List.take_length]
        rw [htk] at hw ⊢
        have hr := HE.out hw
        go_wp2_with fail
        go_ret
        exact ⟨by first | rfl | (rw [hr]; rfl), hB⟩
  · have hn : L - (ts.length : Int) < 0 := by omega
    have hz : szOf (ts.length + wtT ts) L = -1 := by unfold szOf; rw [if_neg (by omega)]
    rw [hz]
    go_enter Tryz.func10, Tryz.ntmps10
    go_wp2
    go_ret
    exact ⟨rfl, Below.refl _ _⟩

/-! ### Copied -/
def BlkT (W : World) (g n : Nat) : Prop := ∃ arr, W.heap[g]? = some (.cells arr 31 (0, 0)) ∧ arr.size = n
theorem BlkT.lt {W : World} {g n : Nat} (h : BlkT W g n) : g < W.heap.size := by obtain ⟨arr, h, _⟩ := h; exact (Array.getElem?_eq_some_iff.1 h).1
theorem BlkT.below {W W' : World} {g n m : Nat} (h : BlkT W g n) (hb : Below m W W') (hg : g < m) : BlkT W' g n := by obtain ⟨arr, h, hs⟩ := h; exact ⟨arr, (hb.block g hg).trans h, hs⟩
theorem BlkT.set {W : World} {g n : Nat} (h : BlkT W g n) (i : Nat) (v : Value) : BlkT (W.setCell ⟨g, i, none⟩ v) g n := by
  obtain ⟨arr, h, hs⟩ := h
  exact ⟨_, heap_setCell_same W g i arr _ v h, by simpa using hs⟩
theorem BlkT.cell {W : World} {g n i : Nat} (h : BlkT W g n) (hi : i < n) : ∃ u, W.cell? ⟨g, i, none⟩ = some u := by
  obtain ⟨arr, h, hs⟩ := h
  exact ⟨arr[i]'(by omega), by rw [cell_of_row _ g i _ _ (0, 0) h]; exact Array.getElem?_eq_getElem _⟩
theorem BlkT.frozen {W : World} {g n : Nat} (h : BlkT W g n) (i : Nat) : W.frozen? ⟨g, i, none⟩ = false := by
  obtain ⟨arr, h, hs⟩ := h
  unfold World.frozen?
  rw [h]
  rfl
theorem blkT_here {W : World} {g n o : Nat} (h : BlkT W g n) (ho : o < n) (v : Value) : (W.setCell ⟨g, o, none⟩ v).cell? ⟨g, o, none⟩ = some v := by
  obtain ⟨u, hu⟩ := h.cell ho
  exact World.cell?_setCell_same _ _ _ hu
theorem TripCells.set {W : World} {g o i : Nat} {T : Trip} (h : TripCells W g o T) (hi : i < o ∨ o + 4 ≤ i) (v : Value) : TripCells (W.setCell ⟨g, i, none⟩ v) g o T :=
  ⟨keep_cell h.1 (by omega), keep_cell h.2.1 (by omega), keep_cell h.2.2.1 (by omega), keep_cell h.2.2.2 (by omega)⟩
theorem four_line {W : World} {g n o : Nat} {T : Trip} (hb : BlkT W g n) (ho : o + 4 ≤ n) :
    TripCells ((((W.setCell ⟨g, o, none⟩ (.int .i64 T.b)).setCell ⟨g, o + 1, none⟩ (.string T.p)).setCell ⟨g, o + 2, none⟩ (.int .i64 T.x)).setCell ⟨g, o + 3, none⟩ (.int .i64 T.r)) g o T := by
  have b0 := hb.set o (.int .i64 T.b)
  have b1 := b0.set (o + 1) (.string T.p)
  have b2 := b1.set (o + 2) (.int .i64 T.x)
  refine ⟨?_, ?_, ?_, ?_⟩
  · exact keep_cell (keep_cell (keep_cell (blkT_here hb (by omega) _) (by omega)) (by omega)) (by omega)
  · exact keep_cell (keep_cell (blkT_here b0 (by omega) _) (by omega)) (by omega)
  · exact keep_cell (blkT_here b1 (by omega) _) (by omega)
  · exact blkT_here b2 (by omega) _
theorem infoTrip : ((Tryz.prog.info? 31).bind fun i => i.zero.map fun z => (z.cells.size, i.size, i.bytes)) = some (4, 4, 40) := by kernel_rfl
set_option maxHeartbeats 4000000 in
theorem toT52 {W : World} {v : Value} {ts : List Trip} (h : TripsAt W v ts) (hn : ts.length ≤ 1048576) :
    Calls Tryz.prog 13 #[v] W fun e W' => e = .returned (.slice (some ⟨W.heap.size, 0, none⟩) ts.length ts.length) ∧ TripsAt W' (.slice (some ⟨W.heap.size, 0, none⟩) ts.length ts.length) ts ∧ Below W.heap.size W W' := by
  obtain ⟨a, cap, rfl, q1, q2, q3⟩ := h
  unfold maxLen at q2
  obtain ⟨il, z, hi, hz, hzs, his, hby⟩ : ∃ il z, Tryz.prog.info? 31 = some il ∧ il.zero = some z ∧ z.cells.size = 4 ∧ il.size = 4 ∧ il.bytes = 40 := by
    have := infoTrip
    cases hi : Tryz.prog.info? 31 with
    | none => rw [hi] at this; cases this
    | some il =>
      rw [hi] at this
      cases hz : il.zero with
      | none => simp [hz] at this
      | some z =>
        simp [hz] at this
        exact ⟨il, z, rfl, hz, this.1, this.2.1, this.2.2⟩
  have hmk := run_make (P := Tryz.prog) W 35 31 il z Tryz.underlying35 hi hz .i64 .i64 (ts.length : Int) (ts.length : Int) (by omega) (Int.le_refl _) (by rw [hby]; omega) (by omega)
  rw [Int.toNat_natCast, his] at hmk
  have hB0 : BlkT (W.alloc (.cells (madeCells z.cells (ts.length * 4)) 31)) W.heap.size (ts.length * 4) := ⟨_, heap_alloc_new W _, size_madeCells _ _⟩
  have hW0 : Below W.heap.size W (W.alloc (.cells (madeCells z.cells (ts.length * 4)) 31)) := (Below.refl _ W).alloc (Nat.le_refl _) _
  have hni : (ts.length : Int) ≤ 1048576 := by omega
  clear hi hz hzs his hby
  obtain ⟨g, hg⟩ : ∃ g, g = W.heap.size := ⟨_, rfl⟩
  rw [← hg] at hmk hB0 hW0 ⊢
  have HGs := Lib.hid hg
  clear hg
  generalize W.alloc (.cells (madeCells z.cells (ts.length * 4)) 31) = W1 at hmk hB0 hW0
  go_enter Tryz.func13, Tryz.ntmps13
  go_wp2_with fail
  clear hmk
  go_loopw [4] (fun i wr => ∃ k : Nat, k ≤ ts.length ∧ i = .int .i64 (k : Int) ∧ BlkT wr g (ts.length * 4) ∧ (∀ (j : Nat) T, j < k → ts[j]? = some T → TripCells wr g (j * 4) T) ∧ Below g W wr) (fun i _ => ts.length - (intOf i).toNat)
  case atStart => exact ⟨0, by omega, rfl, hB0, fun j l hj => by omega, hW0⟩
  case round =>
    obtain ⟨k, hk, rfl, hBk, hO, hB⟩ := hrel
    by_cases hlt : k < ts.length
    · have hlt2 : (k : Int) < (ts.length : Int) := by omega
      have hl : ts[k]? = some ts[k] := List.getElem?_eq_getElem hlt
      rcases q3 with q3 | ⟨b, off, rfl, q3⟩
      · rw [q3] at hlt; simp at hlt
      have hc := (q3 k _ hl).below (show Below W.heap.size W wr by rw [← HGs.out]; exact hB)
      generalize ts[k] = T at hl hc
      obtain ⟨c0, c1, c2, c3⟩ := hc
      have hgk := hBk.lt
      go_wp2_with fail
      go_at_call 24
      refine (to14 T.b T.p T.x T.r _).mono ?_
      rintro e W2 ⟨rfl, b2⟩
      have hk4 : k * 4 + 4 ≤ ts.length * 4 := by omega
      have hB2 := hBk.below b2 hgk
      have hO2 := fun (j : Nat) T' (hj : j < k) (hl' : ts[j]? = some T') => (hO j T' hj hl').below b2
      have hBW := hB.trans (b2.mono (Nat.le_of_lt hgk))
      obtain ⟨u0, y0⟩ := hB2.cell (i := k * 4) (by omega)
      obtain ⟨u1, y1⟩ := hB2.cell (i := k * 4 + 1) (by omega)
      obtain ⟨u2, y2⟩ := hB2.cell (i := k * 4 + 2) (by omega)
      obtain ⟨u3, y3⟩ := hB2.cell (i := k * 4 + 3) (by omega)
      have f0 := hB2.frozen (k * 4)
      have f1 := hB2.frozen (k * 4 + 1)
      have f2 := hB2.frozen (k * 4 + 2)
      have f3 := hB2.frozen (k * 4 + 3)
      have HX := Lib.hid (And.intro hB2 (And.intro hO2 hBW))
      clear hBk hO hB b2 c0 c1 c2 c3 hB2 hO2 hBW q3
      go_wp2_with fail
      go_roundw
      case rel =>
        obtain ⟨hB2, hO2, hBW⟩ := HX.out
        refine ⟨k + 1, by omega, by go_num, (((hB2.set _ _).set _ _).set _ _).set _ _, fun j T' hj hl' => ?_, below_cell (below_cell (below_cell (below_cell hBW (Nat.le_refl _) _) (Nat.le_refl _) _) (Nat.le_refl _) _) (Nat.le_refl _) _⟩
        by_cases he : j = k
        · subst he
          rw [hl] at hl'
          cases hl'
          exact four_line hB2 hk4
        · exact ((((hO2 j T' (by omega) hl').set (i := k * 4) (by omega) _).set (i := k * 4 + 1) (by omega) _).set (i := k * 4 + 2) (by omega) _).set (i := k * 4 + 3) (by omega) _
      case measure => simp [intOf]; omega
    · have hkn : k = ts.length := by omega
      have hge : ¬ ((k : Int) < (ts.length : Int)) := by omega
      go_wp2_with fail
      go_ret
      exact ⟨rfl, ⟨_, _, rfl, Nat.le_refl _, by unfold maxLen; omega, .inr ⟨g, 0, rfl, fun j T hl => by rw [Nat.zero_add]; exact hO j T (by have := (List.getElem?_eq_some_iff.1 hl).1; omega) hl⟩⟩, hB⟩
/-! ### Compared -/
set_option maxHeartbeats 2000000 in
theorem eqT54 {W : World} {v1 v2 : Value} {ts : List Trip} (h1 : TripsAt W v1 ts) (h2 : TripsAt W v2 ts) (hn : ts.length ≤ 1048576) :
    Calls Tryz.prog 16 #[v1, v2] W fun e W' => e = .returned (.bool true) ∧ Below W.heap.size W W' := by
  obtain ⟨a, c, rfl, _, _, q3⟩ := h1
  obtain ⟨a', c', rfl, _, _, r3⟩ := h2
  have hni : (ts.length : Int) ≤ 1048576 := by omega
  have hne : ((ts.length : Int) == (ts.length : Int)) = true := by simp
  go_enter Tryz.func16, Tryz.ntmps16
  go_wp2_with fail
  go_loopw [5] (fun i wr => ∃ k : Nat, k ≤ ts.length ∧ i = .int .i64 (k : Int) ∧ Below W.heap.size W wr) (fun i _ => ts.length - (intOf i).toNat)
  case atStart => exact ⟨0, by omega, rfl, Below.refl _ _⟩
  case round =>
    obtain ⟨k, hk, rfl, hB⟩ := hrel
    by_cases hlt : k < ts.length
    · have hlt2 : (k : Int) < (ts.length : Int) := by omega
      have hl : ts[k]? = some ts[k] := List.getElem?_eq_getElem hlt
      rcases q3 with q3 | ⟨g, off, rfl, q3⟩
      · rw [q3] at hlt; simp at hlt
      rcases r3 with r3 | ⟨g', off', rfl, r3⟩
      · rw [r3] at hlt; simp at hlt
      have hc := ((q3 k _ hl).below hB).below ((Below.refl _ wr).drew)
      have hd := ((r3 k _ hl).below hB).below ((Below.refl _ wr).drew)
      generalize ts[k] = T at hl hc hd
      obtain ⟨c0, c1, c2, c3⟩ := hc
      obtain ⟨d0, d1, d2, d3⟩ := hd
      have hC := eq20 T.b T.p T.x T.r wr.drew
      clear q3 r3
      go_wp2_with fail
      go_region_with (go_at_call 49; refine hC.mono ?_; rintro e W1 ⟨rfl, b1⟩)
      all_goals go_wp2_with fail
      all_goals go_roundw
      all_goals first
        | exact ⟨k + 1, by omega, by go_num, hB.trans (((Below.refl _ wr).drew.trans b1).mono hB.size)⟩
        | (simp [intOf]; omega)
    · have hkn : k = ts.length := by omega
      have hge : ¬ ((k : Int) < (ts.length : Int)) := by omega
      go_wp2_with fail
      go_ret
      exact ⟨rfl, hB⟩
end Go.Proofs.YtgdgbjnmibkmhaaGreatDoor
