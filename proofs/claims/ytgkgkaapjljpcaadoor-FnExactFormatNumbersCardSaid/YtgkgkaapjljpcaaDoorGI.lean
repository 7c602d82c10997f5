/- Lists of integers that a call made: compared, marked and read again by the laws' own helpers. -/
import Derived.Test.YtgkgkaapjljpcaaDoorCutS
import Derived.Test.YtgkgkaapjljpcaaDoorGA
namespace Go.Proofs.YtgkgkaapjljpcaaDoor
open Go.ChangeShapes Go.WideShapes Go.ChangeAt Go.RowKit

set_option maxRecDepth 100000
/-- A slice of a call's own (blocks from B on) with just these integers. -/
def IRow (W : World) (B : Nat) (v : Value) (zs : List Int) : Prop := W.ownsRow B 3 1 v zs.length (zs.map (Value.int .i64))

theorem IRow.below {W W' : World} {B : Nat} {v : Value} {zs : List Int} (h : IRow W B v zs) (hb : Below W.heap.size W W') : IRow W' B v zs := by
  obtain ⟨h1, h2⟩ := h
  refine ⟨h1, ?_⟩
  rcases h2 with h2 | ⟨g, cap, cur, a, b, c, d⟩
  · exact .inl h2
  · exact .inr ⟨g, cap, cur, a, b, by rw [hb.block g (Array.getElem?_eq_some_iff.1 c).1]; exact c, d⟩
theorem IRow.mono {W : World} {B B' : Nat} {v : Value} {zs : List Int} (h : IRow W B v zs) (hB : B' ≤ B) : IRow W B' v zs := by
  obtain ⟨h1, h2⟩ := h
  refine ⟨h1, ?_⟩
  rcases h2 with h2 | ⟨g, cap, cur, a, b, c⟩
  · exact .inl h2
  · exact .inr ⟨g, cap, cur, a, Nat.le_trans hB b, c⟩
/-- Nil, or at the head of a block. -/
theorem IRow.cases {W : World} {B : Nat} {v : Value} {zs : List Int} (h : IRow W B v zs) : (v = .slice none 0 0 ∧ zs = []) ∨ ∃ g cap, v = .slice (some ⟨g, 0, none⟩) zs.length cap ∧ B ≤ g ∧ g < W.heap.size ∧ zs.length ≤ maxLen := by
  obtain ⟨h1, h2⟩ := h
  rcases h2 with ⟨rfl, h0⟩ | ⟨g, cap, cur, rfl, hb, hg, hn, hm, _⟩
  · exact .inl ⟨rfl, List.length_eq_zero_iff.1 h0⟩
  · exact .inr ⟨g, cap, rfl, hb, (Array.getElem?_eq_some_iff.1 hg).1, Nat.le_trans hn hm⟩
theorem IRow.cell {W : World} {B g cap : Nat} {zs : List Int} (h : IRow W B (.slice (some ⟨g, 0, none⟩) zs.length cap) zs) (i : Nat) (hi : i < zs.length) : W.cell? ⟨g, i, none⟩ = some (.int .i64 (zs[i]?.getD 0)) := by
  have := World.ownsRow.cellAt h i (by omega)
  rw [this]
  simp [hi]

theorem ieq29nil (W : World) (a b : Option Addr) (c d : Nat) :
    Calls Tryd.prog 21 #[.slice a 0 c, .slice b 0 d] W fun e w' => e = .returned (.bool true) ∧ Below W.heap.size W w' := by
  go_enter Tryd.func21, Tryd.ntmps21
  go_wp2
  go_loop [5] (fun i => i = .int .i64 0) (fun _ => 0)
  case atStart => rfl
  case round =>
    obtain rfl := hrel
    go_wp2
    go_ret
    exact ⟨rfl, Below.refl _ _⟩

set_option maxHeartbeats 1000000 in
theorem ieq29row (W : World) (g h c d : Nat) (zs : List Int) (hm : zs.length ≤ maxLen)
    (hx : ∀ i, i < zs.length → W.cell? ⟨g, i, none⟩ = some (.int .i64 (zs[i]?.getD 0))) (hy : ∀ i, i < zs.length → W.cell? ⟨h, i, none⟩ = some (.int .i64 (zs[i]?.getD 0))) :
    Calls Tryd.prog 21 #[.slice (some ⟨g, 0, none⟩) zs.length c, .slice (some ⟨h, 0, none⟩) zs.length d] W fun e w' => e = .returned (.bool true) ∧ Below W.heap.size W w' := by
  unfold maxLen at hm
  have HX := Lib.hid hx
  have HY := Lib.hid hy
  clear hx hy
  go_enter Tryd.func21, Tryd.ntmps21
  go_wp2
  go_loopw [5] (fun i wr => ∃ k : Nat, k ≤ zs.length ∧ i = .int .i64 k ∧ Below W.heap.size W wr ∧ ∀ a, wr.cell? a = W.cell? a) (fun i _ => zs.length - (intOf i).toNat)
  case atStart => exact ⟨0, by omega, rfl, Below.refl _ _, fun _ => rfl⟩
  case round =>
    obtain ⟨k, hk, rfl, hB, hs⟩ := hrel
    by_cases hlt : k < zs.length
    · have c1 : wr.cell? ⟨g, k, none⟩ = some (.int .i64 (zs[k]?.getD 0)) := (hs _).trans (HX.out k hlt)
      have c2 : wr.cell? ⟨h, k, none⟩ = some (.int .i64 (zs[k]?.getD 0)) := (hs _).trans (HY.out k hlt)
      have HS := Lib.hid hs
      clear hs
      go_wp2
      go_quiet (fail)
      go_wp2
      go_roundw
      case rel => exact ⟨k + 1, by omega, by go_num, below_drewN hB _, fun a => HS.out a⟩
      case measure => simp [intOf]; omega
    · have e : k = zs.length := by omega
      clear hlt hk
      subst e
      go_wp2
      go_ret
      exact ⟨rfl, hB⟩

theorem ieq29 {W : World} {B1 B2 : Nat} {v1 v2 : Value} {zs : List Int} (h1 : IRow W B1 v1 zs) (h2 : IRow W B2 v2 zs) :
    Calls Tryd.prog 21 #[v1, v2] W fun e w' => e = .returned (.bool true) ∧ Below W.heap.size W w' := by
  rcases h1.cases with ⟨rfl, h0⟩ | ⟨g, cap, rfl, _, _, hm⟩
  · subst h0
    rcases h2.cases with ⟨rfl, _⟩ | ⟨g', cap', rfl, _, _, hm⟩
    · exact ieq29nil W _ _ _ _
    · exact ieq29nil W _ _ _ _
  · rcases h2.cases with ⟨rfl, h0⟩ | ⟨g', cap', rfl, _, _, _⟩
    · subst h0
      exact ieq29nil W _ _ _ _
    · exact ieq29row W g g' cap cap' zs hm h1.cell h2.cell

/-- The imarks that are laid: k, k + 1 and so on, in the first i places. -/
def imk (k : Int) (zs : List Int) (i : Nat) : List Int := (List.range i).map (fun j : Nat => k + (j : Int)) ++ zs.drop i
theorem imk_zero (k : Int) (zs : List Int) : imk k zs 0 = zs := by simp [imk]
theorem imk_len (k : Int) (zs : List Int) (i : Nat) (h : i ≤ zs.length) : (imk k zs i).length = zs.length := by simp [imk]; omega
theorem imk_set (k : Int) (zs : List Int) (i : Nat) (h : i < zs.length) : (imk k zs i).set i (k + (i : Int)) = imk k zs (i + 1) := by
  unfold imk
  rw [List.set_append_right _ _ (by simp), List.range_succ, List.map_append, List.append_assoc]
  congr 1
  rw [List.length_map, List.length_range, Nat.sub_self]
  cases hd : zs.drop i with
  | nil => have := List.drop_eq_nil_iff.1 hd; omega
  | cons z t =>
    have ht : t = zs.drop (i + 1) := by rw [← List.drop_drop, hd]; rfl
    rw [ht]; rfl
theorem imk_full (k : Int) (zs : List Int) : imk k zs zs.length = (List.range zs.length).map (fun j : Nat => k + (j : Int)) := by simp [imk]


theorem IRow.stored {W : World} {B g cap : Nat} {zs : List Int} {n : Nat} (hn : zs.length = n) (h : IRow W B (.slice (some ⟨g, 0, none⟩) n cap) zs) (i : Nat) (u : Int) :
    IRow (W.setCell ⟨g, i, none⟩ (.int .i64 u)) B (.slice (some ⟨g, 0, none⟩) n cap) (zs.set i u) ∧ W.grownBy (W.setCell ⟨g, i, none⟩ (.int .i64 u)) (some g) := by
  subst hn
  have := World.ownsRow.stored h i (.int .i64 u)
  refine ⟨?_, this.2⟩
  unfold IRow
  rw [List.length_set, List.map_set]
  exact this.1
theorem IRow.cellN {W : World} {B g cap n : Nat} {zs : List Int} (hn : zs.length = n) (h : IRow W B (.slice (some ⟨g, 0, none⟩) n cap) zs) (i : Nat) (hi : i < n) : W.cell? ⟨g, i, none⟩ = some (.int .i64 (zs[i]?.getD 0)) := by
  subst hn; exact h.cell i hi
theorem IRow.frozen {W : World} {B g cap n : Nat} {zs : List Int} (hn : zs.length = n) (h : IRow W B (.slice (some ⟨g, 0, none⟩) n cap) zs) (i : Nat) : W.frozen? ⟨g, i, none⟩ = false := by
  subst hn; exact World.ownsRow.frozenAt h i

theorem igrown_refl (W : World) (row : Option Nat) : W.grownBy W row := ⟨rfl, rfl, rfl, Nat.le_refl _, fun _ _ _ => rfl⟩
theorem igrown_trans {A B C : World} {row : Option Nat} (h : A.grownBy B row) (k : B.grownBy C row) : A.grownBy C row :=
  ⟨k.os.trans h.os, k.tape.trans h.tape, k.output.trans h.output, Nat.le_trans h.size k.size, fun i hi hr => (k.block i (Nat.lt_of_lt_of_le hi h.size) hr).trans (h.block i hi hr)⟩

theorem imk_step {W wr : World} {B g cap : Nat} {k : Int} {zs : List Int} {i : Nat} (hi : i < zs.length) (hr : IRow wr B (.slice (some ⟨g, 0, none⟩) zs.length cap) (imk k zs i)) (hg : W.grownBy wr (some g)) :
    IRow (wr.setCell ⟨g, i, none⟩ (.int .i64 (k + (i : Int)))) B (.slice (some ⟨g, 0, none⟩) zs.length cap) (imk k zs (i + 1)) ∧ W.grownBy (wr.setCell ⟨g, i, none⟩ (.int .i64 (k + (i : Int)))) (some g) := by
  have h := IRow.stored (imk_len k zs i (by omega)) hr i (k + (i : Int))
  rw [imk_set k zs i hi] at h
  exact ⟨h.1, igrown_trans hg h.2⟩




/-- The imarks: 1, 2 and so on. -/
def imarks (n : Nat) : List Int := (List.range n).map (fun j : Nat => 1 + (j : Int))
theorem imarks_len (n : Nat) : (imarks n).length = n := by simp [imarks]



theorem IRow.kept {W W' : World} {B : Nat} {v : Value} {zs : List Int} {row : Option Nat} (h : IRow W B v zs) (hg : W.grownBy W' row) (hne : v.ownBlock = none ∨ v.ownBlock ≠ row) : IRow W' B v zs := World.ownsRow.kept h hg hne
/-- Two rows of two calls, one behind the other, lie apart. -/
theorem IRow.apart {W W1 : World} {B : Nat} {v v1 : Value} {zs zs1 : List Int} (h : IRow W B v zs) (h1 : IRow W1 W.heap.size v1 zs1) : v.ownBlock = none ∨ v.ownBlock ≠ v1.ownBlock := by
  rcases h.cases with ⟨rfl, _⟩ | ⟨g, cap, rfl, _, hlt, _⟩
  · exact .inl rfl
  · rcases h1.cases with ⟨rfl, _⟩ | ⟨g', cap', rfl, hge, _, _⟩
    · exact .inr (by simp [Value.ownBlock])
    · exact .inr (by simp [Value.ownBlock]; omega)
theorem IRow.belowOf {W W' : World} {B : Nat} {v : Value} {zs : List Int} (h : IRow W B v zs) (hg : W.grownBy W' v.ownBlock) (hB : B ≤ W.heap.size) {A : World} (hA : Below B A W) : Below B A W' :=
  hA.grown hg hB (fun k e => by
    rcases h.cases with ⟨rfl, _⟩ | ⟨g, cap, rfl, hb, _, _⟩
    · simp [Value.ownBlock] at e
    · simp [Value.ownBlock] at e; omega)

end Go.Proofs.YtgkgkaapjljpcaaDoor

