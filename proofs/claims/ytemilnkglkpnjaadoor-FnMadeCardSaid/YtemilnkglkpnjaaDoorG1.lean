/- Lists of texts that a call made: compared, marked and read again by the laws' own helpers. -/
import Derived.Test.YtemilnkglkpnjaaDoorT7
namespace Go.Proofs.YtemilnkglkpnjaaDoor
open Go.ChangeShapes Go.WideShapes Go.ChangeAt Go.RowKit Go.Shelf

set_option maxRecDepth 100000
/-- A slice of a call's own (blocks from B on) with just these texts. -/
def TRow (W : World) (B : Nat) (v : Value) (ws : List (List UInt8)) : Prop := W.ownsRow B 9 1 v ws.length (texts ws)
theorem TRow.below {W W' : World} {B : Nat} {v : Value} {ws : List (List UInt8)} (h : TRow W B v ws) (hb : Below W.heap.size W W') : TRow W' B v ws := by
  refine World.ownsRow.kept (row := none) h ⟨hb.os, hb.tape, hb.output, hb.size, fun i hi _ => hb.block i hi⟩ ?_
  cases ho : v.ownBlock with
  | none => exact .inl rfl
  | some b => exact .inr (by simp)
theorem TRow.kept {W W' : World} {B : Nat} {v : Value} {ws : List (List UInt8)} {row : Option Nat} (h : TRow W B v ws) (hg : W.grownBy W' row) (hne : v.ownBlock = none ∨ v.ownBlock ≠ row) : TRow W' B v ws := World.ownsRow.kept h hg hne
theorem TRow.cases {W : World} {B : Nat} {v : Value} {ws : List (List UInt8)} (h : TRow W B v ws) : (v = .slice none 0 0 ∧ ws = []) ∨ ∃ g cap, v = .slice (some ⟨g, 0, none⟩) ws.length cap ∧ B ≤ g ∧ g < W.heap.size ∧ ws.length ≤ maxLen := by
  obtain ⟨h1, h2⟩ := h
  rcases h2 with ⟨rfl, h0⟩ | ⟨g, cap, cur, rfl, hb, hg, hn, hm, _⟩
  · exact .inl ⟨rfl, List.length_eq_zero_iff.1 h0⟩
  · exact .inr ⟨g, cap, rfl, hb, (Array.getElem?_eq_some_iff.1 hg).1, Nat.le_trans hn hm⟩
theorem TRow.cell {W : World} {B g cap n : Nat} {ws : List (List UInt8)} (hn : ws.length = n) (h : TRow W B (.slice (some ⟨g, 0, none⟩) n cap) ws) (i : Nat) (hi : i < n) : W.cell? ⟨g, i, none⟩ = some (.string ⟨(ws[i]?.getD []).toArray⟩) := by
  subst hn
  have := World.ownsRow.cellAt h i (by omega)
  rw [this]
  simp [texts, hi]
theorem TRow.frozen {W : World} {B g cap n : Nat} {ws : List (List UInt8)} (hn : ws.length = n) (h : TRow W B (.slice (some ⟨g, 0, none⟩) n cap) ws) (i : Nat) : W.frozen? ⟨g, i, none⟩ = false := by
  subst hn; exact World.ownsRow.frozenAt h i
theorem TRow.stored {W : World} {B g cap : Nat} {ws : List (List UInt8)} {n : Nat} (hn : ws.length = n) (h : TRow W B (.slice (some ⟨g, 0, none⟩) n cap) ws) (i : Nat) (u : List UInt8) :
    TRow (W.setCell ⟨g, i, none⟩ (.string ⟨u.toArray⟩)) B (.slice (some ⟨g, 0, none⟩) n cap) (ws.set i u) ∧ W.grownBy (W.setCell ⟨g, i, none⟩ (.string ⟨u.toArray⟩)) (some g) := by
  subst hn
  have := World.ownsRow.stored h i (.string ⟨u.toArray⟩)
  refine ⟨?_, this.2⟩
  unfold TRow texts
  rw [List.length_set, List.map_set]
  exact this.1
theorem TRow.apart {W W1 : World} {B : Nat} {v v1 : Value} {ws ws1 : List (List UInt8)} (h : TRow W B v ws) (h1 : TRow W1 W.heap.size v1 ws1) : v.ownBlock = none ∨ v.ownBlock ≠ v1.ownBlock := by
  rcases h.cases with ⟨rfl, _⟩ | ⟨g, cap, rfl, _, hlt, _⟩
  · exact .inl rfl
  · rcases h1.cases with ⟨rfl, _⟩ | ⟨g', cap', rfl, hge, _, _⟩
    · exact .inr (by simp [Value.ownBlock])
    · exact .inr (by simp [Value.ownBlock]; omega)
theorem TRow.belowOf {W W' : World} {B : Nat} {v : Value} {ws : List (List UInt8)} (h : TRow W B v ws) (hg : W.grownBy W' v.ownBlock) (hB : B ≤ W.heap.size) {A : World} (hA : Below B A W) : Below B A W' :=
  hA.grown hg hB (fun k e => by
    rcases h.cases with ⟨rfl, _⟩ | ⟨g, cap, rfl, hb, _, _⟩
    · simp [Value.ownBlock] at e
    · simp [Value.ownBlock] at e; omega)

theorem teq29nil (W : World) (a b : Option Addr) (c d : Nat) :
    Calls Tryd.prog 35 #[.slice a 0 c, .slice b 0 d] W fun e w' => e = .returned (.bool true) ∧ Below W.heap.size W w' := by
  go_enter Tryd.func35, Tryd.ntmps35
  go_wp2
  go_loop [5] (fun i => i = .int .i64 0) (fun _ => 0)
  case atStart => rfl
  case round =>
    obtain rfl := hrel
    go_wp2
    go_ret
    exact ⟨rfl, Below.refl _ _⟩

set_option maxHeartbeats 1000000 in
theorem teq29row (W : World) (g h c d : Nat) (ws : List (List UInt8)) (hm : ws.length ≤ maxLen)
    (hx : ∀ i, i < ws.length → W.cell? ⟨g, i, none⟩ = some (.string ⟨(ws[i]?.getD []).toArray⟩)) (hy : ∀ i, i < ws.length → W.cell? ⟨h, i, none⟩ = some (.string ⟨(ws[i]?.getD []).toArray⟩)) :
    Calls Tryd.prog 35 #[.slice (some ⟨g, 0, none⟩) ws.length c, .slice (some ⟨h, 0, none⟩) ws.length d] W fun e w' => e = .returned (.bool true) ∧ Below W.heap.size W w' := by
  unfold maxLen at hm
  have HX := Lib.hid hx
  have HY := Lib.hid hy
  clear hx hy
  go_enter Tryd.func35, Tryd.ntmps35
  go_wp2
  go_loopw [5] (fun i wr => ∃ k : Nat, k ≤ ws.length ∧ i = .int .i64 k ∧ Below W.heap.size W wr ∧ ∀ a, wr.cell? a = W.cell? a) (fun i _ => ws.length - (intOf i).toNat)
  case atStart => exact ⟨0, by omega, rfl, Below.refl _ _, fun _ => rfl⟩
  case round =>
    obtain ⟨k, hk, rfl, hB, hs⟩ := hrel
    by_cases hlt : k < ws.length
    · obtain ⟨p, hp⟩ : ∃ p, p = ws[k]?.getD [] := ⟨_, rfl⟩
      have c1 : wr.cell? ⟨g, k, none⟩ = some (.string ⟨p.toArray⟩) := by rw [hs, HX.out k hlt, hp]
      have c2 : wr.cell? ⟨h, k, none⟩ = some (.string ⟨p.toArray⟩) := by rw [hs, HY.out k hlt, hp]
      have HS := Lib.hid hs
      clear hs hp
      go_wp2
      go_quiet (fail)
      go_wp2
      go_roundw
      case rel => exact ⟨k + 1, by omega, by go_num, below_drewN hB _, fun a => HS.out a⟩
      case measure => simp [intOf]; omega
    · have e : k = ws.length := by omega
      clear hlt hk
      subst e
      go_wp2
      go_ret
      exact ⟨rfl, hB⟩

theorem teq29 {W : World} {B1 B2 : Nat} {v1 v2 : Value} {ws : List (List UInt8)} (h1 : TRow W B1 v1 ws) (h2 : TRow W B2 v2 ws) :
    Calls Tryd.prog 35 #[v1, v2] W fun e w' => e = .returned (.bool true) ∧ Below W.heap.size W w' := by
  rcases h1.cases with ⟨rfl, h0⟩ | ⟨g, cap, rfl, _, _, hm⟩
  · subst h0
    rcases h2.cases with ⟨rfl, _⟩ | ⟨g', cap', rfl, _, _, hm⟩
    · exact teq29nil W _ _ _ _
    · exact teq29nil W _ _ _ _
  · rcases h2.cases with ⟨rfl, h0⟩ | ⟨g', cap', rfl, _, _, _⟩
    · subst h0
      exact teq29nil W _ _ _ _
    · exact teq29row W g g' cap cap' ws hm (h1.cell rfl) (h2.cell rfl)

/-- The text of a mark below 100. -/
def markT (k : Nat) : List UInt8 := if k = 0 then [109, 48] else if k < 10 then [109, UInt8.ofNat (48 + k)] else [109, UInt8.ofNat (48 + k / 10), UInt8.ofNat (48 + k % 10)]
end Go.Proofs.YtemilnkglkpnjaaDoor

