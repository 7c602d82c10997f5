/- Chapter 6, the laws' own helpers on lists of lines: their size, their copy, two of them compared. -/
import Derived.Test.YtgdgbjnmibkmhaaGreatDoorHL
namespace Go.Proofs.YtgdgbjnmibkmhaaGreatDoor
open Go.ChangeShapes Go.WideShapes Go.ChangeAt Go.RowKit Go.Shelf
attribute [local go_sem] Oper.semAt_some
set_option maxRecDepth 100000

/-! ### Sizes -/
theorem szI108 {W : World} {v : Value} {zs : List Int} (h : IntsAt W v zs) (L : Int) (h0 : 0 ≤ L) (h1 : L ≤ 1048576) :
    Calls Tryz.prog 37 #[v, .int .i64 L] W fun e W' => e = .returned (.int .i64 (if (zs.length : Int) ≤ L then L - zs.length else -1)) ∧ Below W.heap.size W W' := by
  obtain ⟨a, cap, rfl, q1, q2, _⟩ := h
  unfold maxLen at q2
  have hm : (zs.length : Int) ≤ 9223372036854775807 := by omega
  by_cases hle : (zs.length : Int) ≤ L
  · rw [if_pos hle]
    have hn : ¬ (L - (zs.length : Int) < 0) := by omega
    go_enter Tryz.func37, Tryz.ntmps37
    go_wp2
    go_ret
    exact ⟨rfl, Below.refl _ _⟩
  · rw [if_neg hle]
    have hn : L - (zs.length : Int) < 0 := by omega
    go_enter Tryz.func37, Tryz.ntmps37
    go_wp2
    go_ret
    exact ⟨rfl, Below.refl _ _⟩
def szOf (n : Nat) (L : Int) : Int := if (n : Int) ≤ L then L - n else -1
set_option maxHeartbeats 2000000 in
theorem szL49 (b : Int) (p : ByteArray) (x r : Int) (u : ByteArray) (v : Value) (zs : List Int) (W : World) (hI : IntsAt W v zs) (hp : p.size ≤ maxLen) (hu : u.size ≤ maxLen) (L : Int) (h0 : 0 ≤ L) (h1 : L ≤ 1048576) :
    Calls Tryz.prog 9 #[.agg #[.int .i64 b, .string p, .int .i64 x, .int .i64 r, .string u, v], .int .i64 L] W fun e W' => e = .returned (.int .i64 (szOf (p.size + u.size + zs.length) L)) ∧ Below W.heap.size W W' := by
  unfold maxLen at hp hu
  have a0 := Six.new W 26 (.int .i64 b) (.string p) (.int .i64 x) (.int .i64 r) (.string u) v
  have hb0 : Below W.heap.size W (W.alloc (.cells #[.int .i64 b, .string p, .int .i64 x, .int .i64 r, .string u, v] 26)) := (Below.refl _ W).alloc (Nat.le_refl _) _
  have hs := fun X => sz12 b p x r L X h0 h1 hp
  have hcp : v.cells = #[v] := by obtain ⟨a, cap, rfl, _⟩ := hI; rfl
  by_cases hA : (p.size : Int) ≤ L
  · rw [if_pos hA] at hs
    have hn1 : ¬ (L - (p.size : Int) < 0) := by omega
    by_cases hB : (u.size : Int) ≤ L - p.size
    · have hn2 : ¬ (L - (p.size : Int) - (u.size : Int) < 0) := by omega
      have hz : szOf (p.size + u.size + zs.length) L = if (zs.length : Int) ≤ L - p.size - u.size then L - p.size - u.size - zs.length else -1 := by
        unfold szOf
        split <;> split <;> omega
      rw [hz]
      have hui : (u.size : Int) ≤ 9223372036854775807 := by omega
      have hS := fun (X : World) (hX : IntsAt X v zs) => szI108 hX (L - p.size - u.size) (by omega) (by omega)
      have hz3 : (if (zs.length : Int) ≤ L - p.size - u.size then L - p.size - u.size - zs.length else -1) < 0 ∨ ¬ (if (zs.length : Int) ≤ L - p.size - u.size then L - p.size - u.size - zs.length else -1) < 0 := by omega
      have hm1 : ¬ ((zs.length : Int) ≤ L - p.size - u.size) → (if (zs.length : Int) ≤ L - p.size - u.size then L - p.size - u.size - zs.length else -1) = -1 := fun h => if_neg h
      generalize hk : (if (zs.length : Int) ≤ L - p.size - u.size then L - p.size - u.size - zs.length else -1) = k at *
      have hk1 : k < 0 → k = -1 := fun h => by
        rw [← hk] at h ⊢
        split at h
        · omega
        · rename_i h2; rw [if_neg h2]
      clear hk hm1 hz
      go_enter Tryz.func9, Tryz.ntmps9
      go_wp2_with fail
      go_at_call 22
      refine (hs _).mono ?_
      rintro e W1 ⟨rfl, b1⟩
      have a1 := a0.below b1 a0.lt
      have hb1 := hb0.trans (b1.mono hb0.size)
      have hI1 := hI.below hb1
      obtain ⟨_, _, _, _, c4, c5⟩ := a1.cells
      go_wp2_with fail
      go_at_call 37
      refine (hS _ hI1).mono ?_
      rintro e W2 ⟨rfl, b2⟩
      have hb2 := hb1.trans (b2.mono hb1.size)
      rcases hz3 with hz3 | hz3
      · obtain rfl := hk1 hz3
        go_wp2_with fail
        go_ret
        exact ⟨rfl, hb2⟩
      · go_wp2_with fail
        go_ret
        exact ⟨rfl, hb2⟩
    · have hn2 : L - (p.size : Int) - (u.size : Int) < 0 := by omega
      have hz : szOf (p.size + u.size + zs.length) L = -1 := by unfold szOf; rw [if_neg (by omega)]
      rw [hz]
      have hui : (u.size : Int) ≤ 9223372036854775807 := by omega
      go_enter Tryz.func9, Tryz.ntmps9
      go_wp2_with fail
      go_at_call 22
      refine (hs _).mono ?_
      rintro e W1 ⟨rfl, b1⟩
      have a1 := a0.below b1 a0.lt
      have hb1 := hb0.trans (b1.mono hb0.size)
      obtain ⟨_, _, _, _, c4, c5⟩ := a1.cells
      go_wp2_with fail
      go_ret
      exact ⟨rfl, hb1⟩
  · rw [if_neg hA] at hs
    have hz : szOf (p.size + u.size + zs.length) L = -1 := by unfold szOf; rw [if_neg (by omega)]
    rw [hz]
    go_enter Tryz.func9, Tryz.ntmps9
    go_wp2_with fail
    go_at_call 22
    refine (hs _).mono ?_
    rintro e W1 ⟨rfl, b1⟩
    have hb1 := hb0.trans (b1.mono hb0.size)
    go_wp2_with fail
    go_ret
    exact ⟨rfl, hb1⟩
def wt1 (l : LineD) : Nat := l.t.p.size + l.rule.size + l.refs.length
def wtL (ls : List LineD) : Nat := (ls.map wt1).sum
theorem wtL_succ {ls : List LineD} {k : Nat} {l : LineD} (h : ls[k]? = some l) : wtL (ls.take (k + 1)) = wtL (ls.take k) + wt1 l := by
  unfold wtL
  rw [List.take_add_one, h]
  simp
theorem wtL_take (ls : List LineD) (k : Nat) : wtL (ls.take k) ≤ wtL ls := by
  have : wtL ls = wtL (ls.take k) + wtL (ls.drop k) := by
    unfold wtL
    rw [← List.sum_append, ← List.map_append, List.take_append_drop]
  omega
theorem line_cells {W : World} {b o : Nat} {l : LineD} (h : LineCells W b o l) : ∃ v, IntsAt W v l.refs ∧ W.cell? ⟨b, o, none⟩ = some (.int .i64 l.t.b) ∧ W.cell? ⟨b, o + 1, none⟩ = some (.string l.t.p) ∧ W.cell? ⟨b, o + 2, none⟩ = some (.int .i64 l.t.x) ∧ W.cell? ⟨b, o + 3, none⟩ = some (.int .i64 l.t.r) ∧ W.cell? ⟨b, o + 4, none⟩ = some (.string l.rule) ∧ W.cell? ⟨b, o + 5, none⟩ = some v := by
  obtain ⟨⟨h0, h1, h2, h3⟩, h4, v, h5, h6⟩ := h
  exact ⟨v, h6, h0, h1, h2, h3, h4, h5⟩
set_option maxHeartbeats 2000000 in
theorem szS55 {W : World} {v : Value} {ls : List LineD} (h : LinesAt W v ls) (hs : ∀ l ∈ ls, l.t.p.size ≤ maxLen ∧ l.rule.size ≤ maxLen) (L : Int) (h0 : 0 ≤ L) (h1 : L ≤ 1048576) :
    Calls Tryz.prog 17 #[v, .int .i64 L] W fun e W' => e = .returned (.int .i64 (szOf (ls.length + wtL ls) L)) ∧ Below W.heap.size W W' := by
  obtain ⟨a, cap, rfl, q1, q2, q3⟩ := h
  unfold maxLen at q2
  have hm : (ls.length : Int) ≤ 9223372036854775807 := by omega
  by_cases hle : (ls.length : Int) ≤ L
  · have hn : ¬ (L - (ls.length : Int) < 0) := by omega
    have HF := Lib.hid (fun (k : Nat) (l : LineD) (hk : ls[k]? = some l) (hz : ¬ ((wt1 l : Int) ≤ L - ls.length - wtL (ls.take k))) => (show szOf (ls.length + wtL ls) L = -1 from by
      have h1 := wtL_succ hk
      have h2 := wtL_take ls (k + 1)
      unfold szOf
      rw [if_neg (by omega)]))
    have HE := Lib.hid (fun (hz : (wtL ls : Int) ≤ L - ls.length) => (show szOf (ls.length + wtL ls) L = L - ls.length - wtL ls from by
      unfold szOf
      rw [if_pos (by omega)]
      omega))
    generalize szOf (ls.length + wtL ls) L = res at HF HE ⊢
    go_enter Tryz.func17, Tryz.ntmps17
    go_wp2_with fail
    go_loopw [1, 5] (fun q i wr => ∃ k : Nat, k ≤ ls.length ∧ i = .int .i64 (k : Int) ∧ (wtL (ls.take k) : Int) ≤ L - ls.length ∧ q = .int .i64 (L - ls.length - wtL (ls.take k)) ∧ Below W.heap.size W wr) (fun _ i _ => ls.length - (intOf i).toNat)
    case atStart => exact ⟨0, by omega, rfl, by simp [wtL]; omega, by simp [wtL], Below.refl _ _⟩
    case round =>
      obtain ⟨k, hk, rfl, hw, rfl, hB⟩ := hrel
      by_cases hlt : k < ls.length
      · have hlt2 : (k : Int) < (ls.length : Int) := by omega
        have hl : ls[k]? = some ls[k] := List.getElem?_eq_getElem hlt
        rcases q3 with q3 | ⟨g, off, rfl, q3⟩
        · rw [q3] at hlt; simp at hlt
        have hsz := hs ls[k] (List.getElem_mem hlt)
        have hc := (q3 k _ hl).below hB
        have hF := HF.out k _ hl
        have hsucc := wtL_succ hl
        generalize ls[k] = l at hl hsz hc hF hsucc
        obtain ⟨vr, hI, c0, c1, c2, c3, c4, c5⟩ := line_cells hc
        have hcp : vr.cells = #[vr] := by obtain ⟨a, cap, rfl, _⟩ := hI; rfl
        have hC := fun (X : World) (hX : IntsAt X vr l.refs) => szL49 l.t.b l.t.p l.t.x l.t.r l.rule vr l.refs X hX hsz.1 hsz.2 (L - ls.length - wtL (ls.take k)) (by omega) (by omega)
        have hwt : l.t.p.size + l.rule.size + l.refs.length = wt1 l := rfl
        rw [hwt] at hC
        by_cases hfit : (wt1 l : Int) ≤ L - ls.length - wtL (ls.take k)
        · have hso : szOf (wt1 l) (L - ls.length - wtL (ls.take k)) = L - ls.length - wtL (ls.take k) - wt1 l := if_pos hfit
          rw [hso] at hC
          have hnn : ¬ (L - (ls.length : Int) - wtL (ls.take k) - wt1 l < 0) := by omega
          have HS := Lib.hid hsucc
          clear hsucc hso hF hwt hsz
          go_wp2_with fail
          go_at_call 9
          refine (hC _ hI).mono ?_
          rintro e W1 ⟨rfl, b1⟩
          go_wp2_with fail
          go_roundw
          case rel => exact ⟨k + 1, by omega, by go_num, by rw [HS.out]; omega, by rw [HS.out]; congr 1; omega, hB.trans (b1.mono hB.size)⟩
          case measure => simp [intOf]; omega
        · have hso : szOf (wt1 l) (L - ls.length - wtL (ls.take k)) = -1 := if_neg hfit
          rw [hso] at hC
          have hr := hF (by omega)
          clear hsucc hso hF hwt hsz
          go_wp2_with fail
          go_at_call 9
          refine (hC _ hI).mono ?_
          rintro e W1 ⟨rfl, b1⟩
          go_wp2_with fail
          go_ret
          exact ⟨by first | rfl | (rw [hr]; rfl), hB.trans (b1.mono hB.size)⟩
      · have hkn : k = ls.length := by omega
        have hge : ¬ ((k : Int) < (ls.length : Int)) := by omega
        have htk : ls.take k = ls := by rw [hkn, List.take_length]
        rw [htk] at hw ⊢
        have hr := HE.out hw
        go_wp2_with fail
        go_ret
        exact ⟨by first | rfl | (rw [hr]; rfl), hB⟩
  · have hn : L - (ls.length : Int) < 0 := by omega
    have hz : szOf (ls.length + wtL ls) L = -1 := by unfold szOf; rw [if_neg (by omega)]
    rw [hz]
    go_enter Tryz.func17, Tryz.ntmps17
    go_wp2
    go_ret
    exact ⟨rfl, Below.refl _ _⟩
end Go.Proofs.YtgdgbjnmibkmhaaGreatDoor

