/- Chapter 8: a list of texts as an argument: weighed and copied by the laws' own helpers. -/
import Derived.Test.YtpepaobgngighabGreatDoorGA
import Derived.Test.YtpepaobgngighabGreatDoorGI
import Derived.SliceStrings
namespace Go.Proofs.YtpepaobgngighabGreatDoor
open Go.ChangeShapes Go.WideShapes Go.ChangeAt Go.RowKit Go.Shelf
attribute [local go_sem] Oper.semAt_some
set_option maxRecDepth 100000

/-- A slice of just these texts, wherever it lies. -/
def TextsAt (W : World) (v : Value) (ws : List (List UInt8)) : Prop := ∃ a cap, v = .slice a ws.length cap ∧ ws.length ≤ cap ∧ cap ≤ maxLen ∧ (ws = [] ∨ ∃ x : Addr, a = some x ∧ ∀ (j : Nat) b, ws[j]? = some b → W.cell? (x.add j) = some (.string ⟨b.toArray⟩))
theorem lt_cell {W : World} {a : Addr} {v : Value} (h : W.cell? a = some v) : a.block < W.heap.size := by
  unfold World.cell? at h
  cases hh : W.heap[a.block]? with
  | none => rw [hh] at h; simp at h
  | some o => exact (Array.getElem?_eq_some_iff.1 hh).1
theorem TextsAt.below {W W' : World} {v : Value} {ws : List (List UInt8)} (h : TextsAt W v ws) (hb : Below W.heap.size W W') : TextsAt W' v ws := by
  obtain ⟨a, cap, e, h1, h2, h3⟩ := h
  refine ⟨a, cap, e, h1, h2, ?_⟩
  rcases h3 with h3 | ⟨x, hx, h3⟩
  · exact .inl h3
  · exact .inr ⟨x, hx, fun j b hj => (hb.cell (lt_cell (h3 j b hj))).trans (h3 j b hj)⟩
theorem TRow.texts {W : World} {B : Nat} {v : Value} {ws : List (List UInt8)} (h : TRow W B v ws) : TextsAt W v ws := by
  have h0 := h
  rcases h.2 with ⟨rfl, hn⟩ | ⟨g, cap, cur, rfl, hb, hg, hn, hm, _⟩
  · have hz : ws = [] := List.length_eq_zero_iff.1 hn
    subst hz
    exact ⟨none, 0, rfl, Nat.le_refl _, Nat.zero_le _, .inl rfl⟩
  · refine ⟨_, cap, rfl, hn, hm, .inr ⟨⟨g, 0, none⟩, rfl, fun j b hj => ?_⟩⟩
    have hl := (List.getElem?_eq_some_iff.1 hj).1
    have := h0.cell rfl j hl
    rw [hj] at this
    have e : (⟨g, 0, none⟩ : Addr).add j = ⟨g, j, none⟩ := by
      unfold Addr.add
      by_cases h : j = 0
      · subst h; simp
      · simp [h]
    rw [e]
    exact this
theorem open_texts {H : Type} {enc : TypeId × Value → H} {W : World} {b0 base : Nat} {sp : Nat → Bool} {held : Bool} {rr : Reach} {v : Value} {d : DataW H} {q : List MemPlace} (hv : Value.okWide Tryz.prog W rr b0 31 v) (h : DataW.Trod enc Tryz.prog W base sp held 31 v d q) :
    ∃ ws : List (List UInt8), TextsAt W v ws ∧ ∀ b ∈ ws, b.length ≤ maxLen := by
  obtain ⟨a, len, cap, rfl⟩ := okWide_slice Tryz.underlying31 hv
  obtain ⟨fuel, hf⟩ := h
  rcases open_strings Tryz.underlying31 Tryz.underlying9 (by kernel_rfl) hf with ⟨hcs, _⟩ | ⟨x, l, c, ss, hcs, _, hl, hm, hlen, _, hcell, hsz⟩
  · simp [Value.cells] at hcs
    obtain ⟨rfl, rfl, rfl⟩ := hcs
    exact ⟨[], ⟨none, 0, rfl, Nat.le_refl _, Nat.zero_le _, .inl rfl⟩, by simp⟩
  · simp [Value.cells] at hcs
    obtain ⟨rfl, rfl, rfl⟩ := hcs
    have hsl : len ≤ ss.length := by rw [hlen]; split <;> omega
    have hln : ((ss.take len).map fun s => s.data.toList).length = len := by simp; omega
    refine ⟨(ss.take len).map fun s => s.data.toList, ⟨some x, cap, by rw [hln], by omega, hm, .inr ⟨x, rfl, fun j b hj => ?_⟩⟩, ?_⟩
    · rw [List.getElem?_map, Option.map_eq_some_iff] at hj
      obtain ⟨s, hs, rfl⟩ := hj
      have hjl := (List.getElem?_eq_some_iff.1 hs).1
      rw [List.length_take] at hjl
      rw [List.getElem?_take, if_pos (by omega)] at hs
      have := hcell j (by omega)
      rw [List.getD_eq_getElem?_getD, hs] at this
      exact this
    · intro b hb
      rw [List.mem_map] at hb
      obtain ⟨s, hs, rfl⟩ := hb
      have := hsz s (List.mem_of_mem_take hs)
      rw [Array.length_toList]
      exact this

set_option maxHeartbeats 1000000 in
theorem szT8 {W : World} {v : Value} {ws : List (List UInt8)} (h : TextsAt W v ws) (hs : ∀ b ∈ ws, b.length ≤ maxLen) (L : Int) (h0 : 0 ≤ L) (h1 : L ≤ 1048576) :
    Calls Tryz.prog 10 #[v, .int .i64 L] W fun e W' => ∃ z : Int, e = .returned (.int .i64 z) ∧ (z = -1 ∨ (0 ≤ z ∧ (ws.length : Int) ≤ L ∧ ∀ b ∈ ws, (b.length : Int) ≤ L)) ∧ Below W.heap.size W W' := by
  obtain ⟨a, cap, rfl, hc, hm, h3⟩ := h
  unfold maxLen at hm hs
  have hli : (ws.length : Int) ≤ 9223372036854775807 := by omega
  have hl0 : (0 : Int) ≤ (ws.length : Int) := by omega
  by_cases hfit : L - (ws.length : Int) < 0
  · go_enter Tryz.func10, Tryz.ntmps10
    go_wp2_with fail
    go_ret
    exact ⟨-1, rfl, .inl rfl, Below.refl _ _⟩
  · have H3 := Lib.hid h3
    have HS := Lib.hid hs
    clear h3 hs
    go_enter Tryz.func10, Tryz.ntmps10
    go_wp2_with fail
    go_loopw [1, 5] (fun y i wr => ∃ (k : Nat) (l : Int), k ≤ ws.length ∧ i = .int .i64 (k : Int) ∧ y = .int .i64 l ∧ 0 ≤ l ∧ l ≤ L ∧ (∀ (j : Nat) b, j < k → ws[j]? = some b → (b.length : Int) ≤ L) ∧ wr = W) (fun _ i _ => ws.length - (intOf i).toNat)
    case atStart => exact ⟨0, _, by omega, rfl, rfl, by omega, by omega, fun j b hj => by omega, rfl⟩
    case round =>
      obtain ⟨k, l, hk, rfl, rfl, hl1, hl2, hall, rfl⟩ := hrel
      by_cases hlt : k < ws.length
      · have hlt2 : (k : Int) < (ws.length : Int) := by omega
        have hz : ws[k]? = some ws[k] := List.getElem?_eq_getElem hlt
        rcases H3.out with h3 | ⟨x, rfl, h3⟩
        · rw [h3] at hlt; simp at hlt
        have hc := h3 k _ hz
        have hb := HS.out _ (List.getElem_mem hlt)
        have hnew : ∀ (j : Nat) b, j < k + 1 → ws[j]? = some b → (ws[k].length : Int) ≤ L → (b.length : Int) ≤ L := fun j b hj hjb hq => by
          by_cases hjk : j = k
          · subst hjk; rw [hz] at hjb; cases hjb; exact hq
          · exact hall j b (by omega) hjb
        generalize ws[k] = b at hc hb hz hnew
        have HN := Lib.hid hnew
        clear hnew hall h3 H3 HS hz
        have hsz : (⟨b.toArray⟩ : ByteArray).size = b.length := rfl
        generalize (⟨b.toArray⟩ : ByteArray) = t at hc hsz
        have ht : (t.size : Int) ≤ 9223372036854775807 := by omega
        have ht0 : (0 : Int) ≤ (t.size : Int) := by omega
        by_cases hneg : l - (t.size : Int) < 0
        · go_wp2_with fail
          go_ret
          exact ⟨-1, rfl, .inl rfl, Below.refl _ _⟩
        · go_wp2_with fail
          go_roundw
          case rel => exact ⟨k + 1, _, by omega, by go_num, rfl, by omega, by omega, fun j b' hj hjb => HN.out j b' hj hjb (by omega), trivial⟩
          case measure => simp [intOf]; omega
      · have hkn : k = ws.length := by omega
        have hge : ¬ ((k : Int) < (ws.length : Int)) := by omega
        go_wp2_with fail
        go_ret
        refine ⟨l, rfl, .inr ⟨hl1, by omega, fun b hb => ?_⟩, Below.refl _ _⟩
        obtain ⟨j, hj, rfl⟩ := List.getElem_of_mem hb
        exact hall j _ (by omega) (List.getElem?_eq_getElem hj)

theorem tset_take {zs : List (List UInt8)} {k : Nat} {z : List UInt8} (h : zs[k]? = some z) : (zs.take k ++ List.replicate (zs.length - k) []).set k z = zs.take (k + 1) ++ List.replicate (zs.length - (k + 1)) [] := by
  have hk : k < zs.length := (List.getElem?_eq_some_iff.1 h).1
  have hl : (zs.take k).length = k := by rw [List.length_take]; omega
  have e : zs.length - k = (zs.length - (k + 1)) + 1 := by omega
  rw [List.set_append_right _ _ (by omega), hl, Nat.sub_self, e, List.replicate_succ, List.set_cons_zero, List.take_add_one, h]
  simp
theorem grown_oldT {W w1 wr : World} (h1 : W.grownBy w1 none) (h2 : w1.grownBy wr (some W.heap.size)) {a : Addr} {v : Value} (h : W.cell? a = some v) : wr.cell? a = some v := by
  have hb := lt_cell h
  have e1 := h1.block a.block hb (by simp)
  have e2 := h2.block a.block (Nat.lt_of_lt_of_le hb h1.size) (fun q => by have := Option.some.inj q; omega)
  exact (World.cell?_of_block (a := a) (e2.trans e1)).trans h
set_option maxHeartbeats 1000000 in
theorem toT8 {W : World} {v : Value} {ws : List (List UInt8)} (h : TextsAt W v ws) (hn : ws.length ≤ 1048576) :
    Calls Tryz.prog 12 #[v] W fun e W' => ∃ g', e = .returned (.slice (some ⟨g', 0, none⟩) ws.length ws.length) ∧ TRow W' W.heap.size (.slice (some ⟨g', 0, none⟩) ws.length ws.length) ws ∧ Below W.heap.size W W' := by
  obtain ⟨a, cap, rfl, h1, h2, h3⟩ := h
  obtain ⟨i0, hi, hz0, hz1, hz2⟩ := info_parts Tryz.info9
  obtain ⟨w1, hr, hown, hg1⟩ := run_make_full (P := Tryz.prog) W W.heap.size 31 9 i0 (.string ⟨#[]⟩) 1 Tryz.underlying31 hi hz0 hz1 .i64 .i64 ws.length (by rw [hz2]; omega) (by unfold maxLen; omega) (Nat.le_refl _)
  have hrow : TRow w1 W.heap.size (.slice (some ⟨W.heap.size, 0, none⟩) ws.length ws.length) (List.replicate ws.length []) := by
    unfold TRow texts
    rw [List.length_replicate, List.map_replicate, ← toList_madeCells_one]
    simpa [Value.cells] using hown
  have hnn : ¬ ((ws.length : Int) < 0) := by omega
  have hni : (ws.length : Int) ≤ 1048576 := by omega
  clear hown
  go_enter Tryz.func12, Tryz.ntmps12
  go_wp2_with fail
  clear hr
  go_loopw [4] (fun i wr => ∃ k : Nat, k ≤ ws.length ∧ i = .int .i64 (k : Int) ∧ TRow wr W.heap.size (.slice (some ⟨W.heap.size, 0, none⟩) ws.length ws.length) (ws.take k ++ List.replicate (ws.length - k) []) ∧ w1.grownBy wr (some W.heap.size)) (fun i _ => ws.length - (intOf i).toNat)
  case atStart => exact ⟨0, by omega, rfl, hrow, igrown_refl _ _⟩
  case round =>
    obtain ⟨k, hk, rfl, hR, hG⟩ := hrel
    by_cases hlt : k < ws.length
    · have hlt2 : (k : Int) < (ws.length : Int) := by omega
      have hz : ws[k]? = some ws[k] := List.getElem?_eq_getElem hlt
      rcases h3 with h3 | ⟨x, rfl, h3⟩
      · rw [h3] at hlt; simp at hlt
      have hc := grown_oldT hg1 hG (h3 k _ hz)
      have hlen : (ws.take k ++ List.replicate (ws.length - k) []).length = ws.length := by simp; omega
      have fz := hR.frozen hlen k
      have hst := hR.stored hlen k ws[k]
      rw [tset_take hz] at hst
      have hkc : k < ws.length := hlt
      generalize ws[k] = z at hc hst
      have hco := hR.cell hlen k hlt
      go_wp2_with fail
      go_roundw
      case rel => exact ⟨k + 1, by omega, by go_num, hst.1, igrown_trans hG hst.2⟩
      case measure => simp [intOf]; omega
    · have hkn : k = ws.length := by omega
      have hge : ¬ ((k : Int) < (ws.length : Int)) := by omega
      go_wp2_with fail
      go_ret
      have hR2 : TRow wr W.heap.size (.slice (some ⟨W.heap.size, 0, none⟩) ws.length ws.length) ws := by
        rw [hkn] at hR
        simpa using hR
      exact ⟨_, rfl, hR2, ((Below.refl _ W).grown hg1 (Nat.le_refl _) (fun i e => by cases e)).grown hG hg1.size (fun i e => by cases e; exact Nat.le_refl _)⟩
end Go.Proofs.YtpepaobgngighabGreatDoor

