/- Chapter 8: a list of texts as an argument: weighed and copied by the laws' own helpers. -/
import Derived.Test.YtngcdgnijfiocaaGreatDoorGA
import Derived.Test.YtngcdgnijfiocaaGreatDoorGI
import Derived.SliceStrings
namespace Go.Proofs.YtngcdgnijfiocaaGreatDoor
open Go.ChangeShapes Go.WideShapes Go.ChangeAt Go.RowKit Go.Shelf
attribute [local go_sem] Oper.semAt_some
set_option maxRecDepth 100000

/-- A slice of just these texts, wherever it lies. -/
def TextsAt (W : World) (v : Value) (ws : List (List UInt8)) : Prop := ∃ a cap, v = .slice a ws.length cap ∧ ws.length ≤ cap ∧ cap ≤ maxLen ∧ (ws = [] ∨ ∃ x : Addr, a = some x ∧ ∀ (j : Nat) b, ws[j]? = some b → W.cell? (x.add j) = some (.string ⟨b.toArray⟩))
theorem lt_cell {W : World} {a : Addr} {v : Value} (h : W.cell? a = some v) : a.block < W.heap.size := by
  unfold World.cell? at h
  cases hh : W.heap[a.block]? with
  | none => rw [hh] at h; simp at h
  | some o => exact (Array.getElem?_eq_some_iff.1 hh).1
theorem TextsAt.below {W W' : World} {v : Value} {ws : List (List UInt8)} (h : TextsAt W v ws) (hb : Below W.heap.size W W') : TextsAt W' v ws := by
  obtain ⟨a, cap, e, h1, h2, h3⟩ := h
  refine ⟨a, cap, e, h1, h2, ?_⟩
  rcases h3 with h3 | ⟨x, hx, h3⟩
  · exact .inl h3
  · exact .inr ⟨x, hx, fun j b hj => (hb.cell (lt_cell (h3 j b hj))).trans (h3 j b hj)⟩
theorem TRow.texts {W : World} {B : Nat} {v : Value} {ws : List (List UInt8)} (h : TRow W B v ws) : TextsAt W v ws := by
  have h0 := h
  rcases h.2 with ⟨rfl, hn⟩ | ⟨g, cap, cur, rfl, hb, hg, hn, hm, _⟩
  · have hz : ws = [] := List.length_eq_zero_iff.1 hn
    subst hz
    exact ⟨none, 0, rfl, Nat.le_refl _, Nat.zero_le _, .inl rfl⟩
  · refine ⟨_, cap, rfl, hn, hm, .inr ⟨⟨g, 0, none⟩, rfl, fun j b hj => ?_⟩⟩
    have hl := (List.getElem?_eq_some_iff.1 hj).1
    have := h0.cell rfl j hl
    rw [hj] at this
    have e : (⟨g, 0, none⟩ : Addr).add j = ⟨g, j, none⟩ := by
      unfold Addr.add
      by_cases h : j = 0
      · subst h; simp
      · simp [h]
    rw [e]
    exact this
theorem open_texts {H : Type} {enc : TypeId × Value → H} {W : World} {b0 base : Nat} {sp : Nat → Bool} {held : Bool} {rr : Reach} {v : Value} {d : DataW H} {q : List MemPlace} (hv : Value.okWide Tryz.prog W rr b0 29 v) (h : DataW.Trod enc Tryz.prog W base sp held 29 v d q) :
    ∃ ws : List (List UInt8), TextsAt W v ws ∧ ∀ b ∈ ws, b.length ≤ maxLen := by
  obtain ⟨a, len, cap, rfl⟩ := okWide_slice Tryz.underlying29 hv
  obtain ⟨fuel, hf⟩ := h
  rcases open_strings Tryz.underlying29 Tryz.underlying9 (by kernel_rfl) hf with ⟨hcs, _⟩ | ⟨x, l, c, ss, hcs, _, hl, hm, hlen, _, hcell, hsz⟩
  · simp [Value.cells] at hcs
    obtain ⟨rfl, rfl, rfl⟩ := hcs
    exact ⟨[], ⟨none, 0, rfl, Nat.le_refl _, Nat.zero_le _, .inl rfl⟩, by simp⟩
  · simp [Value.cells] at hcs
    obtain ⟨rfl, rfl, rfl⟩ := hcs
    have hsl : len ≤ ss.length := by rw [hlen]; split <;> omega
    have hln : ((ss.take len).map fun s => s.data.toList).length = len := by simp; omega
    refine ⟨(ss.take len).map fun s => s.data.toList, ⟨some x, cap, by rw [hln], by omega, hm, .inr ⟨x, rfl, fun j b hj => ?_⟩⟩, ?_⟩
    · rw [List.getElem?_map, Option.map_eq_some_iff] at hj
      obtain ⟨s, hs, rfl⟩ := hj
      have hjl := (List.getElem?_eq_some_iff.1 hs).1
      rw [List.length_take] at hjl
      rw [List.getElem?_take, if_pos (by omega)] at hs
      have := hcell j (by omega)
      rw [List.getD_eq_getElem?_getD, hs] at this
      exact this
    · intro b hb
      rw [List.mem_map] at hb
      obtain ⟨s, hs, rfl⟩ := hb
      have := hsz s (List.mem_of_mem_take hs)
      rw [Array.length_toList]
      exact this


theorem tset_take {zs : List (List UInt8)} {k : Nat} {z : List UInt8} (h : zs[k]? = some z) : (zs.take k ++ List.replicate (zs.length - k) []).set k z = zs.take (k + 1) ++ List.replicate (zs.length - (k + 1)) [] := by
  have hk : k < zs.length := (List.getElem?_eq_some_iff.1 h).1
  have hl : (zs.take k).length = k := by rw [List.length_take]; omega
  have e : zs.length - k = (zs.length - (k + 1)) + 1 := by omega
  rw [List.set_append_right _ _ (by omega), hl, Nat.sub_self, e, List.replicate_succ, List.set_cons_zero, List.take_add_one, h]
  simp
theorem grown_oldT {W w1 wr : World} (h1 : W.grownBy w1 none) (h2 : w1.grownBy wr (some W.heap.size)) {a : Addr} {v : Value} (h : W.cell? a = some v) : wr.cell? a = some v := by
  have hb := lt_cell h
  have e1 := h1.block a.block hb (by simp)
  have e2 := h2.block a.block (Nat.lt_of_lt_of_le hb h1.size) (fun q => by have := Option.some.inj q; omega)
  exact (World.cell?_of_block (a := a) (e2.trans e1)).trans h
end Go.Proofs.YtngcdgnijfiocaaGreatDoor

