/- The laws' own helpers: lists of numbers turned into the program's (where no triples are about). -/
import Derived.Test.YtgkgkaapjljpcaaDoorGI
import Derived.Test.YtgkgkaapjljpcaaDoorGA
namespace Go.Proofs.YtgkgkaapjljpcaaDoor
open Go.ChangeShapes Go.WideShapes Go.ChangeAt Go.RowKit Go.Shelf
attribute [local go_sem] Oper.semAt_some
set_option maxRecDepth 100000

def IntsAt (W : World) (v : Value) (zs : List Int) : Prop := ∃ a cap, v = .slice a zs.length cap ∧ zs.length ≤ cap ∧ cap ≤ maxLen ∧ (zs = [] ∨ ∃ b off, a = some ⟨b, off, none⟩ ∧ ∀ (j : Nat) z, zs[j]? = some z → W.cell? ⟨b, off + j, none⟩ = some (.int .i64 z))
theorem infoInt : (Tryd.prog.info? 3).map (fun i => (i.zero, i.size, i.bytes)) = some (some (.int .i64 0), 1, 8) := by kernel_rfl
theorem set_take {zs : List Int} {k : Nat} {z : Int} (h : zs[k]? = some z) : (zs.take k ++ List.replicate (zs.length - k) 0).set k z = zs.take (k + 1) ++ List.replicate (zs.length - (k + 1)) 0 := by
  have hk : k < zs.length := (List.getElem?_eq_some_iff.1 h).1
  have hl : (zs.take k).length = k := by rw [List.length_take]; omega
  have e : zs.length - k = (zs.length - (k + 1)) + 1 := by omega
  rw [List.set_append_right _ _ (by omega), hl, Nat.sub_self, e, List.replicate_succ, List.set_cons_zero, List.take_add_one, h]
  simp
theorem grown_old {W w1 wr : World} (h1 : W.grownBy w1 none) (h2 : w1.grownBy wr (some W.heap.size)) {b o : Nat} {v : Value} (h : W.cell? ⟨b, o, none⟩ = some v) : wr.cell? ⟨b, o, none⟩ = some v := by
  have hb : b < W.heap.size := by
    unfold World.cell? at h
    cases hh : W.heap[b]? with
    | none => rw [hh] at h; simp at h
    | some o => exact (Array.getElem?_eq_some_iff.1 hh).1
  have e1 := h1.block b hb (by simp)
  have e2 := h2.block b (Nat.lt_of_lt_of_le hb h1.size) (by intro q; cases q; omega)
  exact (World.cell?_of_block (a := ⟨b, o, none⟩) (e2.trans e1)).trans h
set_option maxHeartbeats 1000000 in
theorem toI109 {W : World} {v : Value} {zs : List Int} (h : IntsAt W v zs) (hn : zs.length ≤ 1048576) :
    Calls Tryd.prog 20 #[v] W fun e W' => ∃ g', e = .returned (.slice (some ⟨g', 0, none⟩) zs.length zs.length) ∧ IRow W' W.heap.size (.slice (some ⟨g', 0, none⟩) zs.length zs.length) zs ∧ Below W.heap.size W W' := by
  obtain ⟨a, cap, rfl, h1, h2, h3⟩ := h
  obtain ⟨i0, hi, hz0, hz1, hz2⟩ := info_parts infoInt
  obtain ⟨w1, hr, hown, hg1⟩ := run_make_full (P := Tryd.prog) W W.heap.size 23 3 i0 (.int .i64 0) 1 Tryd.underlying23 hi hz0 hz1 .i64 .i64 zs.length (by rw [hz2]; omega) (by unfold maxLen; omega) (Nat.le_refl _)
  have hrow : IRow w1 W.heap.size (.slice (some ⟨W.heap.size, 0, none⟩) zs.length zs.length) (List.replicate zs.length 0) := by
    unfold IRow
    rw [List.length_replicate, List.map_replicate, ← toList_madeCells_one]
    simpa [Value.cells] using hown
  have hnn : ¬ ((zs.length : Int) < 0) := by omega
  have hni : (zs.length : Int) ≤ 1048576 := by omega
  clear hown
  go_enter Tryd.func20, Tryd.ntmps20
  go_wp2_with fail
  clear hr
  go_loopw [4] (fun i wr => ∃ k : Nat, k ≤ zs.length ∧ i = .int .i64 (k : Int) ∧ IRow wr W.heap.size (.slice (some ⟨W.heap.size, 0, none⟩) zs.length zs.length) (zs.take k ++ List.replicate (zs.length - k) 0) ∧ w1.grownBy wr (some W.heap.size)) (fun i _ => zs.length - (intOf i).toNat)
  case atStart => exact ⟨0, by omega, rfl, hrow, igrown_refl _ _⟩
  case round =>
    obtain ⟨k, hk, rfl, hR, hG⟩ := hrel
    by_cases hlt : k < zs.length
    · have hlt2 : (k : Int) < (zs.length : Int) := by omega
      have hz : zs[k]? = some zs[k] := List.getElem?_eq_getElem hlt
      rcases h3 with h3 | ⟨b, off, rfl, h3⟩
      · rw [h3] at hlt; simp at hlt
      have hc := grown_old hg1 hG (h3 k _ hz)
      have hlen : (zs.take k ++ List.replicate (zs.length - k) 0).length = zs.length := by simp; omega
      have fz := hR.frozen hlen k
      have hst := hR.stored hlen k zs[k]
      rw [set_take hz] at hst
      have hkc : k < zs.length := hlt
      generalize zs[k] = z at hc hst
      have hco := hR.cellN hlen k hlt
      go_wp2_with fail
      go_roundw
      case rel => exact ⟨k + 1, by omega, by go_num, hst.1, igrown_trans hG hst.2⟩
      case measure => simp [intOf]; omega
    · have hkn : k = zs.length := by omega
      have hge : ¬ ((k : Int) < (zs.length : Int)) := by omega
      go_wp2_with fail
      go_ret
      have hR2 : IRow wr W.heap.size (.slice (some ⟨W.heap.size, 0, none⟩) zs.length zs.length) zs := by
        rw [hkn] at hR
        simpa using hR
      exact ⟨_, rfl, hR2, ((Below.refl _ W).grown hg1 (Nat.le_refl _) (fun i e => by cases e)).grown hG hg1.size (fun i e => by cases e; exact Nat.le_refl _)⟩
set_option maxHeartbeats 1000000 in
theorem ieqIrow (W : World) (g h o q c d : Nat) (zs : List Int) (hm : zs.length ≤ maxLen)
    (hx : ∀ (i : Nat) z, zs[i]? = some z → W.cell? ⟨g, o + i, none⟩ = some (.int .i64 z)) (hy : ∀ (i : Nat) z, zs[i]? = some z → W.cell? ⟨h, q + i, none⟩ = some (.int .i64 z)) :
    Calls Tryd.prog 21 #[.slice (some ⟨g, o, none⟩) zs.length c, .slice (some ⟨h, q, none⟩) zs.length d] W fun e w' => e = .returned (.bool true) ∧ Below W.heap.size W w' := by
  unfold maxLen at hm
  have HX := Lib.hid hx
  have HY := Lib.hid hy
  clear hx hy
  go_enter Tryd.func21, Tryd.ntmps21
  go_wp2
  go_loopw [5] (fun i wr => ∃ k : Nat, k ≤ zs.length ∧ i = .int .i64 k ∧ Below W.heap.size W wr ∧ ∀ a, wr.cell? a = W.cell? a) (fun i _ => zs.length - (intOf i).toNat)
  case atStart => exact ⟨0, by omega, rfl, Below.refl _ _, fun _ => rfl⟩
  case round =>
    obtain ⟨k, hk, rfl, hB, hs⟩ := hrel
    by_cases hlt : k < zs.length
    · have hz : zs[k]? = some zs[k] := List.getElem?_eq_getElem hlt
      have c1 := (hs _).trans (HX.out k _ hz)
      have c2 := (hs _).trans (HY.out k _ hz)
      have HS := Lib.hid hs
      clear hs
      generalize zs[k] = z at c1 c2
      go_wp2
      go_quiet (fail)
      go_wp2
      go_roundw
      case rel => exact ⟨k + 1, by omega, by go_num, below_drewN hB _, fun a => HS.out a⟩
      case measure => simp [intOf]; omega
    · have e : k = zs.length := by omega
      clear hlt hk
      subst e
      go_wp2
      go_ret
      exact ⟨rfl, hB⟩
theorem ieqI {W : World} {v1 v2 : Value} {zs : List Int} (h1 : IntsAt W v1 zs) (h2 : IntsAt W v2 zs) :
    Calls Tryd.prog 21 #[v1, v2] W fun e w' => e = .returned (.bool true) ∧ Below W.heap.size W w' := by
  obtain ⟨a, c, rfl, q1, q2, q3⟩ := h1
  obtain ⟨b, d, rfl, r1, r2, r3⟩ := h2
  rcases q3 with rfl | ⟨g, o, rfl, q3⟩
  · exact ieq29nil W _ _ _ _
  · rcases r3 with rfl | ⟨h, q, rfl, r3⟩
    · exact ieq29nil W _ _ _ _
    · exact ieqIrow W g h o q c d zs (Nat.le_trans q1 q2) q3 r3
theorem IRow.ints {W : World} {B : Nat} {v : Value} {zs : List Int} (h : IRow W B v zs) : IntsAt W v zs := by
  have h0 := h
  rcases h.2 with ⟨rfl, hn⟩ | ⟨g, cap, cur, rfl, hb, hg, hn, hm, _⟩
  · have hz : zs = [] := List.length_eq_zero_iff.1 hn
    subst hz
    exact ⟨none, 0, rfl, Nat.le_refl _, Nat.zero_le _, .inl rfl⟩
  · refine ⟨_, cap, rfl, hn, hm, .inr ⟨g, 0, rfl, fun j z hz => ?_⟩⟩
    have hj := (List.getElem?_eq_some_iff.1 hz).1
    rw [Nat.zero_add, h0.cell j hj, hz]
    rfl
end Go.Proofs.YtgkgkaapjljpcaaDoor

