/- Chapter 12, the program: lists of numbers, and the walk of the law. -/
import Derived.Test.YtgkgkaapjljpcaaDoorFA
import Derived.Test.YtgkgkaapjljpcaaDoorLN
import Derived.Test.YtgkgkaapjljpcaaDoorShelf
import Derived.Lib.AppendIntMem
namespace Go.Proofs.YtgkgkaapjljpcaaDoor
open Go.ChangeShapes Go.WideShapes Go.ChangeAt Go.RowKit Go.Shelf
attribute [local go_sem] Oper.semAt_some
set_option maxRecDepth 100000

/-- The library's table of powers of ten. -/
def Pows (W : World) : Prop := Lib.TabIs Tryd.prog W "internal/strconv.uint64pow10" .u64 Lib.pow10Tab
theorem Pows.below {W W' : World} {B : Nat} (h : Pows W) (hb : Below B W W') (hB : 5 < B) : Pows W' := by
  unfold Pows Lib.TabIs World.var? at h ⊢
  simp only [gPow, Option.bind_some] at h ⊢
  rw [hb.block _ hB]
  exact h
theorem Pows.lt {W : World} (h : Pows W) : 5 < W.heap.size := by
  have := h.cell gPow 0 (by decide)
  exact lt_of_cell' this
theorem ownsBelowF {W W' : World} {B e n : Nat} {v : Value} {k : Nat} {xs : List Value} (h : W.ownsRow B e n v k xs) (hb : Below W.heap.size W W') : W'.ownsRow B e n v k xs := by
  obtain ⟨h1, h2⟩ := h
  refine ⟨h1, ?_⟩
  rcases h2 with h2 | ⟨g, cap, cur, a, b, c, d⟩
  · exact .inl h2
  · exact .inr ⟨g, cap, cur, a, b, by rw [hb.block g (Array.getElem?_eq_some_iff.1 c).1]; exact c, d⟩

theorem add_atF (g j : Nat) : (⟨g, 0, none⟩ : Addr).add j = ⟨g, j, none⟩ := by
  unfold Addr.add
  by_cases h : j = 0
  · subst h; simp
  · simp [h]
theorem row_atF {W : World} {B n : Nat} {v : Value} {ws : List (List UInt8)} (h : W.ownsRow B 9 1 v n (texts ws)) (hn0 : 0 < n) :
    ∃ g cap, v = .slice (some ⟨g, 0, none⟩) n cap ∧ g < W.heap.size ∧ n ≤ cap ∧ ∀ (j : Nat) u, (texts ws)[j]? = some u → W.cell? ⟨g, j, none⟩ = some u := by
  rcases h.2 with ⟨_, h0⟩ | ⟨g, cap, cur, rfl, hb, hg, hn, hm, _⟩
  · omega
  · refine ⟨g, cap, rfl, (Array.getElem?_eq_some_iff.1 hg).1, hn, fun j u hu => ?_⟩
    have := World.ownsRow.cells h (g := g) rfl j u hu
    rw [add_atF] at this
    exact this
theorem texts_take {zs : List Int} {k : Nat} {z : Int} (h : zs[k]? = some z) : texts ((zs.map Lib.itoa).take (k + 1)) = texts ((zs.map Lib.itoa).take k) ++ [.string ⟨(Lib.itoa z).toArray⟩] := by
  unfold texts
  rw [List.take_add_one, List.getElem?_map, h]
  simp
set_option maxHeartbeats 2000000 in
theorem pnums {W : World} {v : Value} {zs : List Int} (h : IntsAt W v zs) (hn : zs.length ≤ 1048576) (hz : InI zs) (hP : Pows W) :
    Calls Tryd.prog 16 #[v] W fun e w' => e = .returned (.string ⟨(numsL zs).toArray⟩) ∧ Below W.heap.size W w' := by
  obtain ⟨a, cap, rfl, h1, h2, h3⟩ := h
  have hni : (zs.length : Int) ≤ 1048576 := by omega
  have hPl := hP.lt
  by_cases h0 : zs = []
  · subst h0
    go_enter Tryd.func16, Tryd.ntmps16
    go_wp2
    go_ret
    exact ⟨rfl, Below.refl _ _⟩
  rcases h3 with h3 | ⟨b, off, rfl, h3⟩
  · exact absurd h3 h0
  have hne : ((zs.length : Int) == 0) = false := by
    rw [beq_eq_false_iff_ne]
    intro e
    exact h0 (List.length_eq_zero_iff.1 (by omega))
  have hpos : 0 < zs.length := List.length_pos_iff.2 h0
  obtain ⟨R, hR⟩ : ∃ R, R = numsL zs := ⟨_, rfl⟩
  rw [← hR]
  have HR := Lib.hid hR
  have H0 := Lib.hid h0
  clear hR h0
  obtain ⟨i0, hi, hz0, hz1, hz2⟩ := info_parts Tryd.info9
  go_enter Tryd.func16, Tryd.ntmps16
  go_wp2
  go_loopw [3, 11] (fun o i wr => ∃ k : Nat, k ≤ zs.length ∧ i = .int .i64 (k : Int) ∧ wr.ownsRow W.heap.size 9 1 o k (texts ((zs.map Lib.itoa).take k)) ∧ Below W.heap.size W wr) (fun _ i _ => zs.length - (intOf i).toNat)
  case atStart => exact ⟨0, by omega, rfl, World.ownsRow_nil _ _ _ _, Below.refl _ _⟩
  case round =>
    obtain ⟨k, hk, rfl, hown, hB⟩ := hrel
    by_cases hlt : k < zs.length
    · have hz0' : zs[k]? = some zs[k] := List.getElem?_eq_getElem hlt
      have hc0 := h3 k _ hz0'
      have hc := (hB.cell (p := ⟨b, off + k, none⟩) (lt_of_cell' hc0)).trans hc0
      obtain ⟨b0, b1⟩ := hz k _ hz0'
      have hd := fun W1 (hp : Pows W1) => Tryd.strconv_Itoa zs[k] b0 b1 W1 hp
      have hT := Lib.hid (texts_take hz0')
      have hPr := hP.below hB hPl
      have HZ := Lib.hid (And.intro h3 hz)
      clear hz0' hc0 h3 hz
      generalize zs[k] = z at hc hd hT b0 b1
      generalize Lib.itoa z = ds at hd hT
      have ka : (k : Int) < (zs.length : Int) := by omega
      go_wp2_with (first
        | (go_at_call 39; (refine (hd _ hPr).mono ?_; rintro e W1 ⟨rfl, kk, os, hw⟩; have hb1 : Below wr.heap.size wr W1 := (by rw [hw]; exact Lib.below_grow _ _ (Nat.le_refl _) kk os); clear hw; have hq1 := hb1.size; have hown1 := ownsBelowF hown hb1))
        | (at_builtin; (refine wpList_append_own _ rfl _ _ 44 rfl W.heap.size 9 i0 (.string ⟨#[]⟩) 1 16 Tryd.underlying44 hi hz0 hz1 hz2 rfl (by decide) _ _ _ rfl (hown1.alloc _) ⟨W1.heap.size, 0, none⟩ 1 1 [.string ⟨ds.toArray⟩] rfl (by rfl) (cell_one_new _ _ _) (by simp [Value.oneCell']) (by unfold maxLen; omega) (by omega) (by have := hB.size; have := hb1.size; simp; omega) ?_; intro v' w1 hown' hgrow _; have hq2 := hB.size; have hE := ((hB.trans (hb1.mono hB.size)).alloc (Nat.le_trans hq2 hq1) _).grown hgrow (by simp; omega) (fun i e => (hown1.lt i e).1); clear hgrow)))
      go_roundw
      case rel => exact ⟨k + 1, by omega, by go_num, by rw [hT.out]; exact hown', hE⟩
      case measure => simp [intOf]; omega
    · obtain rfl : k = zs.length := by omega
      have ka : ¬ ((zs.length : Int) < (zs.length : Int)) := by omega
      rw [List.take_of_length_le (by simp)] at hown
      obtain ⟨g, cp, rfl, hg, hcp, hcells⟩ := row_atF hown hpos
      have hxs : ((zs.map Lib.itoa).map fun p => (⟨p.toArray⟩ : ByteArray)).length = zs.length := by simp
      have hcl : ∀ (j : Nat) x, ((zs.map Lib.itoa).map fun p => (⟨p.toArray⟩ : ByteArray))[j]? = some x → wr.cell? ⟨g, 0 + j, none⟩ = some (.string x) := by
        intro j x hj
        rw [Nat.zero_add]
        refine hcells j _ ?_
        unfold texts
        rw [List.getElem?_map] at hj ⊢
        cases hh : (zs.map Lib.itoa)[j]? with
        | none => rw [hh] at hj; simp at hj
        | some p => rw [hh] at hj; simp at hj; rw [← hj]; rfl
      have hjn : Lib.join (((zs.map Lib.itoa).map fun p => (⟨p.toArray⟩ : ByteArray)).map (·.data.toList)) (⟨#[32]⟩ : ByteArray).data.toList = numsT zs := by
        unfold numsT
        rw [List.map_map]
        congr 1
        exact List.map_id'' (fun _ => rfl) _
      have hlen := nums_len hz zs.length (Nat.le_refl _)
      rw [List.take_length] at hlen
      have C := Tryd.strings_Join g 0 cp ((zs.map Lib.itoa).map fun p => (⟨p.toArray⟩ : ByteArray)) ⟨#[32]⟩ wr hcl hg (by omega) (by omega) (by rw [hjn]; omega)
      rw [hxs, hjn] at C
      have HC := Lib.hid C
      clear C hjn hxs hcl hcells
      go_wp2_with (go_at_call 40; refine HC.out.mono ?_; rintro e W2 ⟨rfl, hb2⟩)
      go_ret
      exact ⟨by rw [HR.out]; unfold numsL; rw [if_neg H0.out]; rfl, hB.trans (hb2.mono hB.size)⟩
end Go.Proofs.YtgkgkaapjljpcaaDoor

