/- Chapter 6, the laws' own helpers: a list of lines marked. -/
import Derived.Test.YtgdgbjnmibkmhaaGreatDoorHC
namespace Go.Proofs.YtgdgbjnmibkmhaaGreatDoor
open Go.ChangeShapes Go.WideShapes Go.ChangeAt Go.RowKit Go.Shelf
attribute [local go_sem] Oper.semAt_some
set_option maxRecDepth 100000

/-- A bound on how much is written: l bytes so far, m to come. -/
def FewW (m l : Nat) : Prop := m * 10 ^ l ≤ 1000000000
theorem FewW.len {m l : Nat} (h : FewW m l) (hm : 0 < m) : l ≤ 9 := by
  unfold FewW at h
  rcases Nat.lt_or_ge 9 l with h1 | h1
  · have h2 : 10 ^ 10 ≤ 10 ^ l := Nat.pow_le_pow_right (by omega) h1
    have h3 : 10 ^ l ≤ m * 10 ^ l := Nat.le_mul_of_pos_left _ hm
    omega
  · exact h1
theorem FewW.step {m l : Nat} (h : FewW m l) : FewW (m / 10) (l + 1) := by
  unfold FewW at *
  have h1 : m / 10 * 10 ^ (l + 1) = (m / 10 * 10) * 10 ^ l := by rw [Nat.pow_succ, Nat.mul_assoc, Nat.mul_comm 10 (10 ^ l)]
  rw [h1]
  exact Nat.le_trans (Nat.mul_le_mul_right _ (Nat.div_mul_le_self m 10)) h
theorem one_sizeW (x : Int) (acc : ByteArray) : (strOfNums [x] ++ acc).size = acc.size + 1 := by
  rw [ByteArray.size_append, strOfNums_size]; simp; omega

set_option maxHeartbeats 1000000 in
theorem mark50w (k : Nat) (h0 : 1 ≤ k) (h1 : k ≤ 1000000000) (W : World) :
    Calls Tryz.prog 55 #[.int .i64 (k : Int)] W fun e w' => e = .returned (.string (markF k)) ∧ Below W.heap.size W w' := by
  have k0 : (0 : Int) < (k : Int) := by omega
  go_enter Tryz.func55, Tryz.ntmps55
  go_wp2
  go_loopw [0, 3] (fun n s wr => ∃ (m : Nat) (acc : ByteArray), m ≤ 1000000000 ∧ n = .int .i64 (m : Int) ∧ s = .string acc ∧ markGo m acc = markGo k ⟨#[]⟩ ∧ FewW m acc.size ∧ acc.size ≤ 10 ∧ Below W.heap.size W wr) (fun n _ _ => (intOf n).toNat)
  case atStart => exact ⟨k, ⟨#[]⟩, h1, rfl, rfl, rfl, by unfold FewW; simp [ByteArray.size]; omega, by simp [ByteArray.size], Below.refl _ _⟩
  case round =>
    obtain ⟨m, acc, hm, rfl, rfl, hgo, hfew, hl, hB⟩ := hrel
    have HG := Lib.hid hgo
    have HF := Lib.hid hfew
    clear hgo hfew
    by_cases hm0 : m = 0
    · subst hm0
      have hl2 : 1 + acc.size ≤ 9223372036854775807 := by omega
      go_wp2
      go_ret
      refine ⟨?_, hB⟩
      have := HG.out
      rw [markGo_zero] at this
      rw [this]
      rfl
    · have hk := conv_oneG wr (48 + (m : Int) % 10) wr.heap.size rfl
      have m0 : (0 : Int) < (m : Int) := by omega
      have m1 : (m : Int) ≤ 1000000000 := by omega
      have hl3 := HF.out.len (by omega)
      have hsz : (strOfNums [48 + (m : Int) % 10]).size = 1 := by rw [strOfNums_size]; rfl
      have hl2 : (strOfNums [48 + (m : Int) % 10]).size + acc.size ≤ 9223372036854775807 := by rw [hsz]; omega
      go_wp2
      go_roundw
      case rel =>
        exact ⟨m / 10, strOfNums [48 + (m : Int) % 10] ++ acc, by omega, by go_num, rfl, by rw [← markGo_pos (by omega)]; exact HG.out, by rw [one_sizeW]; exact HF.out.step, by rw [one_sizeW]; omega, hB.alloc hB.size _⟩
      case measure => simp [intOf]; omega

theorem mark50n (m d : Nat) (hm : m + d ≤ 1000000000) (h1 : 1 ≤ m + d) (z : Int) (hz : z = (m : Int) + (d : Int)) (W : World) :
    Calls Tryz.prog 55 #[.int .i64 z] W fun e w' => ∃ s : ByteArray, e = .returned (.string s) ∧ Below W.heap.size W w' := by
  have h := mark50w (m + d) h1 hm W
  have e : (((m + d : Nat)) : Int) = z := by omega
  rw [e] at h
  exact h.mono fun e w' ⟨h1, h2⟩ => ⟨_, h1, h2⟩
/-! ### A list marked -/
/-- Nothing is written but blocks from g up to hi, and new ones. -/
structure Out (g hi : Nat) (W W' : World) : Prop where
  os : W'.os = W.os
  tape : W'.tape = W.tape
  output : W'.output = W.output
  size : W.heap.size ≤ W'.heap.size
  block : ∀ i, i < W.heap.size → (i < g ∨ hi ≤ i) → W'.heap[i]? = W.heap[i]?
theorem Out.refl (g hi : Nat) (W : World) : Out g hi W W := ⟨rfl, rfl, rfl, Nat.le_refl _, fun _ _ _ => rfl⟩
theorem Out.trans {g hi : Nat} {A B C : World} (h : Out g hi A B) (k : Out g hi B C) : Out g hi A C :=
  ⟨k.os.trans h.os, k.tape.trans h.tape, k.output.trans h.output, Nat.le_trans h.size k.size, fun i hi' ho => (k.block i (Nat.lt_of_lt_of_le hi' h.size) ho).trans (h.block i hi' ho)⟩
theorem Out.of_below {g hi : Nat} {A B : World} (h : Below A.heap.size A B) : Out g hi A B := ⟨h.os, h.tape, h.output, h.size, fun i hi' _ => h.block i hi'⟩
theorem Out.of_grown {g hi r : Nat} {A B : World} (h : A.grownBy B (some r)) (h1 : g ≤ r) (h2 : r < hi) : Out g hi A B :=
  ⟨h.os, h.tape, h.output, h.size, fun i hi' ho => h.block i hi' (by intro e; cases e; omega)⟩
theorem Out.set {g hi : Nat} {A : World} (h : g < hi) (i : Nat) (v : Value) : Out g hi A (A.setCell ⟨g, i, none⟩ v) :=
  ⟨rfl, rfl, rfl, by simp, fun j _ ho => heap_setCell_other A ⟨g, i, none⟩ j v (by show j ≠ g; omega)⟩
/-- The references of a line of the list: a row of one's own, of so many numbers. -/
def RefsAt (g hi : Nat) (W : World) (o n : Nat) : Prop := ∃ h zs, W.cell? ⟨g, o, none⟩ = some (.slice (some ⟨h, 0, none⟩) n n) ∧ g < h ∧ h < hi ∧ zs.length = n ∧ IRow W (g + 1) (.slice (some ⟨h, 0, none⟩) n n) zs
theorem irow_block {W : World} {B h n : Nat} {zs : List Int} (hr : IRow W B (.slice (some ⟨h, 0, none⟩) n n) zs) : ∃ cur, W.heap[h]? = some (.cells cur 3 (0, 0)) ∧ cur.size = n := by
  rcases hr.2 with ⟨e, _⟩ | ⟨g, cap, cur, e, _, c, d⟩
  · cases e
  · simp only [Value.slice.injEq, Option.some.injEq, Addr.mk.injEq] at e
    obtain ⟨⟨rfl, _⟩, _, rfl⟩ := e
    exact ⟨cur, c, by have := d.2.2.1; omega⟩
theorem BlkAt.grown {W W' : World} {g n r : Nat} (h : BlkAt W g n) (hg : W.grownBy W' (some r)) (hne : g ≠ r) : BlkAt W' g n := by
  have hl := h.lt
  obtain ⟨arr, h, hs⟩ := h
  exact ⟨arr, (hg.block g hl (by intro e; cases e; exact hne rfl)).trans h, hs⟩
theorem RefsAt.below {g hi : Nat} {W W' : World} {o n : Nat} (h : RefsAt g hi W o n) (hb : Below W.heap.size W W') : RefsAt g hi W' o n := by
  obtain ⟨k, zs, a, b, c, d, e⟩ := h
  exact ⟨k, zs, cell_below hb a, b, c, d, e.below hb⟩
theorem RefsAt.set {g hi : Nat} {W : World} {o n : Nat} (h : RefsAt g hi W o n) {i : Nat} (hi' : i ≠ o) (v : Value) : RefsAt g hi (W.setCell ⟨g, i, none⟩ v) o n := by
  obtain ⟨k, zs, a, b, c, d, e⟩ := h
  exact ⟨k, zs, keep_cell a hi', b, c, d, e.set_low (Nat.lt_succ_self _) v⟩
theorem RefsAt.marked {g hi : Nat} {W W' : World} {o n h m : Nat} {zs ys : List Int} (hr : RefsAt g hi W o n) (hg : W.grownBy W' (some h)) (hh : g < h) (h0 : IRow W (g + 1) (.slice (some ⟨h, 0, none⟩) m m) zs) (h1 : IRow W' (g + 1) (.slice (some ⟨h, 0, none⟩) m m) ys) (hy : ys.length = m) : RefsAt g hi W' o n := by
  obtain ⟨k, xs, a, b, c, d, e⟩ := hr
  have ha : W'.cell? ⟨g, o, none⟩ = some (.slice (some ⟨k, 0, none⟩) n n) := (World.cell?_of_block (a := ⟨g, o, none⟩) (hg.block g (cell_ltO a) (by intro q; cases q; omega))).trans a
  by_cases hk : k = h
  · subst hk
    obtain ⟨c1, e1, s1⟩ := irow_block e
    obtain ⟨c2, e2, s2⟩ := irow_block h0
    rw [e1] at e2
    cases e2
    have : n = m := by omega
    subst this
    exact ⟨k, ys, ha, b, c, hy, h1⟩
  · exact ⟨k, xs, ha, b, c, d, e.kept hg (.inr (by simp [Value.ownBlock]; exact hk))⟩
def rsum (ls : List LineD) : Nat := (ls.map fun l => l.refs.length).sum
theorem rsum_succ {ls : List LineD} {k : Nat} {l : LineD} (h : ls[k]? = some l) : rsum (ls.take (k + 1)) = rsum (ls.take k) + l.refs.length := by
  unfold rsum
  rw [List.take_add_one, h]
  simp
theorem rsum_take (ls : List LineD) (k : Nat) : rsum (ls.take k) ≤ rsum ls := by
  have : rsum ls = rsum (ls.take k) + rsum (ls.drop k) := by
    unfold rsum
    rw [← List.sum_append, ← List.map_append, List.take_append_drop]
  omega
set_option maxHeartbeats 4000000 in
theorem mkL60 {W : World} {g hi : Nat} {ls : List LineD} (hB : BlkAt W g (ls.length * 6)) (hR : ∀ (j : Nat) l, ls[j]? = some l → RefsAt g hi W (j * 6 + 5) l.refs.length) (hg : g < hi) (hn : ls.length + rsum ls ≤ 1048576) :
    Calls Tryz.prog 29 #[.slice (some ⟨g, 0, none⟩) ls.length ls.length, .int .i64 1] W fun e W' => e = .returned (.int .i64 ((1 + 5 * ls.length + rsum ls : Nat) : Int)) ∧ Out g hi W W' := by
  have hni : (ls.length : Int) ≤ 1048576 := by omega
  obtain ⟨W0, hW0⟩ : ∃ W0, W0 = W := ⟨_, rfl⟩
  go_enter Tryz.func29, Tryz.ntmps29
  go_wp2_with fail
  go_loopw [1, 5] (fun q i wr => ∃ k : Nat, k ≤ ls.length ∧ i = .int .i64 (k : Int) ∧ q = .int .i64 ((1 + 5 * k + rsum (ls.take k) : Nat) : Int) ∧ BlkAt wr g (ls.length * 6) ∧ (∀ (j : Nat) l, ls[j]? = some l → RefsAt g hi wr (j * 6 + 5) l.refs.length) ∧ Out g hi W0 wr) (fun _ i _ => ls.length - (intOf i).toNat)
  case atStart => exact ⟨0, by omega, rfl, by simp [rsum], hB, hR, hW0 ▸ Out.refl g hi _⟩
  case round =>
    obtain ⟨k, hk, rfl, rfl, hBk, hRk, hO⟩ := hrel
    by_cases hlt : k < ls.length
    · have hlt2 : (k : Int) < (ls.length : Int) := by omega
      have hl : ls[k]? = some ls[k] := List.getElem?_eq_getElem hlt
      have hsucc := rsum_succ hl
      have htot := rsum_take ls (k + 1)
      generalize ls[k] = l at hl hsucc
      generalize hm : 1 + 5 * k + rsum (ls.take k) = m
      have hmb : m + l.refs.length + 5 ≤ 7000000 := by omega
      have hmi : (m : Int) ≤ 7000000 := by omega
      obtain ⟨u0, y0⟩ := hBk.cell (i := k * 6) (by omega)
      have f0 := hBk.frozen (k * 6)
      have d0 := hBk.set (k * 6) (.int .i64 (m : Int))
      have s0 := fun (j : Nat) l' (hl' : ls[j]? = some l') => (hRk j l' hl').set (i := k * 6) (by omega) (.int .i64 (m : Int))
      have o0 := hO.trans (Out.set (A := wr) hg (k * 6) (.int .i64 (m : Int)))
      clear hB hR
      go_wp2_with fail
      go_at_call 55
      refine (mark50n m 1 (by omega) (by omega) _ (by omega) _).mono ?_
      rintro e W1 ⟨t1, rfl, b1⟩
      have d1 := d0.below b1 d0.lt
      have s1 := fun (j : Nat) l' (hl' : ls[j]? = some l') => (s0 j l' hl').below b1
      have o1 := o0.trans (Out.of_below b1)
      clear d0 s0 o0 b1 y0 f0 hBk hRk hO
      obtain ⟨u1, y1⟩ := d1.cell (i := k * 6 + 1) (by omega)
      obtain ⟨u2, y2⟩ := d1.cell (i := k * 6 + 2) (by omega)
      obtain ⟨u3, y3⟩ := d1.cell (i := k * 6 + 3) (by omega)
      have f1 := d1.frozen (k * 6 + 1)
      have f2 := d1.frozen (k * 6 + 2)
      have f3 := d1.frozen (k * 6 + 3)
      go_wp2_with fail
      go_at_call 55
      refine (mark50n m 4 (by omega) (by omega) _ (by omega) _).mono ?_
      rintro e W2 ⟨t2, rfl, b2⟩
      have d2 := (((d1.set (k * 6 + 1) _).set (k * 6 + 2) _).set (k * 6 + 3) _).below b2 (((d1.set (k * 6 + 1) _).set (k * 6 + 2) _).set (k * 6 + 3) _).lt
      have s2 := fun (j : Nat) l' (hl' : ls[j]? = some l') => ((((s1 j l' hl').set (i := k * 6 + 1) (by omega) _).set (i := k * 6 + 2) (by omega) _).set (i := k * 6 + 3) (by omega) _).below b2
      have o2 := (((o1.trans (Out.set (A := W1) hg (k * 6 + 1) _)).trans (Out.set hg (k * 6 + 2) _)).trans (Out.set hg (k * 6 + 3) _)).trans (Out.of_below b2)
      clear d1 s1 o1 b2 y1 y2 y3 f1 f2 f3
      obtain ⟨u4, y4⟩ := d2.cell (i := k * 6 + 4) (by omega)
      have f4 := d2.frozen (k * 6 + 4)
      have d3 := d2.set (k * 6 + 4) (.string t2)
      have s3 := fun (j : Nat) l' (hl' : ls[j]? = some l') => (s2 j l' hl').set (i := k * 6 + 4) (by omega) (.string t2)
      have o3 := o2.trans (Out.set hg (k * 6 + 4) (.string t2))
      obtain ⟨hb, zs, c5, g1, g2, zl, hrow⟩ := s3 k l hl
      have C := fun (z : Int) (z0 : 0 ≤ z) (z1 : z ≤ 4000000000) => imk30row (W2.setCell ⟨g, k * 6 + 4, none⟩ (.string t2)) (g + 1) hb l.refs.length zs z z0 z1 (by omega) (by rw [zl]; exact hrow)
      rw [zl] at C
      clear d2 s2 o2
      go_wp2_with fail
      go_at_call 30
      refine (C _ (by omega) (by omega)).mono ?_
      rintro e W3 ⟨rfl, hrow3, g3⟩
      have d4 := d3.grown g3 (by omega)
      have s4 := fun (j : Nat) l' (hl' : ls[j]? = some l') => (s3 j l' hl').marked g3 g1 hrow hrow3 ((imk_len _ zs l.refs.length (by omega)).trans zl)
      have o4 := o3.trans (Out.of_grown g3 (Nat.le_of_lt g1) g2)
      clear d3 s3 o3 hrow hrow3 C c5 g3
      have HS := Lib.hid hsucc
      have HMm := Lib.hid hm
      clear hsucc hm
      go_wp2_with fail
      go_roundw
      case rel => exact ⟨k + 1, by omega, by go_num, by have h1 := HS.out; have h2 := HMm.out; congr 1; omega, d4, s4, o4⟩
      case measure => simp [intOf]; omega
    · have hkn : k = ls.length := by omega
      have hge : ¬ ((k : Int) < (ls.length : Int)) := by omega
      have htk : ls.take k = ls := by rw [hkn, List.take_length]
      rw [htk]
      go_wp2_with fail
      go_ret
      exact ⟨rfl, hW0 ▸ hO⟩
end Go.Proofs.YtgdgbjnmibkmhaaGreatDoor

