/- All tests, by the program: the tests of a variable, and lists joined. -/
import Derived.Test.YtemilnkglkpnjaaDoorCutS
namespace Go.Proofs.YtemilnkglkpnjaaDoor
open Go.ChangeShapes Go.WideShapes Go.ChangeAt Go.RowKit Go.Shelf
set_option maxRecDepth 100000
attribute [local go_sem] Oper.semAt_some

def tails : List (List UInt8) := [[61, 48], [61, 49], [61, 50], [35, 48], [35, 49], [35, 50], [60, 49], [60, 50]]
/-- The tests that compare both variables. -/
def both : List (List UInt8) := [[120, 61, 121], [120, 35, 121], [120, 60, 121], [121, 60, 120]]
theorem add_block (x : Addr) (i : Nat) : (x.add i).block = x.block := by
  unfold Addr.add
  split <;> rfl
/-- A package variable that holds a slice of texts; all of it lies below N. -/
def TableAt (N gv n : Nat) (ts : List (List UInt8)) (x : Addr) (c : Nat) (W : World) : Prop :=
  W.cell? ⟨gv, 0, none⟩ = some (.slice (some x) n c) ∧ (∀ (i : Nat) b, ts[i]? = some b → W.cell? (x.add i) = some (.string ⟨b.toArray⟩)) ∧ gv < N ∧ x.block < N
theorem TableAt.below {N gv n : Nat} {ts : List (List UInt8)} {x : Addr} {c : Nat} {W W' : World} (h : TableAt N gv n ts x c W) {m : Nat} (hb : Below m W W') (hn : N ≤ m) : TableAt N gv n ts x c W' :=
  ⟨(hb.cell (p := ⟨gv, 0, none⟩) (Nat.lt_of_lt_of_le h.2.2.1 hn)).trans h.1, fun i b hi => (hb.cell (p := x.add i) (by rw [add_block]; exact Nat.lt_of_lt_of_le h.2.2.2 hn)).trans (h.2.1 i b hi), h.2.2⟩
theorem TableAt.grown {N gv n : Nat} {ts : List (List UInt8)} {x : Addr} {c : Nat} {W W' : World} (h : TableAt N gv n ts x c W) {r : Nat} (hb : W.grownBy W' (some r)) (hN : N ≤ W.heap.size) (hn : N ≤ r) : TableAt N gv n ts x c W' := by
  have hc : ∀ (a : Addr), a.block < N → W'.cell? a = W.cell? a := fun a ha =>
    World.cell?_of_block (w := W) (w' := W') (a := a) (hb.block a.block (by omega) (by simp; omega))
  exact ⟨(hc ⟨gv, 0, none⟩ h.2.2.1).trans h.1, fun i b hi => (hc (x.add i) (by rw [add_block]; exact h.2.2.2)).trans (h.2.1 i b hi), h.2.2⟩
/-- What the two package variables hold; all of it lies below N. -/
def Laid (N : Nat) (W : World) : Prop := (∃ g c, TableAt N 3 8 tails g c W) ∧ (∃ g c, TableAt N 1 4 both g c W) ∧ N ≤ W.heap.size
theorem Laid.below {N : Nat} {W W' : World} (h : Laid N W) {n : Nat} (hb : Below n W W') (hn : N ≤ n) : Laid N W' := by
  obtain ⟨⟨g, c, h1⟩, ⟨g', c', h2⟩, hz⟩ := h
  exact ⟨⟨g, c, h1.below hb hn⟩, ⟨g', c', h2.below hb hn⟩, Nat.le_trans hz hb.size⟩
theorem Laid.grown {N : Nat} {W W' : World} (h : Laid N W) {r : Nat} (hb : W.grownBy W' (some r)) (hn : N ≤ r) : Laid N W' := by
  obtain ⟨⟨g, c, h1⟩, ⟨g', c', h2⟩, hz⟩ := h
  exact ⟨⟨g, c, h1.grown hb hz hn⟩, ⟨g', c', h2.grown hb hz hn⟩, Nat.le_trans hz hb.size⟩

/-- The tests of a variable. -/
def ofVar (c : UInt8) : List (List UInt8) := tails.map fun p => c :: p

theorem tails_two : ∀ p ∈ tails, p.length = 2 := by decide
theorem ofVar_len (c : UInt8) : (ofVar c).length = 8 := by simp [ofVar, tails]
theorem ofVar_take {c : UInt8} {k : Nat} {p : List UInt8} (h : tails[k]? = some p) : (ofVar c).take (k + 1) = (ofVar c).take k ++ [c :: p] := by
  unfold ofVar
  rw [List.take_add_one, List.getElem?_map, h]
  rfl
theorem cat_one (c : UInt8) (p : List UInt8) : (⟨#[c]⟩ : ByteArray) ++ ⟨p.toArray⟩ = ⟨(c :: p).toArray⟩ := by
  apply ByteArray.ext
  rw [ByteArray.data_append]
  simp

set_option maxHeartbeats 1000000 in
theorem testsOf49 (c : UInt8) (w : World) {N : Nat} (hL : Laid N w) :
    Calls Tryd.prog 81 #[.string ⟨#[c]⟩] w fun e W' => ∃ v, e = .returned v ∧ W'.ownsRow w.heap.size 9 1 v 8 (texts (ofVar c)) ∧ Below w.heap.size w W' := by
  obtain ⟨⟨g8, c8, a0, ha, _, hg8⟩, _, hz⟩ := hL
  have HA := Lib.hid ha
  clear ha
  obtain ⟨i0, hi, hz0, hz1, hz2⟩ := info_parts Tryd.info9
  go_enter Tryd.func81, Tryd.ntmps81
  go_wp2
  go_loopw [3, 8] (fun o i wr => ∃ k : Nat, k ≤ 8 ∧ i = .int .i64 k ∧ wr.ownsRow w.heap.size 9 1 o k (texts ((ofVar c).take k)) ∧ Below w.heap.size w wr) (fun _ i _ => 8 - (intOf i).toNat)
  case atStart => exact ⟨0, by omega, rfl, World.ownsRow_nil _ _ _ _, Below.refl _ _⟩
  case round =>
    obtain ⟨k, hk, rfl, hown, hB⟩ := hrel
    by_cases hlt : k < 8
    · obtain ⟨p, hp⟩ : ∃ p, tails[k]? = some p := ⟨_, List.getElem?_eq_getElem hlt⟩
      have hx := (hB.cell (p := g8.add k) (by rw [add_block]; exact Nat.lt_of_lt_of_le hg8 hz)).trans (HA.out k p hp)
      have ht := Lib.hid (ofVar_take (c := c) hp)
      have hcat := cat_one c p
      have hpl : p.length = 2 := tails_two p (List.mem_of_getElem? hp)
      have hpm : 1 + p.length ≤ 9223372036854775807 := by omega
      clear hp hpl
      go_wp2_with (at_builtin; refine wpList_append_own _ rfl _ _ 24 rfl w.heap.size 9 i0 (.string ⟨#[]⟩) 1 16 Tryd.underlying24 hi hz0 hz1 hz2 rfl (by decide) _ _ _ rfl (hown.alloc _) ⟨wr.heap.size, 0, none⟩ 1 1 [.string ⟨(c :: p).toArray⟩] rfl (by rfl) (by rw [← hcat]; exact cell_one_new _ _ _) (by simp [Value.oneCell']) (by unfold maxLen; omega) (by omega) (by have := hB.size; simp; omega) ?_; intro v' w1 hown' hgrow _; have hE := (hB.alloc hB.size _).grown hgrow (by have := hB.size; simp; omega) (fun i e => (hown.lt i e).1); clear hgrow)
      go_roundw
      case rel => exact ⟨k + 1, by omega, by go_num, by rw [ht.out, texts_snoc]; exact hown', hE⟩
      case measure => simp [intOf]; omega
    · obtain rfl : k = 8 := by omega
      go_wp2
      go_ret
      exact ⟨_, rfl, by rw [List.take_of_length_le (by rw [ofVar_len]; exact Nat.le_refl _)] at hown; exact hown, hB⟩

theorem add_at (g j : Nat) : (⟨g, 0, none⟩ : Addr).add j = ⟨g, j, none⟩ := by
  unfold Addr.add
  by_cases h : j = 0
  · subst h; simp
  · simp [h]
theorem row_at {W : World} {B n : Nat} {v : Value} {ws : List (List UInt8)} (h : W.ownsRow B 9 1 v n (texts ws)) (hn0 : 0 < n) :
    ∃ g cap, v = .slice (some ⟨g, 0, none⟩) n cap ∧ B ≤ g ∧ g < W.heap.size ∧ ∀ (j : Nat) u, (texts ws)[j]? = some u → W.cell? ⟨g, j, none⟩ = some u := by
  rcases h.2 with ⟨_, h0⟩ | ⟨g, cap, cur, rfl, hb, hg, hn, hm, _⟩
  · omega
  · refine ⟨g, cap, rfl, hb, (Array.getElem?_eq_some_iff.1 hg).1, fun j u hu => ?_⟩
    have := World.ownsRow.cells h (g := g) rfl j u hu
    rw [add_at] at this
    exact this

/-- What has been joined after k lists. -/
def upList : Nat → List (List UInt8)
  | 0 => []
  | 1 => ofVar 120
  | 2 => ofVar 120 ++ ofVar 121
  | _ => tests
def upLen : Nat → Nat
  | 0 => 0
  | 1 => 8
  | 2 => 16
  | _ => 20
theorem up_three : (ofVar 120 ++ ofVar 121) ++ both = tests := by decide
theorem texts_append (a b : List (List UInt8)) : texts (a ++ b) = texts a ++ texts b := by simp [texts]
theorem texts_cells (ws : List (List UInt8)) : ∀ u ∈ texts ws, u.oneCell' = true := by
  intro u hu
  obtain ⟨p, _, rfl⟩ := List.mem_map.1 hu
  simp [Value.oneCell']

set_option maxHeartbeats 1000000 in
theorem joined48 (w : World) (g g1 g2 : Nat) (g4 : Addr) (c1 c2 c4 : Nat) (h0 : w.cell? ⟨g, 0, none⟩ = some (.slice (some ⟨g1, 0, none⟩) 8 c1)) (h1 : w.cell? ⟨g, 1, none⟩ = some (.slice (some ⟨g2, 0, none⟩) 8 c2))
    (h2 : w.cell? ⟨g, 2, none⟩ = some (.slice (some g4) 4 c4)) (n1 : ∀ (j : Nat) u, (texts (ofVar 120))[j]? = some u → w.cell? ⟨g1, j, none⟩ = some u) (n2 : ∀ (j : Nat) u, (texts (ofVar 121))[j]? = some u → w.cell? ⟨g2, j, none⟩ = some u)
    (n3 : ∀ (j : Nat) u, (texts both)[j]? = some u → w.cell? (g4.add j) = some u) (b0 : g < w.heap.size) (b1 : g1 < w.heap.size) (b2 : g2 < w.heap.size) (b3 : g4.block < w.heap.size) :
    Calls Tryd.prog 80 #[.slice (some ⟨g, 0, none⟩) 3 3] w fun e W' => ∃ v, e = .returned v ∧ W'.ownsRow w.heap.size 9 1 v 20 (texts tests) ∧ Below w.heap.size w W' := by
  obtain ⟨i0, hi, hz0, hz1, hz2⟩ := info_parts Tryd.info9
  have N1 := Lib.hid n1
  have N2 := Lib.hid n2
  have N3 := Lib.hid n3
  clear n1 n2 n3
  go_enter Tryd.func80, Tryd.ntmps80
  go_wp2
  go_loopw [3, 8] (fun o i wr => ∃ k : Nat, k ≤ 3 ∧ i = .int .i64 k ∧ wr.ownsRow w.heap.size 9 1 o (upLen k) (texts (upList k)) ∧ Below w.heap.size w wr) (fun _ i _ => 3 - (intOf i).toNat)
  case atStart => exact ⟨0, by omega, rfl, World.ownsRow_nil _ _ _ _, Below.refl _ _⟩
  case round =>
    obtain ⟨k, hk, rfl, hown, hB⟩ := hrel
    by_cases hlt : k < 3
    · rcases (by omega : k = 0 ∨ k = 1 ∨ k = 2) with rfl | rfl | rfl
      · have d0 := (hB.cell (p := ⟨g, 0, none⟩) b0).trans h0
        clear h0 h1 h2
        go_wp2_with (at_builtin; refine wpList_append_own _ rfl _ _ 24 rfl w.heap.size 9 i0 (.string ⟨#[]⟩) 1 16 Tryd.underlying24 hi hz0 hz1 hz2 rfl (by decide) _ _ _ rfl hown ⟨g1, 0, none⟩ 8 c1 (texts (ofVar 120)) rfl (by decide) (fun j u hu => by rw [add_at]; exact (hB.cell (p := ⟨g1, j, none⟩) b1).trans (N1.out j u hu)) (texts_cells _) (by decide) (by decide) hB.size ?_; intro v' w1 hown' hgrow _; have hE := hB.grown hgrow hB.size (fun i e => (hown.lt i e).1); clear hgrow)
        go_roundw
        case rel => exact ⟨1, by omega, by go_num, by simpa [upLen, upList, texts] using hown', hE⟩
        case measure => simp [intOf]
      · have d0 := (hB.cell (p := ⟨g, 1, none⟩) b0).trans h1
        clear h0 h1 h2
        go_wp2_with (at_builtin; refine wpList_append_own _ rfl _ _ 24 rfl w.heap.size 9 i0 (.string ⟨#[]⟩) 1 16 Tryd.underlying24 hi hz0 hz1 hz2 rfl (by decide) _ _ _ rfl hown ⟨g2, 0, none⟩ 8 c2 (texts (ofVar 121)) rfl (by decide) (fun j u hu => by rw [add_at]; exact (hB.cell (p := ⟨g2, j, none⟩) b2).trans (N2.out j u hu)) (texts_cells _) (by decide) (by decide) hB.size ?_; intro v' w1 hown' hgrow _; have hE := hB.grown hgrow hB.size (fun i e => (hown.lt i e).1); clear hgrow)
        go_roundw
        case rel => exact ⟨2, by omega, by go_num, by rw [← texts_append] at hown'; exact hown', hE⟩
        case measure => simp [intOf]
      · have d0 := (hB.cell (p := ⟨g, 2, none⟩) b0).trans h2
        clear h0 h1 h2
        go_wp2_with (at_builtin; refine wpList_append_own _ rfl _ _ 24 rfl w.heap.size 9 i0 (.string ⟨#[]⟩) 1 16 Tryd.underlying24 hi hz0 hz1 hz2 rfl (by decide) _ _ _ rfl hown g4 4 c4 (texts both) rfl (by decide) (fun j u hu => (hB.cell (p := g4.add j) (by rw [add_block]; exact b3)).trans (N3.out j u hu)) (texts_cells _) (by decide) (by decide) hB.size ?_; intro v' w1 hown' hgrow _; have hE := hB.grown hgrow hB.size (fun i e => (hown.lt i e).1); clear hgrow)
        go_roundw
        case rel => exact ⟨3, by omega, by go_num, by rw [show upList 2 = ofVar 120 ++ ofVar 121 from rfl, ← texts_append, up_three] at hown'; exact hown', hE⟩
        case measure => simp [intOf]
    · obtain rfl : k = 3 := by omega
      go_wp2
      go_ret
      exact ⟨_, rfl, hown, hB⟩

theorem Laid.drew {N : Nat} {W : World} (h : Laid N W) : Laid N W.drew := h
theorem Laid.lt {N : Nat} {W : World} (h : Laid N W) : N ≤ W.heap.size := h.2.2
theorem texts_at4 {W : World} {x : Addr} {ts : List (List UInt8)} (h : ∀ (i : Nat) b, ts[i]? = some b → W.cell? (x.add i) = some (.string ⟨b.toArray⟩)) : ∀ (j : Nat) u, (texts ts)[j]? = some u → W.cell? (x.add j) = some u := by
  intro j u hu
  unfold texts at hu
  rw [List.getElem?_map] at hu
  cases hb : ts[j]? with
  | none => rw [hb] at hu; cases hu
  | some b => rw [hb] at hu; cases hu; exact h j b hb
theorem made3 (W : World) (a b c : Value) (t : TypeId) :
    (W.alloc (.cells #[a, b, c] t)).cell? ⟨W.heap.size, 0, none⟩ = some a ∧ (W.alloc (.cells #[a, b, c] t)).cell? ⟨W.heap.size, 1, none⟩ = some b ∧ (W.alloc (.cells #[a, b, c] t)).cell? ⟨W.heap.size, 2, none⟩ = some c :=
  ⟨by rw [cell_of_row _ W.heap.size 0 _ t (0, 0) (heap_alloc_new W _)]; rfl, by rw [cell_of_row _ W.heap.size 1 _ t (0, 0) (heap_alloc_new W _)]; rfl, by rw [cell_of_row _ W.heap.size 2 _ t (0, 0) (heap_alloc_new W _)]; rfl⟩

/-- The lists lie in a slice that was just made: the same, told from the world ahead of it. -/
theorem joined48new (W : World) (g1 g2 : Nat) (g4 : Addr) (c1 c2 c4 : Nat) (n1 : ∀ (j : Nat) u, (texts (ofVar 120))[j]? = some u → W.cell? ⟨g1, j, none⟩ = some u) (n2 : ∀ (j : Nat) u, (texts (ofVar 121))[j]? = some u → W.cell? ⟨g2, j, none⟩ = some u)
    (n3 : ∀ (j : Nat) u, (texts both)[j]? = some u → W.cell? (g4.add j) = some u) (b3 : g4.block < W.heap.size) (b1 : g1 < W.heap.size) (b2 : g2 < W.heap.size) :
    Calls Tryd.prog 80 #[.slice (some ⟨W.heap.size, 0, none⟩) 3 3] (W.alloc (.cells #[.slice (some ⟨g1, 0, none⟩) 8 c1, .slice (some ⟨g2, 0, none⟩) 8 c2, .slice (some g4) 4 c4] 24))
      fun e W' => ∃ v, e = .returned v ∧ W'.ownsRow W.heap.size 9 1 v 20 (texts tests) ∧ Below W.heap.size W W' := by
  have hm := made3 W (.slice (some ⟨g1, 0, none⟩) 8 c1) (.slice (some ⟨g2, 0, none⟩) 8 c2) (.slice (some g4) 4 c4) 24
  have hb : Below W.heap.size W (W.alloc (.cells #[.slice (some ⟨g1, 0, none⟩) 8 c1, .slice (some ⟨g2, 0, none⟩) 8 c2, .slice (some g4) 4 c4] 24)) := (Below.refl _ _).alloc (Nat.le_refl _) _
  refine (joined48 _ W.heap.size g1 g2 g4 c1 c2 c4 hm.1 hm.2.1 hm.2.2 (fun j u hu => (hb.cell (p := ⟨g1, j, none⟩) b1).trans (n1 j u hu)) (fun j u hu => (hb.cell (p := ⟨g2, j, none⟩) b2).trans (n2 j u hu))
    (fun j u hu => (hb.cell (p := g4.add j) (by rw [add_block]; exact b3)).trans (n3 j u hu)) (by simp) (Nat.lt_of_lt_of_le b1 hb.size) (Nat.lt_of_lt_of_le b2 hb.size) (Nat.lt_of_lt_of_le b3 hb.size)).mono ?_
  rintro e W' ⟨v, he, ho, hB⟩
  refine ⟨v, he, ?_, hb.trans (hB.mono hb.size)⟩
  obtain ⟨h1, h2⟩ := ho
  refine ⟨h1, ?_⟩
  rcases h2 with h2 | ⟨g, cap, cur, a, b, c⟩
  · exact .inl h2
  · exact .inr ⟨g, cap, cur, a, Nat.le_trans hb.size b, c⟩

theorem own_base {W : World} {B B' n : Nat} {v : Value} {xs : List Value} (h : W.ownsRow B 9 1 v n xs) (hB : B' ≤ B) : W.ownsRow B' 9 1 v n xs := by
  obtain ⟨h1, h2⟩ := h
  refine ⟨h1, ?_⟩
  rcases h2 with h2 | ⟨g, cap, cur, a, b, c⟩
  · exact .inl h2
  · exact .inr ⟨g, cap, cur, a, Nat.le_trans hB b, c⟩

set_option maxHeartbeats 1000000 in
theorem all27 (w : World) {N : Nat} (hL : Laid N w) :
    Calls Tryd.prog 64 #[] w fun e W' => ∃ v, e = .returned v ∧ W'.ownsRow w.heap.size 9 1 v 20 (texts tests) ∧ Below w.heap.size w W' := by
  have hLd : Laid N w.drew := hL
  have hz := hL.lt
  obtain ⟨_, ⟨g4, c4, a4, hb4, hv4, hl4⟩, _⟩ := id hL
  have a4d : w.drew.cell? ⟨1, 0, none⟩ = some (.slice (some g4) 4 c4) := a4
  have HT := Lib.hid (texts_at4 hb4)
  clear hb4
  go_enter Tryd.func64, Tryd.ntmps64
  go_wp2_with fail
  go_region_with (first
    | (go_at_call_of 81 (Value.string ⟨#[120]⟩); refine (testsOf49 120 _ hLd).mono ?_; rintro e W1 ⟨v1, rfl, ho1, hb1⟩; obtain ⟨g1, c1, rfl, hg1, hl1, n1⟩ := row_at ho1 (by omega); have hL1 := hLd.below hb1 hz; have a41 := (hb1.cell (p := ⟨1, 0, none⟩) (Nat.lt_of_lt_of_le hv4 hz)).trans a4d; have T1 := Lib.hid (fun (j : Nat) u hu => (hb1.cell (p := g4.add j) (by rw [add_block]; exact Nat.lt_of_lt_of_le hl4 hz)).trans (HT.out j u hu)); clear ho1)
    | (go_at_call_of 81 (Value.string ⟨#[121]⟩); refine (testsOf49 121 _ hL1).mono ?_; rintro e W2 ⟨v2, rfl, ho2, hb2⟩; obtain ⟨g2, c2, rfl, hg2, hl2, n2⟩ := row_at ho2 (by omega); have hL2 := hL1.below hb2 hL1.lt; have a42 := (hb2.cell (p := ⟨1, 0, none⟩) (Nat.lt_of_lt_of_le hv4 hL1.lt)).trans a41; have T2 := Lib.hid (fun (j : Nat) u hu => (hb2.cell (p := g4.add j) (by rw [add_block]; exact Nat.lt_of_lt_of_le hl4 hL1.lt)).trans (T1.out j u hu)); clear ho2)
    | (go_at_call 80; refine (joined48new _ _ _ g4 _ _ c4 (fun j u hu => (hb2.cell (p := ⟨g1, j, none⟩) hl1).trans (n1 j u hu)) n2 T2.out (Nat.lt_of_lt_of_le hl4 hL2.lt) (Nat.lt_of_lt_of_le hl1 hb2.size) hl2).mono ?_; rintro e W3 ⟨v3, rfl, ho3, hb3⟩))
  all_goals go_wp2
  all_goals
    go_ret
    have s1 := hb1.size
    have s2 := hb2.size
    have s0 : w.drew.heap.size = w.heap.size := rfl
    exact ⟨_, rfl, own_base ho3 (by omega), ((Below.refl _ w).drew.trans hb1).trans ((hb2.mono (by omega)).trans (hb3.mono (by omega)))⟩
end Go.Proofs.YtemilnkglkpnjaaDoor

