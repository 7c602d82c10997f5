/- All tests, by the program: the tests of a variable, and lists joined. -/
import Derived.Test.YtkffgojnicjkmaaDoorCutS
namespace Go.Proofs.YtkffgojnicjkmaaDoor
open Go.ChangeShapes Go.WideShapes Go.ChangeAt Go.RowKit Go.Shelf
attribute [local go_sem] Oper.semAt_some

/-- What the two package variables hold. -/
def Laid (W : World) : Prop :=
  (W.cell? ⟨1, 0, none⟩ = some (.string ⟨#[61, 48]⟩) ∧ W.cell? ⟨1, 1, none⟩ = some (.string ⟨#[61, 49]⟩) ∧ W.cell? ⟨1, 2, none⟩ = some (.string ⟨#[61, 50]⟩) ∧ W.cell? ⟨1, 3, none⟩ = some (.string ⟨#[35, 48]⟩) ∧
   W.cell? ⟨1, 4, none⟩ = some (.string ⟨#[35, 49]⟩) ∧ W.cell? ⟨1, 5, none⟩ = some (.string ⟨#[35, 50]⟩) ∧ W.cell? ⟨1, 6, none⟩ = some (.string ⟨#[60, 49]⟩) ∧ W.cell? ⟨1, 7, none⟩ = some (.string ⟨#[60, 50]⟩)) ∧
  (W.cell? ⟨0, 0, none⟩ = some (.string ⟨#[120, 61, 121]⟩) ∧ W.cell? ⟨0, 1, none⟩ = some (.string ⟨#[120, 35, 121]⟩) ∧ W.cell? ⟨0, 2, none⟩ = some (.string ⟨#[120, 60, 121]⟩) ∧ W.cell? ⟨0, 3, none⟩ = some (.string ⟨#[121, 60, 120]⟩)) ∧ 1 < W.heap.size
theorem Laid.below {W W' : World} (h : Laid W) {n : Nat} (hb : Below n W W') (hn : 1 < n) : Laid W' := by
  obtain ⟨⟨a0, a1, a2, a3, a4, a5, a6, a7⟩, ⟨b0, b1, b2, b3⟩, hz⟩ := h
  have c1 : ∀ i v, W.cell? ⟨1, i, none⟩ = some v → W'.cell? ⟨1, i, none⟩ = some v := fun i v h => (hb.cell (p := ⟨1, i, none⟩) hn).trans h
  have c0 : ∀ i v, W.cell? ⟨0, i, none⟩ = some v → W'.cell? ⟨0, i, none⟩ = some v := fun i v h => (hb.cell (p := ⟨0, i, none⟩) (by show 0 < n; omega)).trans h
  exact ⟨⟨c1 _ _ a0, c1 _ _ a1, c1 _ _ a2, c1 _ _ a3, c1 _ _ a4, c1 _ _ a5, c1 _ _ a6, c1 _ _ a7⟩, ⟨c0 _ _ b0, c0 _ _ b1, c0 _ _ b2, c0 _ _ b3⟩, Nat.lt_of_lt_of_le hz hb.size⟩

def tails : List (List UInt8) := [[61, 48], [61, 49], [61, 50], [35, 48], [35, 49], [35, 50], [60, 49], [60, 50]]
/-- The tests of a variable. -/
def ofVar (c : UInt8) : List (List UInt8) := tails.map fun p => c :: p

def arr8 : Array Value := #[.string ⟨#[61, 48]⟩, .string ⟨#[61, 49]⟩, .string ⟨#[61, 50]⟩, .string ⟨#[35, 48]⟩, .string ⟨#[35, 49]⟩, .string ⟨#[35, 50]⟩, .string ⟨#[60, 49]⟩, .string ⟨#[60, 50]⟩]
theorem idx78_0 (W : World) : (Instr.index 78 (.agg arr8) (.int .i64 0)).run Tryd.prog W = .ok (.string ⟨#[61, 48]⟩) W := by kernel_rfl
theorem idx78_1 (W : World) : (Instr.index 78 (.agg arr8) (.int .i64 1)).run Tryd.prog W = .ok (.string ⟨#[61, 49]⟩) W := by kernel_rfl
theorem idx78_2 (W : World) : (Instr.index 78 (.agg arr8) (.int .i64 2)).run Tryd.prog W = .ok (.string ⟨#[61, 50]⟩) W := by kernel_rfl
theorem idx78_3 (W : World) : (Instr.index 78 (.agg arr8) (.int .i64 3)).run Tryd.prog W = .ok (.string ⟨#[35, 48]⟩) W := by kernel_rfl
theorem idx78_4 (W : World) : (Instr.index 78 (.agg arr8) (.int .i64 4)).run Tryd.prog W = .ok (.string ⟨#[35, 49]⟩) W := by kernel_rfl
theorem idx78_5 (W : World) : (Instr.index 78 (.agg arr8) (.int .i64 5)).run Tryd.prog W = .ok (.string ⟨#[35, 50]⟩) W := by kernel_rfl
theorem idx78_6 (W : World) : (Instr.index 78 (.agg arr8) (.int .i64 6)).run Tryd.prog W = .ok (.string ⟨#[60, 49]⟩) W := by kernel_rfl
theorem idx78_7 (W : World) : (Instr.index 78 (.agg arr8) (.int .i64 7)).run Tryd.prog W = .ok (.string ⟨#[60, 50]⟩) W := by kernel_rfl
theorem idx78 {k : Nat} {p : List UInt8} (h : tails[k]? = some p) (W : World) : (Instr.index 78 (.agg arr8) (.int .i64 (k : Int))).run Tryd.prog W = .ok (.string ⟨p.toArray⟩) W := by
  match k, h with
  | 0, h => cases h; exact idx78_0 W
  | 1, h => cases h; exact idx78_1 W
  | 2, h => cases h; exact idx78_2 W
  | 3, h => cases h; exact idx78_3 W
  | 4, h => cases h; exact idx78_4 W
  | 5, h => cases h; exact idx78_5 W
  | 6, h => cases h; exact idx78_6 W
  | 7, h => cases h; exact idx78_7 W
  | k + 8, h => have : k + 8 < 8 := (List.getElem?_eq_some_iff.1 h).1; omega
theorem tails_two : ∀ p ∈ tails, p.length = 2 := by decide
theorem ofVar_len (c : UInt8) : (ofVar c).length = 8 := by simp [ofVar, tails]
theorem ofVar_take {c : UInt8} {k : Nat} {p : List UInt8} (h : tails[k]? = some p) : (ofVar c).take (k + 1) = (ofVar c).take k ++ [c :: p] := by
  unfold ofVar
  rw [List.take_add_one, List.getElem?_map, h]
  rfl
theorem cat_one (c : UInt8) (p : List UInt8) : (⟨#[c]⟩ : ByteArray) ++ ⟨p.toArray⟩ = ⟨(c :: p).toArray⟩ := by
  apply ByteArray.ext
  rw [ByteArray.data_append]
  simp

set_option maxHeartbeats 1000000 in
theorem testsOf49 (c : UInt8) (w : World) (hL : Laid w) :
    Calls Tryd.prog 49 #[.string ⟨#[c]⟩] w fun e W' => ∃ v, e = .returned v ∧ W'.ownsRow w.heap.size 9 1 v 8 (texts (ofVar c)) ∧ Below w.heap.size w W' := by
  obtain ⟨⟨a0, a1, a2, a3, a4, a5, a6, a7⟩, _, hz⟩ := hL
  obtain ⟨i0, hi, hz0, hz1, hz2⟩ := info_parts Tryd.info9
  go_enter Tryd.func49, Tryd.ntmps49
  go_wp2
  go_loopw [3, 7] (fun o i wr => ∃ k : Nat, k ≤ 8 ∧ i = .int .i64 k ∧ wr.ownsRow w.heap.size 9 1 o k (texts ((ofVar c).take k)) ∧ Below w.heap.size w wr) (fun _ i _ => 8 - (intOf i).toNat)
  case atStart => exact ⟨0, by omega, rfl, World.ownsRow_nil _ _ _ _, Below.refl _ _⟩
  case round =>
    obtain ⟨k, hk, rfl, hown, hB⟩ := hrel
    by_cases hlt : k < 8
    · obtain ⟨p, hp⟩ : ∃ p, tails[k]? = some p := ⟨_, List.getElem?_eq_getElem hlt⟩
      have hx := idx78 hp
      unfold arr8 at hx
      have ht := Lib.hid (ofVar_take (c := c) hp)
      have hcat := cat_one c p
      have hpl : p.length = 2 := tails_two p (List.mem_of_getElem? hp)
      have hpm : 1 + p.length ≤ 9223372036854775807 := by omega
      clear hp hpl
      go_wp2_with (at_builtin; refine wpList_append_own _ rfl _ _ 35 rfl w.heap.size 9 i0 (.string ⟨#[]⟩) 1 16 Tryd.underlying35 hi hz0 hz1 hz2 rfl (by decide) _ _ _ rfl (hown.alloc _) ⟨wr.heap.size, 0, none⟩ 1 1 [.string ⟨(c :: p).toArray⟩] rfl (by rfl) (by rw [← hcat]; exact cell_one_new _ _ _) (by simp [Value.oneCell']) (by unfold maxLen; omega) (by omega) (by have := hB.size; simp; omega) ?_; intro v' w1 hown' hgrow _; have hE := (hB.alloc hB.size _).grown hgrow (by have := hB.size; simp; omega) (fun i e => (hown.lt i e).1); clear hgrow)
      go_roundw
      case rel => exact ⟨k + 1, by omega, by go_num, by rw [ht.out, texts_snoc]; exact hown', hE⟩
      case measure => simp [intOf]; omega
    · obtain rfl : k = 8 := by omega
      go_wp2
      go_ret
      exact ⟨_, rfl, by rw [List.take_of_length_le (by rw [ofVar_len]; exact Nat.le_refl _)] at hown; exact hown, hB⟩

theorem add_at (g j : Nat) : (⟨g, 0, none⟩ : Addr).add j = ⟨g, j, none⟩ := by
  unfold Addr.add
  by_cases h : j = 0
  · subst h; simp
  · simp [h]
theorem row_at {W : World} {B n : Nat} {v : Value} {ws : List (List UInt8)} (h : W.ownsRow B 9 1 v n (texts ws)) (hn0 : 0 < n) :
    ∃ g cap, v = .slice (some ⟨g, 0, none⟩) n cap ∧ B ≤ g ∧ g < W.heap.size ∧ ∀ (j : Nat) u, (texts ws)[j]? = some u → W.cell? ⟨g, j, none⟩ = some u := by
  rcases h.2 with ⟨_, h0⟩ | ⟨g, cap, cur, rfl, hb, hg, hn, hm, _⟩
  · omega
  · refine ⟨g, cap, rfl, hb, (Array.getElem?_eq_some_iff.1 hg).1, fun j u hu => ?_⟩
    have := World.ownsRow.cells h (g := g) rfl j u hu
    rw [add_at] at this
    exact this

/-- The tests that compare both variables. -/
def both : List (List UInt8) := [[120, 61, 121], [120, 35, 121], [120, 60, 121], [121, 60, 120]]
/-- What has been joined after k lists. -/
def upList : Nat → List (List UInt8)
  | 0 => []
  | 1 => ofVar 120
  | 2 => ofVar 120 ++ ofVar 121
  | _ => tests
def upLen : Nat → Nat
  | 0 => 0
  | 1 => 8
  | 2 => 16
  | _ => 20
theorem up_three : (ofVar 120 ++ ofVar 121) ++ both = tests := by decide
theorem texts_append (a b : List (List UInt8)) : texts (a ++ b) = texts a ++ texts b := by simp [texts]
theorem texts_cells (ws : List (List UInt8)) : ∀ u ∈ texts ws, u.oneCell' = true := by
  intro u hu
  obtain ⟨p, _, rfl⟩ := List.mem_map.1 hu
  simp [Value.oneCell']

set_option maxHeartbeats 1000000 in
theorem joined48 (w : World) (g g1 g2 c1 c2 : Nat) (h0 : w.cell? ⟨g, 0, none⟩ = some (.slice (some ⟨g1, 0, none⟩) 8 c1)) (h1 : w.cell? ⟨g, 1, none⟩ = some (.slice (some ⟨g2, 0, none⟩) 8 c2))
    (h2 : w.cell? ⟨g, 2, none⟩ = some (.slice (some ⟨0, 0, none⟩) 4 4)) (n1 : ∀ (j : Nat) u, (texts (ofVar 120))[j]? = some u → w.cell? ⟨g1, j, none⟩ = some u) (n2 : ∀ (j : Nat) u, (texts (ofVar 121))[j]? = some u → w.cell? ⟨g2, j, none⟩ = some u)
    (n3 : ∀ (j : Nat) u, (texts both)[j]? = some u → w.cell? ⟨0, j, none⟩ = some u) (b0 : g < w.heap.size) (b1 : g1 < w.heap.size) (b2 : g2 < w.heap.size) :
    Calls Tryd.prog 48 #[.slice (some ⟨g, 0, none⟩) 3 3] w fun e W' => ∃ v, e = .returned v ∧ W'.ownsRow w.heap.size 9 1 v 20 (texts tests) ∧ Below w.heap.size w W' := by
  obtain ⟨i0, hi, hz0, hz1, hz2⟩ := info_parts Tryd.info9
  have N1 := Lib.hid n1
  have N2 := Lib.hid n2
  have N3 := Lib.hid n3
  clear n1 n2 n3
  go_enter Tryd.func48, Tryd.ntmps48
  go_wp2
  go_loopw [3, 8] (fun o i wr => ∃ k : Nat, k ≤ 3 ∧ i = .int .i64 k ∧ wr.ownsRow w.heap.size 9 1 o (upLen k) (texts (upList k)) ∧ Below w.heap.size w wr) (fun _ i _ => 3 - (intOf i).toNat)
  case atStart => exact ⟨0, by omega, rfl, World.ownsRow_nil _ _ _ _, Below.refl _ _⟩
  case round =>
    obtain ⟨k, hk, rfl, hown, hB⟩ := hrel
    by_cases hlt : k < 3
    · rcases (by omega : k = 0 ∨ k = 1 ∨ k = 2) with rfl | rfl | rfl
      · have d0 := (hB.cell (p := ⟨g, 0, none⟩) b0).trans h0
        clear h0 h1 h2
        go_wp2_with (at_builtin; refine wpList_append_own _ rfl _ _ 35 rfl w.heap.size 9 i0 (.string ⟨#[]⟩) 1 16 Tryd.underlying35 hi hz0 hz1 hz2 rfl (by decide) _ _ _ rfl hown ⟨g1, 0, none⟩ 8 c1 (texts (ofVar 120)) rfl (by decide) (fun j u hu => by rw [add_at]; exact (hB.cell (p := ⟨g1, j, none⟩) b1).trans (N1.out j u hu)) (texts_cells _) (by decide) (by decide) hB.size ?_; intro v' w1 hown' hgrow _; have hE := hB.grown hgrow hB.size (fun i e => (hown.lt i e).1); clear hgrow)
        go_roundw
        case rel => exact ⟨1, by omega, by go_num, by simpa [upLen, upList, texts] using hown', hE⟩
        case measure => simp [intOf]
      · have d0 := (hB.cell (p := ⟨g, 1, none⟩) b0).trans h1
        clear h0 h1 h2
        go_wp2_with (at_builtin; refine wpList_append_own _ rfl _ _ 35 rfl w.heap.size 9 i0 (.string ⟨#[]⟩) 1 16 Tryd.underlying35 hi hz0 hz1 hz2 rfl (by decide) _ _ _ rfl hown ⟨g2, 0, none⟩ 8 c2 (texts (ofVar 121)) rfl (by decide) (fun j u hu => by rw [add_at]; exact (hB.cell (p := ⟨g2, j, none⟩) b2).trans (N2.out j u hu)) (texts_cells _) (by decide) (by decide) hB.size ?_; intro v' w1 hown' hgrow _; have hE := hB.grown hgrow hB.size (fun i e => (hown.lt i e).1); clear hgrow)
        go_roundw
        case rel => exact ⟨2, by omega, by go_num, by rw [← texts_append] at hown'; exact hown', hE⟩
        case measure => simp [intOf]
      · have d0 := (hB.cell (p := ⟨g, 2, none⟩) b0).trans h2
        clear h0 h1 h2
        go_wp2_with (at_builtin; refine wpList_append_own _ rfl _ _ 35 rfl w.heap.size 9 i0 (.string ⟨#[]⟩) 1 16 Tryd.underlying35 hi hz0 hz1 hz2 rfl (by decide) _ _ _ rfl hown ⟨0, 0, none⟩ 4 4 (texts both) rfl (by decide) (fun j u hu => by rw [add_at]; exact (hB.cell (p := ⟨0, j, none⟩) (by show 0 < w.heap.size; omega)).trans (N3.out j u hu)) (texts_cells _) (by decide) (by decide) hB.size ?_; intro v' w1 hown' hgrow _; have hE := hB.grown hgrow hB.size (fun i e => (hown.lt i e).1); clear hgrow)
        go_roundw
        case rel => exact ⟨3, by omega, by go_num, by rw [show upList 2 = ofVar 120 ++ ofVar 121 from rfl, ← texts_append, up_three] at hown'; exact hown', hE⟩
        case measure => simp [intOf]
    · obtain rfl : k = 3 := by omega
      go_wp2
      go_ret
      exact ⟨_, rfl, hown, hB⟩

theorem Laid.drew {W : World} (h : Laid W) : Laid W.drew := h
theorem Laid.lt {W : World} (h : Laid W) : 1 < W.heap.size := h.2.2
theorem Laid.both {W : World} (h : Laid W) : ∀ (j : Nat) u, (texts both)[j]? = some u → W.cell? ⟨0, j, none⟩ = some u := by
  obtain ⟨_, ⟨b0, b1, b2, b3⟩, _⟩ := h
  intro j u hu
  match j, hu with
  | 0, hu => cases hu; exact b0
  | 1, hu => cases hu; exact b1
  | 2, hu => cases hu; exact b2
  | 3, hu => cases hu; exact b3
  | j + 4, hu => simp [texts, Go.Proofs.YtkffgojnicjkmaaDoor.both] at hu
theorem made3 (W : World) (a b c : Value) (t : TypeId) :
    (W.alloc (.cells #[a, b, c] t)).cell? ⟨W.heap.size, 0, none⟩ = some a ∧ (W.alloc (.cells #[a, b, c] t)).cell? ⟨W.heap.size, 1, none⟩ = some b ∧ (W.alloc (.cells #[a, b, c] t)).cell? ⟨W.heap.size, 2, none⟩ = some c :=
  ⟨by rw [cell_of_row _ W.heap.size 0 _ t (0, 0) (heap_alloc_new W _)]; rfl, by rw [cell_of_row _ W.heap.size 1 _ t (0, 0) (heap_alloc_new W _)]; rfl, by rw [cell_of_row _ W.heap.size 2 _ t (0, 0) (heap_alloc_new W _)]; rfl⟩

/-- The lists lie in a slice that was just made: the same, told from the world ahead of it. -/
theorem joined48new (W : World) (g1 g2 c1 c2 : Nat) (n1 : ∀ (j : Nat) u, (texts (ofVar 120))[j]? = some u → W.cell? ⟨g1, j, none⟩ = some u) (n2 : ∀ (j : Nat) u, (texts (ofVar 121))[j]? = some u → W.cell? ⟨g2, j, none⟩ = some u)
    (hL : Laid W) (b1 : g1 < W.heap.size) (b2 : g2 < W.heap.size) :
    Calls Tryd.prog 48 #[.slice (some ⟨W.heap.size, 0, none⟩) 3 3] (W.alloc (.cells #[.slice (some ⟨g1, 0, none⟩) 8 c1, .slice (some ⟨g2, 0, none⟩) 8 c2, .slice (some ⟨0, 0, none⟩) 4 4] 35))
      fun e W' => ∃ v, e = .returned v ∧ W'.ownsRow W.heap.size 9 1 v 20 (texts tests) ∧ Below W.heap.size W W' := by
  have hm := made3 W (.slice (some ⟨g1, 0, none⟩) 8 c1) (.slice (some ⟨g2, 0, none⟩) 8 c2) (.slice (some ⟨0, 0, none⟩) 4 4) 35
  have hb : Below W.heap.size W (W.alloc (.cells #[.slice (some ⟨g1, 0, none⟩) 8 c1, .slice (some ⟨g2, 0, none⟩) 8 c2, .slice (some ⟨0, 0, none⟩) 4 4] 35)) := (Below.refl _ _).alloc (Nat.le_refl _) _
  refine (joined48 _ W.heap.size g1 g2 c1 c2 hm.1 hm.2.1 hm.2.2 (fun j u hu => (hb.cell (p := ⟨g1, j, none⟩) b1).trans (n1 j u hu)) (fun j u hu => (hb.cell (p := ⟨g2, j, none⟩) b2).trans (n2 j u hu))
    (fun j u hu => (hb.cell (p := ⟨0, j, none⟩) (by have := hL.lt; show 0 < _; omega)).trans (hL.both j u hu)) (by simp) (Nat.lt_of_lt_of_le b1 hb.size) (Nat.lt_of_lt_of_le b2 hb.size)).mono ?_
  rintro e W' ⟨v, he, ho, hB⟩
  refine ⟨v, he, ?_, hb.trans (hB.mono hb.size)⟩
  obtain ⟨h1, h2⟩ := ho
  refine ⟨h1, ?_⟩
  rcases h2 with h2 | ⟨g, cap, cur, a, b, c⟩
  · exact .inl h2
  · exact .inr ⟨g, cap, cur, a, Nat.le_trans hb.size b, c⟩

theorem own_base {W : World} {B B' n : Nat} {v : Value} {xs : List Value} (h : W.ownsRow B 9 1 v n xs) (hB : B' ≤ B) : W.ownsRow B' 9 1 v n xs := by
  obtain ⟨h1, h2⟩ := h
  refine ⟨h1, ?_⟩
  rcases h2 with h2 | ⟨g, cap, cur, a, b, c⟩
  · exact .inl h2
  · exact .inr ⟨g, cap, cur, a, Nat.le_trans hB b, c⟩

set_option maxHeartbeats 1000000 in
theorem all27 (w : World) (hL : Laid w) :
    Calls Tryd.prog 27 #[] w fun e W' => ∃ v, e = .returned v ∧ W'.ownsRow w.heap.size 9 1 v 20 (texts tests) ∧ Below w.heap.size w W' := by
  have hLd : Laid w.drew := hL
  have hz := hL.lt
  go_enter Tryd.func27, Tryd.ntmps27
  go_wp2_with fail
  go_region_with (first
    | (go_at_call_of 49 (Value.string ⟨#[120]⟩); refine (testsOf49 120 _ hLd).mono ?_; rintro e W1 ⟨v1, rfl, ho1, hb1⟩; obtain ⟨g1, c1, rfl, hg1, hl1, n1⟩ := row_at ho1 (by omega); have hL1 := hLd.below hb1 (by first | exact hz | (simp; omega)); clear ho1)
    | (go_at_call_of 49 (Value.string ⟨#[121]⟩); refine (testsOf49 121 _ hL1).mono ?_; rintro e W2 ⟨v2, rfl, ho2, hb2⟩; obtain ⟨g2, c2, rfl, hg2, hl2, n2⟩ := row_at ho2 (by omega); have hL2 := hL1.below hb2 hL1.lt; clear ho2)
    | (go_at_call 48; refine (joined48new _ _ _ _ _ (fun j u hu => (hb2.cell (p := ⟨g1, j, none⟩) hl1).trans (n1 j u hu)) n2 hL2 (Nat.lt_of_lt_of_le hl1 hb2.size) hl2).mono ?_; rintro e W3 ⟨v3, rfl, ho3, hb3⟩))
  all_goals go_wp2
  all_goals
    go_ret
    have s1 := hb1.size
    have s2 := hb2.size
    have s0 : w.drew.heap.size = w.heap.size := rfl
    exact ⟨_, rfl, own_base ho3 (by omega), ((Below.refl _ w).drew.trans hb1).trans ((hb2.mono (by omega)).trans (hb3.mono (by omega)))⟩
end Go.Proofs.YtkffgojnicjkmaaDoor
