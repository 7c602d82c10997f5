/- Tests, by the model: which texts are tests, the first one for a set, those that hold where one does not. All tests, by the program: the tests of a variable, and lists joined. Where tests hold and what their opposites are, by the model. -/
import Derived.Test.YtgkgkaapjljpcaaDoorCutS
import Derived.Test.YtgkgkaapjljpcaaDoorA1
namespace Go.Proofs.YtgkgkaapjljpcaaDoor
open Go.ChangeShapes Go.WideShapes Go.ChangeAt Go.RowKit Go.Shelf
set_option maxRecDepth 100000
attribute [local go_sem] Oper.semAt_some

theorem tests_len : tests.length = 20 := by decide
/-- Is a text a test. -/
def isTest (t : ByteArray) : Bool := decide (t.toList ∈ tests)

theorem tests_at {W : World} {B : Nat} {v : Value} (h : W.ownsRow B 9 1 v 20 (texts tests)) :
    ∃ g cap, v = .slice (some ⟨g, 0, none⟩) 20 cap ∧ B ≤ g ∧ g < W.heap.size ∧ ∀ (j : Nat) p, tests[j]? = some p → W.cell? ⟨g, j, none⟩ = some (.string ⟨p.toArray⟩) := by
  rcases h.2 with ⟨_, h0⟩ | ⟨g, cap, cur, rfl, hb, hg, hn, hm, _⟩
  · cases h0
  · refine ⟨g, cap, rfl, hb, (Array.getElem?_eq_some_iff.1 hg).1, fun j p hp => ?_⟩
    have hj := (List.getElem?_eq_some_iff.1 hp).1
    rw [tests_len] at hj
    rw [World.ownsRow.cellAt h j hj]
    simp [texts, hp]
theorem tests_some (k : Nat) (hk : k < 20) : ∃ p, tests[k]? = some p := ⟨_, List.getElem?_eq_getElem (by rw [tests_len]; exact hk)⟩
theorem some_mem {k : Nat} {p : List UInt8} (h : tests[k]? = some p) : p ∈ tests := List.mem_of_getElem? h
theorem tests_idx {q : List UInt8} (h : q ∈ tests) : ∃ j, j < 20 ∧ tests[j]? = some q := by
  obtain ⟨j, hj, e⟩ := List.getElem_of_mem h
  exact ⟨j, by rw [tests_len] at hj; exact hj, by rw [List.getElem?_eq_getElem hj, e]⟩

/-- Where a test's text says that it holds. -/
def whereL : List UInt8 → Int
  | [a, b, c] => whereB a.toNat b.toNat c.toNat 9
  | _ => 0
def holdsL : List UInt8 → Nat → Bool
  | [a, b, c], k => holdsB a.toNat b.toNat c.toNat k
  | _, _ => false
theorem shapes : tests.all (fun p => match p with | [_, b, _] => b == 61 || b == 35 || b == 60 | _ => false) = true := by decide
theorem shape {p : List UInt8} (h : p ∈ tests) : ∃ a b c, p = [a, b, c] ∧ (b = 61 ∨ b = 35 ∨ b = 60) := by
  have := List.all_eq_true.1 shapes p h
  match p, this with
  | [a, b, c], h => exact ⟨a, b, c, rfl, by simpa [or_assoc] using h⟩

theorem wh35 {p : List UInt8} (h : p ∈ tests) (w : World) :
    Calls Tryd.prog 92 #[.string ⟨p.toArray⟩] w fun e w' => e = .returned (.int .i64 (whereL p)) ∧ Below w.heap.size w w' := by
  obtain ⟨a, b, c, rfl, hb⟩ := shape h
  exact where35 a b c hb w
theorem st34 {p : List UInt8} (h : p ∈ tests) (w : World) :
    Calls Tryd.prog 133 #[.string ⟨p.toArray⟩] w fun e w' => e = .returned (.int .i64 (whereL p)) ∧ Below w.heap.size w w' := by
  obtain ⟨a, b, c, rfl, hb⟩ := shape h
  exact sot34 a b c hb w
theorem hl43 {p : List UInt8} (h : p ∈ tests) (k : Nat) (hk : k ≤ 8) (w : World) :
    Calls Tryd.prog 118 #[.string ⟨p.toArray⟩, .int .i64 (k : Int)] w fun e w' => e = .returned (.bool (holdsL p k)) ∧ Below w.heap.size w w' := by
  obtain ⟨a, b, c, rfl, hb⟩ := shape h
  exact holds43 a b c hb k hk w
theorem of_list (t : ByteArray) : t = ⟨t.toList.toArray⟩ := by rw [Lib.toList_data]
theorem mem_of {t : ByteArray} (h : isTest t = true) : t.toList ∈ tests := of_decide_eq_true h

set_option maxHeartbeats 1000000 in
theorem valid16 (t : ByteArray) (w : World) :
    Calls Tryd.prog 117 #[.string t] w fun e w' => e = .returned (.bool (isTest t)) ∧ Below w.heap.size w w' := by
  go_enter Tryd.func117, Tryd.ntmps117
  go_wp2_with (go_at_call 82; refine (all39 _).mono ?_; rintro e W1 ⟨v, rfl, hown, hb⟩; obtain ⟨g, cap, rfl, hgB, hgl, hcells⟩ := tests_at hown; have HC := Lib.hid hcells; clear hcells)
  go_loopw [7] (fun i wr => ∃ k : Nat, k ≤ 20 ∧ i = .int .i64 k ∧ (∀ j p, j < k → tests[j]? = some p → p ≠ t.toList) ∧ wr = W1) (fun i _ => 20 - (intOf i).toNat)
  case atStart => exact ⟨0, by omega, rfl, fun j p hj => by omega, rfl⟩
  case round =>
    obtain ⟨k, hk, rfl, hno, rfl⟩ := hrel
    have HN := Lib.hid hno
    clear hno
    by_cases hlt : k < 20
    · obtain ⟨p, hp⟩ := tests_some k hlt
      have c1 := HC.out k p hp
      have HP := Lib.hid hp
      clear hp
      by_cases hq : p = t.toList
      · have he : (p == t.toList) = true := by simpa using hq
        have HQ := Lib.hid hq
        clear hq
        go_wp2
        go_ret
        exact ⟨by rw [show isTest t = true from decide_eq_true (by rw [← HQ.out]; exact some_mem HP.out)]; rfl, hb⟩
      · have he : (p == t.toList) = false := by simpa using hq
        have HQ := Lib.hid hq
        clear hq
        go_wp2
        go_roundw
        case rel =>
          exact ⟨k + 1, by omega, by go_num, fun j q hj hjq => by
            by_cases e : j = k
            · subst e; rw [HP.out] at hjq; cases hjq; exact HQ.out
            · exact HN.out j q (by omega) hjq, trivial⟩
        case measure => simp [intOf]; omega
    · obtain rfl : k = 20 := by omega
      go_wp2
      go_ret
      exact ⟨by rw [show isTest t = false from decide_eq_false (fun hm => by
        obtain ⟨j, hj, e⟩ := tests_idx hm
        exact HN.out j _ hj e rfl)]; rfl, hb⟩

theorem find_hit {l : List (List UInt8)} {f : List UInt8 → Bool} {k : Nat} {p : List UInt8} (hp : l[k]? = some p) (hf : f p = true) (hno : ∀ j q, j < k → l[j]? = some q → f q = false) : l.find? f = some p := by
  induction l generalizing k with
  | nil => cases hp
  | cons x r ih =>
    cases k with
    | zero => cases hp; simp [hf]
    | succ k =>
      have h0 := hno 0 x (by omega) rfl
      rw [List.find?_cons_of_neg (by simp [h0])]
      exact ih (k := k) (by simpa using hp) (fun j q hj hq => hno (j + 1) q (by omega) (by simpa using hq))
theorem find_miss {l : List (List UInt8)} {f : List UInt8 → Bool} (hno : ∀ (j : Nat) q, l[j]? = some q → f q = false) : l.find? f = none := by
  rw [List.find?_eq_none]
  intro q hq
  obtain ⟨j, hj, e⟩ := List.getElem_of_mem hq
  rw [hno j q (by rw [List.getElem?_eq_getElem hj, e])]
  simp

/-- The first test that holds just in the states of a set. -/
def firstOf (s : Int) : Option (List UInt8) := tests.find? fun p => whereL p == s
def firstT (s : Int) : List UInt8 := (firstOf s).getD []
def firstB (s : Int) : Bool := (firstOf s).isSome

end Go.Proofs.YtgkgkaapjljpcaaDoor

namespace Go.Proofs.YtgkgkaapjljpcaaDoor
open Go.ChangeShapes Go.WideShapes Go.ChangeAt Go.RowKit Go.Shelf
set_option maxRecDepth 100000
attribute [local go_sem] Oper.semAt_some

def tails : List (List UInt8) := [[61, 48], [61, 49], [61, 50], [35, 48], [35, 49], [35, 50], [60, 49], [60, 50]]
/-- The tests that compare both variables. -/
def both : List (List UInt8) := [[120, 61, 121], [120, 35, 121], [120, 60, 121], [121, 60, 120]]
theorem add_block (x : Addr) (i : Nat) : (x.add i).block = x.block := by
  unfold Addr.add
  split <;> rfl
/-- A package variable that holds a slice of texts; all of it lies below N. -/
def TableAt (N gv n : Nat) (ts : List (List UInt8)) (x : Addr) (c : Nat) (W : World) : Prop :=
  W.cell? ⟨gv, 0, none⟩ = some (.slice (some x) n c) ∧ (∀ (i : Nat) b, ts[i]? = some b → W.cell? (x.add i) = some (.string ⟨b.toArray⟩)) ∧ gv < N ∧ x.block < N
theorem TableAt.below {N gv n : Nat} {ts : List (List UInt8)} {x : Addr} {c : Nat} {W W' : World} (h : TableAt N gv n ts x c W) {m : Nat} (hb : Below m W W') (hn : N ≤ m) : TableAt N gv n ts x c W' :=
  ⟨(hb.cell (p := ⟨gv, 0, none⟩) (Nat.lt_of_lt_of_le h.2.2.1 hn)).trans h.1, fun i b hi => (hb.cell (p := x.add i) (by rw [add_block]; exact Nat.lt_of_lt_of_le h.2.2.2 hn)).trans (h.2.1 i b hi), h.2.2⟩
theorem TableAt.grown {N gv n : Nat} {ts : List (List UInt8)} {x : Addr} {c : Nat} {W W' : World} (h : TableAt N gv n ts x c W) {r : Nat} (hb : W.grownBy W' (some r)) (hN : N ≤ W.heap.size) (hn : N ≤ r) : TableAt N gv n ts x c W' := by
  have hc : ∀ (a : Addr), a.block < N → W'.cell? a = W.cell? a := fun a ha =>
    World.cell?_of_block (w := W) (w' := W') (a := a) (hb.block a.block (by omega) (by simp; omega))
  exact ⟨(hc ⟨gv, 0, none⟩ h.2.2.1).trans h.1, fun i b hi => (hc (x.add i) (by rw [add_block]; exact h.2.2.2)).trans (h.2.1 i b hi), h.2.2⟩
/-- What the two package variables hold; all of it lies below N. -/
def Laid (N : Nat) (W : World) : Prop := (∃ g c, TableAt N 4 8 tails g c W) ∧ (∃ g c, TableAt N 3 4 both g c W) ∧ N ≤ W.heap.size
theorem Laid.below {N : Nat} {W W' : World} (h : Laid N W) {n : Nat} (hb : Below n W W') (hn : N ≤ n) : Laid N W' := by
  obtain ⟨⟨g, c, h1⟩, ⟨g', c', h2⟩, hz⟩ := h
  exact ⟨⟨g, c, h1.below hb hn⟩, ⟨g', c', h2.below hb hn⟩, Nat.le_trans hz hb.size⟩
theorem Laid.grown {N : Nat} {W W' : World} (h : Laid N W) {r : Nat} (hb : W.grownBy W' (some r)) (hn : N ≤ r) : Laid N W' := by
  obtain ⟨⟨g, c, h1⟩, ⟨g', c', h2⟩, hz⟩ := h
  exact ⟨⟨g, c, h1.grown hb hz hn⟩, ⟨g', c', h2.grown hb hz hn⟩, Nat.le_trans hz hb.size⟩

/-- The tests of a variable. -/
def ofVar (c : UInt8) : List (List UInt8) := tails.map fun p => c :: p

theorem tails_two : ∀ p ∈ tails, p.length = 2 := by decide
theorem ofVar_len (c : UInt8) : (ofVar c).length = 8 := by simp [ofVar, tails]
theorem ofVar_take {c : UInt8} {k : Nat} {p : List UInt8} (h : tails[k]? = some p) : (ofVar c).take (k + 1) = (ofVar c).take k ++ [c :: p] := by
  unfold ofVar
  rw [List.take_add_one, List.getElem?_map, h]
  rfl
theorem cat_one (c : UInt8) (p : List UInt8) : (⟨#[c]⟩ : ByteArray) ++ ⟨p.toArray⟩ = ⟨(c :: p).toArray⟩ := by
  apply ByteArray.ext
  rw [ByteArray.data_append]
  simp

set_option maxHeartbeats 1000000 in
theorem testsOf49 (c : UInt8) (w : World) {N : Nat} (hL : Laid N w) :
    Calls Tryd.prog 108 #[.string ⟨#[c]⟩] w fun e W' => ∃ v, e = .returned v ∧ W'.ownsRow w.heap.size 9 1 v 8 (texts (ofVar c)) ∧ Below w.heap.size w W' := by
  obtain ⟨⟨g8, c8, a0, ha, _, hg8⟩, _, hz⟩ := hL
  have HA := Lib.hid ha
  clear ha
  obtain ⟨i0, hi, hz0, hz1, hz2⟩ := info_parts Tryd.info9
  go_enter Tryd.func108, Tryd.ntmps108
  go_wp2
  go_loopw [3, 8] (fun o i wr => ∃ k : Nat, k ≤ 8 ∧ i = .int .i64 k ∧ wr.ownsRow w.heap.size 9 1 o k (texts ((ofVar c).take k)) ∧ Below w.heap.size w wr) (fun _ i _ => 8 - (intOf i).toNat)
  case atStart => exact ⟨0, by omega, rfl, World.ownsRow_nil _ _ _ _, Below.refl _ _⟩
  case round =>
    obtain ⟨k, hk, rfl, hown, hB⟩ := hrel
    by_cases hlt : k < 8
    · obtain ⟨p, hp⟩ : ∃ p, tails[k]? = some p := ⟨_, List.getElem?_eq_getElem hlt⟩
      have hx := (hB.cell (p := g8.add k) (by rw [add_block]; exact Nat.lt_of_lt_of_le hg8 hz)).trans (HA.out k p hp)
      have ht := Lib.hid (ofVar_take (c := c) hp)
      have hcat := cat_one c p
      have hpl : p.length = 2 := tails_two p (List.mem_of_getElem? hp)
      have hpm : 1 + p.length ≤ 9223372036854775807 := by omega
      clear hp hpl
      go_wp2_with (at_builtin; refine wpList_append_own _ rfl _ _ 44 rfl w.heap.size 9 i0 (.string ⟨#[]⟩) 1 16 Tryd.underlying44 hi hz0 hz1 hz2 rfl (by decide) _ _ _ rfl (hown.alloc _) ⟨wr.heap.size, 0, none⟩ 1 1 [.string ⟨(c :: p).toArray⟩] rfl (by rfl) (by rw [← hcat]; exact cell_one_new _ _ _) (by simp [Value.oneCell']) (by unfold maxLen; omega) (by omega) (by have := hB.size; simp; omega) ?_; intro v' w1 hown' hgrow _; have hE := (hB.alloc hB.size _).grown hgrow (by have := hB.size; simp; omega) (fun i e => (hown.lt i e).1); clear hgrow)
      go_roundw
      case rel => exact ⟨k + 1, by omega, by go_num, by rw [ht.out, texts_snoc]; exact hown', hE⟩
      case measure => simp [intOf]; omega
    · obtain rfl : k = 8 := by omega
      go_wp2
      go_ret
      exact ⟨_, rfl, by rw [List.take_of_length_le (by rw [ofVar_len]; exact Nat.le_refl _)] at hown; exact hown, hB⟩

theorem add_at (g j : Nat) : (⟨g, 0, none⟩ : Addr).add j = ⟨g, j, none⟩ := by
  unfold Addr.add
  by_cases h : j = 0
  · subst h; simp
  · simp [h]
theorem row_at {W : World} {B n : Nat} {v : Value} {ws : List (List UInt8)} (h : W.ownsRow B 9 1 v n (texts ws)) (hn0 : 0 < n) :
    ∃ g cap, v = .slice (some ⟨g, 0, none⟩) n cap ∧ B ≤ g ∧ g < W.heap.size ∧ ∀ (j : Nat) u, (texts ws)[j]? = some u → W.cell? ⟨g, j, none⟩ = some u := by
  rcases h.2 with ⟨_, h0⟩ | ⟨g, cap, cur, rfl, hb, hg, hn, hm, _⟩
  · omega
  · refine ⟨g, cap, rfl, hb, (Array.getElem?_eq_some_iff.1 hg).1, fun j u hu => ?_⟩
    have := World.ownsRow.cells h (g := g) rfl j u hu
    rw [add_at] at this
    exact this

/-- What has been joined after k lists. -/
def upList : Nat → List (List UInt8)
  | 0 => []
  | 1 => ofVar 120
  | 2 => ofVar 120 ++ ofVar 121
  | _ => tests
def upLen : Nat → Nat
  | 0 => 0
  | 1 => 8
  | 2 => 16
  | _ => 20
theorem up_three : (ofVar 120 ++ ofVar 121) ++ both = tests := by decide
theorem texts_append (a b : List (List UInt8)) : texts (a ++ b) = texts a ++ texts b := by simp [texts]
theorem texts_cells (ws : List (List UInt8)) : ∀ u ∈ texts ws, u.oneCell' = true := by
  intro u hu
  obtain ⟨p, _, rfl⟩ := List.mem_map.1 hu
  simp [Value.oneCell']

set_option maxHeartbeats 1000000 in
theorem joined48 (w : World) (g g1 g2 : Nat) (g4 : Addr) (c1 c2 c4 : Nat) (h0 : w.cell? ⟨g, 0, none⟩ = some (.slice (some ⟨g1, 0, none⟩) 8 c1)) (h1 : w.cell? ⟨g, 1, none⟩ = some (.slice (some ⟨g2, 0, none⟩) 8 c2))
    (h2 : w.cell? ⟨g, 2, none⟩ = some (.slice (some g4) 4 c4)) (n1 : ∀ (j : Nat) u, (texts (ofVar 120))[j]? = some u → w.cell? ⟨g1, j, none⟩ = some u) (n2 : ∀ (j : Nat) u, (texts (ofVar 121))[j]? = some u → w.cell? ⟨g2, j, none⟩ = some u)
    (n3 : ∀ (j : Nat) u, (texts both)[j]? = some u → w.cell? (g4.add j) = some u) (b0 : g < w.heap.size) (b1 : g1 < w.heap.size) (b2 : g2 < w.heap.size) (b3 : g4.block < w.heap.size) :
    Calls Tryd.prog 86 #[.slice (some ⟨g, 0, none⟩) 3 3] w fun e W' => ∃ v, e = .returned v ∧ W'.ownsRow w.heap.size 9 1 v 20 (texts tests) ∧ Below w.heap.size w W' := by
  obtain ⟨i0, hi, hz0, hz1, hz2⟩ := info_parts Tryd.info9
  have N1 := Lib.hid n1
  have N2 := Lib.hid n2
  have N3 := Lib.hid n3
  clear n1 n2 n3
  go_enter Tryd.func86, Tryd.ntmps86
  go_wp2
  go_loopw [3, 8] (fun o i wr => ∃ k : Nat, k ≤ 3 ∧ i = .int .i64 k ∧ wr.ownsRow w.heap.size 9 1 o (upLen k) (texts (upList k)) ∧ Below w.heap.size w wr) (fun _ i _ => 3 - (intOf i).toNat)
  case atStart => exact ⟨0, by omega, rfl, World.ownsRow_nil _ _ _ _, Below.refl _ _⟩
  case round =>
    obtain ⟨k, hk, rfl, hown, hB⟩ := hrel
    by_cases hlt : k < 3
    · rcases (by omega : k = 0 ∨ k = 1 ∨ k = 2) with rfl | rfl | rfl
      · have d0 := (hB.cell (p := ⟨g, 0, none⟩) b0).trans h0
        clear h0 h1 h2
        go_wp2_with (at_builtin; refine wpList_append_own _ rfl _ _ 44 rfl w.heap.size 9 i0 (.string ⟨#[]⟩) 1 16 Tryd.underlying44 hi hz0 hz1 hz2 rfl (by decide) _ _ _ rfl hown ⟨g1, 0, none⟩ 8 c1 (texts (ofVar 120)) rfl (by decide) (fun j u hu => by rw [add_at]; exact (hB.cell (p := ⟨g1, j, none⟩) b1).trans (N1.out j u hu)) (texts_cells _) (by decide) (by decide) hB.size ?_; intro v' w1 hown' hgrow _; have hE := hB.grown hgrow hB.size (fun i e => (hown.lt i e).1); clear hgrow)
        go_roundw
        case rel => exact ⟨1, by omega, by go_num, by simpa [upLen, upList, texts] using hown', hE⟩
        case measure => simp [intOf]
      · have d0 := (hB.cell (p := ⟨g, 1, none⟩) b0).trans h1
        clear h0 h1 h2
        go_wp2_with (at_builtin; refine wpList_append_own _ rfl _ _ 44 rfl w.heap.size 9 i0 (.string ⟨#[]⟩) 1 16 Tryd.underlying44 hi hz0 hz1 hz2 rfl (by decide) _ _ _ rfl hown ⟨g2, 0, none⟩ 8 c2 (texts (ofVar 121)) rfl (by decide) (fun j u hu => by rw [add_at]; exact (hB.cell (p := ⟨g2, j, none⟩) b2).trans (N2.out j u hu)) (texts_cells _) (by decide) (by decide) hB.size ?_; intro v' w1 hown' hgrow _; have hE := hB.grown hgrow hB.size (fun i e => (hown.lt i e).1); clear hgrow)
        go_roundw
        case rel => exact ⟨2, by omega, by go_num, by rw [← texts_append] at hown'; exact hown', hE⟩
        case measure => simp [intOf]
      · have d0 := (hB.cell (p := ⟨g, 2, none⟩) b0).trans h2
        clear h0 h1 h2
        go_wp2_with (at_builtin; refine wpList_append_own _ rfl _ _ 44 rfl w.heap.size 9 i0 (.string ⟨#[]⟩) 1 16 Tryd.underlying44 hi hz0 hz1 hz2 rfl (by decide) _ _ _ rfl hown g4 4 c4 (texts both) rfl (by decide) (fun j u hu => (hB.cell (p := g4.add j) (by rw [add_block]; exact b3)).trans (N3.out j u hu)) (texts_cells _) (by decide) (by decide) hB.size ?_; intro v' w1 hown' hgrow _; have hE := hB.grown hgrow hB.size (fun i e => (hown.lt i e).1); clear hgrow)
        go_roundw
        case rel => exact ⟨3, by omega, by go_num, by rw [show upList 2 = ofVar 120 ++ ofVar 121 from rfl, ← texts_append, up_three] at hown'; exact hown', hE⟩
        case measure => simp [intOf]
    · obtain rfl : k = 3 := by omega
      go_wp2
      go_ret
      exact ⟨_, rfl, hown, hB⟩

theorem Laid.drew {N : Nat} {W : World} (h : Laid N W) : Laid N W.drew := h
theorem Laid.lt {N : Nat} {W : World} (h : Laid N W) : N ≤ W.heap.size := h.2.2
theorem texts_at4 {W : World} {x : Addr} {ts : List (List UInt8)} (h : ∀ (i : Nat) b, ts[i]? = some b → W.cell? (x.add i) = some (.string ⟨b.toArray⟩)) : ∀ (j : Nat) u, (texts ts)[j]? = some u → W.cell? (x.add j) = some u := by
  intro j u hu
  unfold texts at hu
  rw [List.getElem?_map] at hu
  cases hb : ts[j]? with
  | none => rw [hb] at hu; cases hu
  | some b => rw [hb] at hu; cases hu; exact h j b hb
theorem made3 (W : World) (a b c : Value) (t : TypeId) :
    (W.alloc (.cells #[a, b, c] t)).cell? ⟨W.heap.size, 0, none⟩ = some a ∧ (W.alloc (.cells #[a, b, c] t)).cell? ⟨W.heap.size, 1, none⟩ = some b ∧ (W.alloc (.cells #[a, b, c] t)).cell? ⟨W.heap.size, 2, none⟩ = some c :=
  ⟨by rw [cell_of_row _ W.heap.size 0 _ t (0, 0) (heap_alloc_new W _)]; rfl, by rw [cell_of_row _ W.heap.size 1 _ t (0, 0) (heap_alloc_new W _)]; rfl, by rw [cell_of_row _ W.heap.size 2 _ t (0, 0) (heap_alloc_new W _)]; rfl⟩

/-- The lists lie in a slice that was just made: the same, told from the world ahead of it. -/
theorem joined48new (W : World) (g1 g2 : Nat) (g4 : Addr) (c1 c2 c4 : Nat) (n1 : ∀ (j : Nat) u, (texts (ofVar 120))[j]? = some u → W.cell? ⟨g1, j, none⟩ = some u) (n2 : ∀ (j : Nat) u, (texts (ofVar 121))[j]? = some u → W.cell? ⟨g2, j, none⟩ = some u)
    (n3 : ∀ (j : Nat) u, (texts both)[j]? = some u → W.cell? (g4.add j) = some u) (b3 : g4.block < W.heap.size) (b1 : g1 < W.heap.size) (b2 : g2 < W.heap.size) :
    Calls Tryd.prog 86 #[.slice (some ⟨W.heap.size, 0, none⟩) 3 3] (W.alloc (.cells #[.slice (some ⟨g1, 0, none⟩) 8 c1, .slice (some ⟨g2, 0, none⟩) 8 c2, .slice (some g4) 4 c4] 44))
      fun e W' => ∃ v, e = .returned v ∧ W'.ownsRow W.heap.size 9 1 v 20 (texts tests) ∧ Below W.heap.size W W' := by
  have hm := made3 W (.slice (some ⟨g1, 0, none⟩) 8 c1) (.slice (some ⟨g2, 0, none⟩) 8 c2) (.slice (some g4) 4 c4) 44
  have hb : Below W.heap.size W (W.alloc (.cells #[.slice (some ⟨g1, 0, none⟩) 8 c1, .slice (some ⟨g2, 0, none⟩) 8 c2, .slice (some g4) 4 c4] 44)) := (Below.refl _ _).alloc (Nat.le_refl _) _
  refine (joined48 _ W.heap.size g1 g2 g4 c1 c2 c4 hm.1 hm.2.1 hm.2.2 (fun j u hu => (hb.cell (p := ⟨g1, j, none⟩) b1).trans (n1 j u hu)) (fun j u hu => (hb.cell (p := ⟨g2, j, none⟩) b2).trans (n2 j u hu))
    (fun j u hu => (hb.cell (p := g4.add j) (by rw [add_block]; exact b3)).trans (n3 j u hu)) (by simp) (Nat.lt_of_lt_of_le b1 hb.size) (Nat.lt_of_lt_of_le b2 hb.size) (Nat.lt_of_lt_of_le b3 hb.size)).mono ?_
  rintro e W' ⟨v, he, ho, hB⟩
  refine ⟨v, he, ?_, hb.trans (hB.mono hb.size)⟩
  obtain ⟨h1, h2⟩ := ho
  refine ⟨h1, ?_⟩
  rcases h2 with h2 | ⟨g, cap, cur, a, b, c⟩
  · exact .inl h2
  · exact .inr ⟨g, cap, cur, a, Nat.le_trans hb.size b, c⟩

theorem own_base {W : World} {B B' n : Nat} {v : Value} {xs : List Value} (h : W.ownsRow B 9 1 v n xs) (hB : B' ≤ B) : W.ownsRow B' 9 1 v n xs := by
  obtain ⟨h1, h2⟩ := h
  refine ⟨h1, ?_⟩
  rcases h2 with h2 | ⟨g, cap, cur, a, b, c⟩
  · exact .inl h2
  · exact .inr ⟨g, cap, cur, a, Nat.le_trans hB b, c⟩

set_option maxHeartbeats 1000000 in
theorem all27 (w : World) {N : Nat} (hL : Laid N w) :
    Calls Tryd.prog 87 #[] w fun e W' => ∃ v, e = .returned v ∧ W'.ownsRow w.heap.size 9 1 v 20 (texts tests) ∧ Below w.heap.size w W' := by
  have hLd : Laid N w.drew := hL
  have hz := hL.lt
  obtain ⟨_, ⟨g4, c4, a4, hb4, hv4, hl4⟩, _⟩ := id hL
  have a4d : w.drew.cell? ⟨3, 0, none⟩ = some (.slice (some g4) 4 c4) := a4
  have HT := Lib.hid (texts_at4 hb4)
  clear hb4
  go_enter Tryd.func87, Tryd.ntmps87
  go_wp2_with fail
  go_region_with (first
    | (go_at_call_of 108 (Value.string ⟨#[120]⟩); refine (testsOf49 120 _ hLd).mono ?_; rintro e W1 ⟨v1, rfl, ho1, hb1⟩; obtain ⟨g1, c1, rfl, hg1, hl1, n1⟩ := row_at ho1 (by omega); have hL1 := hLd.below hb1 hz; have a41 := (hb1.cell (p := ⟨3, 0, none⟩) (Nat.lt_of_lt_of_le hv4 hz)).trans a4d; have T1 := Lib.hid (fun (j : Nat) u hu => (hb1.cell (p := g4.add j) (by rw [add_block]; exact Nat.lt_of_lt_of_le hl4 hz)).trans (HT.out j u hu)); clear ho1)
    | (go_at_call_of 108 (Value.string ⟨#[121]⟩); refine (testsOf49 121 _ hL1).mono ?_; rintro e W2 ⟨v2, rfl, ho2, hb2⟩; obtain ⟨g2, c2, rfl, hg2, hl2, n2⟩ := row_at ho2 (by omega); have hL2 := hL1.below hb2 hL1.lt; have a42 := (hb2.cell (p := ⟨3, 0, none⟩) (Nat.lt_of_lt_of_le hv4 hL1.lt)).trans a41; have T2 := Lib.hid (fun (j : Nat) u hu => (hb2.cell (p := g4.add j) (by rw [add_block]; exact Nat.lt_of_lt_of_le hl4 hL1.lt)).trans (T1.out j u hu)); clear ho2)
    | (go_at_call 86; refine (joined48new _ _ _ g4 _ _ c4 (fun j u hu => (hb2.cell (p := ⟨g1, j, none⟩) hl1).trans (n1 j u hu)) n2 T2.out (Nat.lt_of_lt_of_le hl4 hL2.lt) (Nat.lt_of_lt_of_le hl1 hb2.size) hl2).mono ?_; rintro e W3 ⟨v3, rfl, ho3, hb3⟩))
  all_goals go_wp2
  all_goals
    go_ret
    have s1 := hb1.size
    have s2 := hb2.size
    have s0 : w.drew.heap.size = w.heap.size := rfl
    exact ⟨_, rfl, own_base ho3 (by omega), ((Below.refl _ w).drew.trans hb1).trans ((hb2.mono (by omega)).trans (hb3.mono (by omega)))⟩
end Go.Proofs.YtgkgkaapjljpcaaDoor

namespace Go.Proofs.YtgkgkaapjljpcaaDoor
open Go.ChangeShapes Go.WideShapes Go.ChangeAt Go.RowKit Go.Shelf
set_option maxRecDepth 100000
attribute [local go_sem] Oper.semAt_some

theorem wh35t {t : ByteArray} (h : isTest t = true) (w : World) :
    Calls Tryd.prog 92 #[.string t] w fun e w' => e = .returned (.int .i64 (whereL t.toList)) ∧ Below w.heap.size w w' := by
  have := wh35 (mem_of h) w
  rw [← of_list t] at this
  exact this
theorem st34t {t : ByteArray} (h : isTest t = true) (w : World) :
    Calls Tryd.prog 133 #[.string t] w fun e w' => e = .returned (.int .i64 (whereL t.toList)) ∧ Below w.heap.size w w' := by
  have := st34 (mem_of h) w
  rw [← of_list t] at this
  exact this

/-- The set of a text, and whether it holds in a state. -/
def whereT (t : ByteArray) : Int := if isTest t = true then whereL t.toList else 0
def holdsT (t : ByteArray) (s : Int) : Bool := isTest t && inB s 0 8 && holdsL t.toList s.toNat



/-- Is a test one of a test's opposites; all of them. -/
def isOpp (t : ByteArray) (p : List UInt8) : Bool := whereL p == bits .andNot .i64 511 (whereL t.toList)
def oppL (t : ByteArray) : List (List UInt8) := if isTest t = true then tests.filter (isOpp t) else []
theorem filter_hit {f : List UInt8 → Bool} {k : Nat} {p : List UInt8} (h : tests[k]? = some p) (hf : f p = true) : (tests.take (k + 1)).filter f = (tests.take k).filter f ++ [p] := by
  rw [List.take_add_one, h, List.filter_append]
  simp [hf]
theorem filter_miss {f : List UInt8 → Bool} {k : Nat} {p : List UInt8} (h : tests[k]? = some p) (hf : f p = false) : (tests.take (k + 1)).filter f = (tests.take k).filter f := by
  rw [List.take_add_one, h, List.filter_append]
  simp [hf]
theorem filter_len (f : List UInt8 → Bool) (k : Nat) : ((tests.take k).filter f).length ≤ 20 := by
  have h1 := List.length_filter_le f (tests.take k)
  have h2 : (tests.take k).length ≤ 20 := by rw [List.length_take, tests_len]; omega
  omega

/-- What the loop over the tests keeps: the tests' own slice, and the slice of what was found. -/
def Opps (w W2 : World) (g : Nat) (o : Value) (ws : List (List UInt8)) (wr : World) : Prop :=
  wr.ownsRow w.heap.size 9 1 o ws.length (texts ws) ∧ o.ownBlock ≠ some g ∧ Below w.heap.size w wr ∧ W2.heap.size ≤ wr.heap.size ∧ ∀ (j : Nat) p, tests[j]? = some p → wr.cell? ⟨g, j, none⟩ = some (.string ⟨p.toArray⟩)
theorem Opps.below {w W2 wr W' : World} {g : Nat} {o : Value} {ws : List (List UInt8)} (h : Opps w W2 g o ws wr) (hg : g < W2.heap.size) (hb : Below wr.heap.size wr W') : Opps w W2 g o ws W' := by
  obtain ⟨h1, h2, h3, h4, h5⟩ := h
  refine ⟨World.ownsRow.kept (row := none) h1 ⟨hb.os, hb.tape, hb.output, hb.size, fun i hi _ => hb.block i hi⟩ ?_, h2, h3.trans (hb.mono h3.size), Nat.le_trans h4 hb.size, fun j p hp => (hb.cell (p := ⟨g, j, none⟩) (Nat.lt_of_lt_of_le hg h4)).trans (h5 j p hp)⟩
  cases ho : o.ownBlock with
  | none => exact .inl rfl
  | some b => exact .inr (by simp)
theorem Opps.added {w W2 wr w1 : World} {g : Nat} {o v' : Value} {ws : List (List UInt8)} {p : List UInt8} (h : Opps w W2 g o ws wr) (hg : g < W2.heap.size)
    (hown : w1.ownsRow w.heap.size 9 1 v' (ws.length + 1) (texts ws ++ [.string ⟨p.toArray⟩])) (hgr : (wr.alloc (.cells #[.string ⟨p.toArray⟩] 9)).grownBy w1 o.ownBlock)
    (hloc : v'.ownBlock = o.ownBlock ∨ v'.ownBlock = some (wr.alloc (.cells #[.string ⟨p.toArray⟩] 9)).heap.size) : Opps w W2 g v' (ws ++ [p]) w1 := by
  obtain ⟨h1, h2, h3, h4, h5⟩ := h
  have hA : Below w.heap.size w (wr.alloc (.cells #[.string ⟨p.toArray⟩] 9)) := h3.alloc h3.size _
  have hs := hgr.size
  have ha : (wr.alloc (.cells #[.string ⟨p.toArray⟩] 9)).heap.size = wr.heap.size + 1 := by simp
  refine ⟨by rw [texts_snoc, List.length_append]; exact hown, ?_, hA.grown hgr hA.size (fun i e => (h1.lt i e).1), by omega, fun j q hq => ?_⟩
  · rcases hloc with e | e
    · rw [e]; exact h2
    · rw [e, ha]; intro h; cases h; omega
  · refine (hgr.cell (a := ⟨g, j, none⟩) (cellAlloc _ (h5 j q hq)) ?_)
    intro e; exact h2 e.symm

end Go.Proofs.YtgkgkaapjljpcaaDoor

