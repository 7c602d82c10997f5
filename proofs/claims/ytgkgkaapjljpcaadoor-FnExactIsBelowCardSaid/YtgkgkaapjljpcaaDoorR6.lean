/- The program's outcomes from each state, and what it tells of a program by them. -/
import Derived.Test.YtgkgkaapjljpcaaDoorR5
namespace Go.Proofs.YtgkgkaapjljpcaaDoor
open Go.ChangeShapes Go.WideShapes Go.ChangeAt Go.RowKit Go.Shelf
attribute [local go_sem] Oper.semAt_some
set_option maxRecDepth 100000

/-- The cells of the outcomes from the first k states. -/
def outCells (r : Nat → Nat × Nat) (k : Nat) : List Value := (List.range k).flatMap fun s => [.int .i64 ((r (2 ^ s)).1 : Int), .int .i64 ((r (2 ^ s)).2 : Int)]
theorem outCells_succ (r : Nat → Nat × Nat) (k : Nat) : outCells r (k + 1) = outCells r k ++ [.int .i64 ((r (2 ^ k)).1 : Int), .int .i64 ((r (2 ^ k)).2 : Int)] := by
  simp [outCells, List.range_succ]
theorem two_at (w : World) (x y : Value) (t : TypeId) : ∀ (j : Nat) u, ([x, y] : List Value)[j]? = some u → (w.alloc (.cells #[x, y] t)).cell? ((⟨w.heap.size, 0, none⟩ : Addr).add j) = some u := by
  intro j u h
  have hn := heap_alloc_new w (.cells #[x, y] t)
  match j, h with
  | 0, h => cases h; show World.cell? _ ⟨w.heap.size, 0, none⟩ = _; rw [cell_of_row _ w.heap.size 0 _ t (0, 0) hn]; rfl
  | 1, h => cases h; show World.cell? _ ⟨w.heap.size, 1, none⟩ = _; rw [cell_of_row _ w.heap.size 1 _ t (0, 0) hn]; rfl
  | j + 2, h => simp at h
theorem add_plain (g j : Nat) : (⟨g, 0, none⟩ : Addr).add j = ⟨g, j, none⟩ := by
  unfold Addr.add
  by_cases h : j = 0
  · subst h; simp
  · simp [h]
theorem outs_at {W : World} {B : Nat} {v : Value} {r : Nat → Nat × Nat} (h : W.ownsRow B 61 2 v 9 (outCells r 9)) :
    ∃ g cap, v = .slice (some ⟨g, 0, none⟩) 9 cap ∧ g < W.heap.size ∧ ∀ k, k < 9 → W.cell? ⟨g, k * 2, none⟩ = some (.int .i64 ((r (2 ^ k)).1 : Int)) ∧ W.cell? ⟨g, k * 2 + 1, none⟩ = some (.int .i64 ((r (2 ^ k)).2 : Int)) := by
  rcases h.2 with ⟨_, h0⟩ | ⟨g, cap, cur, rfl, hb, hg, hn, hm, _⟩
  · omega
  · refine ⟨g, cap, rfl, (Array.getElem?_eq_some_iff.1 hg).1, fun k hk => ?_⟩
    have hc : ∀ (j : Nat) u, (outCells r 9)[j]? = some u → W.cell? ⟨g, j, none⟩ = some u := fun j u hu => by
      have := World.ownsRow.cells h (g := g) rfl j u hu
      rwa [add_plain] at this
    rcases (by omega : k = 0 ∨ k = 1 ∨ k = 2 ∨ k = 3 ∨ k = 4 ∨ k = 5 ∨ k = 6 ∨ k = 7 ∨ k = 8) with rfl | rfl | rfl | rfl | rfl | rfl | rfl | rfl | rfl <;> exact ⟨hc _ _ rfl, hc _ _ rfl⟩

theorem own_after {W W' : World} {B n size : Nat} {v : Value} {xs : List Value} {e : TypeId} (h : W.ownsRow B e size v n xs) (hb : Below W.heap.size W W') : W'.ownsRow B e size v n xs :=
  h.kept (grown_trans_b (below_self_grown W none) hb) (by cases h : v.ownBlock <;> simp)
theorem Tryd.infoOut : (Tryd.prog.info? 61).map (fun i => (i.zero, i.size, i.bytes)) = some (some (.agg #[.int .i64 0, .int .i64 0]), 2, 16) := by kernel_rfl

set_option maxHeartbeats 2000000 in
theorem pouts_none (t : ByteArray) (w : World) {N : Nat} (hE : Laid3 N w) (hP : readP t.toList = none) :
    Calls Tryd.prog 85 #[.string t] w fun e w' => (∃ T v, e = .returned (.tuple #[.slice none 0 0, .iface T v])) ∧ Below w.heap.size w w' := by
  have hr := pread40 t.toList w hE
  rw [bytes_eta] at hr
  have HP := Lib.hid hP
  clear hP
  go_enter Tryd.func85, Tryd.ntmps85
  go_wp2_with (go_at_call 50; refine hr.mono ?_; rintro e W1 ⟨hb, hm⟩; rw [HP.out] at hm; obtain ⟨T, v, rfl⟩ := hm)
  go_ret2
  exact ⟨⟨T, v, rfl⟩, hb⟩
set_option maxHeartbeats 2000000 in
theorem pouts_some (t : ByteArray) (w : World) {N : Nat} (hE : Laid3 N w) {nd : Node} (hP : readP t.toList = some nd) :
    Calls Tryd.prog 85 #[.string t] w fun e w' => ∃ g cap, e = .returned (.tuple #[.slice (some ⟨g, 0, none⟩) 9 cap, .nilIface]) ∧ g < w'.heap.size ∧ (∀ k, k < 9 → w'.cell? ⟨g, k * 2, none⟩ = some (.int .i64 ((runR nd (2 ^ k)).1 : Int)) ∧ w'.cell? ⟨g, k * 2 + 1, none⟩ = some (.int .i64 ((runR nd (2 ^ k)).2 : Int))) ∧ Below w.heap.size w w' := by
  have hr := pread40 t.toList w hE
  rw [bytes_eta] at hr
  obtain ⟨hok, _⟩ := readP_iff.1 hP
  have hrun := prun27 nd hok
  obtain ⟨i0, hi, hz0, hz1, hz2⟩ := info_parts Tryd.infoOut
  have HP := Lib.hid hP
  clear hP
  generalize runR nd = r at hrun ⊢
  go_enter Tryd.func85, Tryd.ntmps85
  go_wp2_with (go_at_call 50; refine hr.mono ?_; rintro e W1 ⟨hb, hm⟩; rw [HP.out] at hm; obtain rfl := hm)
  go_loopw [6, 16] (fun o i wr => ∃ k : Nat, k ≤ 9 ∧ i = .int .i64 (k : Int) ∧ wr.ownsRow w.heap.size 61 2 o k (outCells r k) ∧ Below w.heap.size w wr) (fun _ i _ => 9 - (intOf i).toNat)
  case atStart => exact ⟨0, by omega, rfl, World.ownsRow_nil _ _ _ _, hb⟩
  case round =>
    obtain ⟨k, hk, rfl, hown, hB⟩ := hrel
    by_cases hlt : k < 9
    · have k8 : k ≤ 8 := by omega
      have k8i : (k : Int) < 9 := by omega
      have hrk := hrun (2 ^ k) (pow9 hlt)
      have hu := outCells_succ r k
      have hon := only49 k k8
      generalize r (2 ^ k) = x at hrk hu
      generalize 2 ^ k = c at hrk hon
      have hu := Lib.hid hu
      go_wp2_with (first
        | (go_at_call 107; refine (hon _).mono ?_; rintro e w' ⟨rfl, rfl⟩)
        | (go_at_call 106; refine (hrk _).mono ?_; rintro e W2 ⟨rfl, hb2⟩; have hown2 := own_after hown hb2; have hB2 := hB.trans (hb2.mono hB.size))
        | (at_builtin; refine wpList_append_own _ rfl _ _ 123 rfl w.heap.size 61 i0 (.agg #[.int .i64 0, .int .i64 0]) 2 16 Tryd.underlying123 hi hz0 hz1 hz2 rfl (by decide) _ k (outCells r k) rfl (hown2.alloc _) ⟨W2.heap.size, 0, none⟩ 1 1 [.int .i64 (x.1 : Int), .int .i64 (x.2 : Int)] rfl (by rfl) (two_at _ _ _ _) (by simp [Value.oneCell']) (by unfold maxLen; omega) (by omega) (by have := hB2.size; simp; omega) ?_; intro v' w1 hown' hgrow _; have hE4 := (hB2.alloc hB2.size _).grown hgrow (by have := hB2.size; simp; omega) (fun i e => (hown2.lt i e).1); clear hgrow))
      go_roundw
      case rel => exact ⟨k + 1, by omega, by go_num, by rw [hu.out]; exact hown', hE4⟩
      case measure => simp [intOf]; omega
    · obtain rfl : k = 9 := by omega
      obtain ⟨g, cap, rfl, hg, hcs⟩ := outs_at hown
      go_wp2
      go_ret2
      exact ⟨g, cap, rfl, hg, hcs, hB⟩

/-! ### Is there one among them -/
/-- The nine outcomes lie at block g. -/
def Nine (W : World) (g : Nat) (r : Nat → Nat × Nat) : Prop := ∀ k, k < 9 → W.cell? ⟨g, k * 2, none⟩ = some (.int .i64 ((r (2 ^ k)).1 : Int)) ∧ W.cell? ⟨g, k * 2 + 1, none⟩ = some (.int .i64 ((r (2 ^ k)).2 : Int))
theorem Nine.below {W W' : World} {g : Nat} {r : Nat → Nat × Nat} (h : Nine W g r) (hg : g < W.heap.size) (hb : Below W.heap.size W W') : Nine W' g r := fun k hk =>
  ⟨(hb.cell (p := ⟨g, k * 2, none⟩) hg).trans (h k hk).1, (hb.cell (p := ⟨g, k * 2 + 1, none⟩) hg).trans (h k hk).2⟩
/-- Some of the first k answers yes. -/
def someB (P : Nat → Bool) (k : Nat) : Bool := (List.range k).any P
theorem some_succ (P : Nat → Bool) (k : Nat) : someB P (k + 1) = (someB P k || P k) := by simp [someB, List.range_succ, List.any_append]
theorem some_hit {P : Nat → Bool} {k n : Nat} (h : k < n) (hp : P k = true) : someB P n = true := List.any_eq_true.2 ⟨k, List.mem_range.2 h, hp⟩

end Go.Proofs.YtgkgkaapjljpcaaDoor

