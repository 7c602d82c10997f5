/- The model's assignments: what they reach from a state. -/
import Derived.Test.YtcppphjdgpkhcaaDoorRn
import Derived.Test.YtcppphjdgpkhcaaDoorSt
import Derived.Test.YtcppphjdgpkhcaaDoorA1
namespace Go.Proofs.YtcppphjdgpkhcaaDoor
open Go.ChangeShapes Go.WideShapes Go.ChangeAt Go.RowKit Go.Shelf
attribute [local go_sem] Oper.semAt_some
set_option maxRecDepth 100000

theorem own_none (w : World) : (w.alloc (.cells #[] 3)).ownsRow w.heap.size 3 1 (.slice (some ⟨w.heap.size, 0, none⟩) 0 0) 0 [] :=
  ⟨rfl, .inr ⟨w.heap.size, 0, #[], rfl, Nat.le_refl _, heap_alloc_new w _, Nat.le_refl _, Nat.zero_le _, rfl, rfl⟩⟩

theorem byte0 (c d : UInt8) (h : 0 < (⟨#[c, d]⟩ : ByteArray).size) : (⟨#[c, d]⟩ : ByteArray)[0]'h = c := rfl
theorem byte1 (c d : UInt8) (h : 1 < (⟨#[c, d]⟩ : ByteArray).size) : (⟨#[c, d]⟩ : ByteArray)[1]'h = d := rfl
theorem side_nat (d : UInt8) (hd : d = 48 ∨ d = 49 ∨ d = 50 ∨ d = 120 ∨ d = 121) (s : Nat) (hs : s < 9) : ∃ v : Nat, v ≤ 2 ∧ sideV (d.toNat : Int) ((s : Int) / 3) ((s : Int) % 3) = (v : Int) ∧ ∀ c, asgS c d s = putS c s v := by
  rcases hd with rfl | rfl | rfl | rfl | rfl
  · exact ⟨0, by omega, rfl, fun c => rfl⟩
  · exact ⟨1, by omega, rfl, fun c => rfl⟩
  · exact ⟨2, by omega, rfl, fun c => rfl⟩
  · exact ⟨s / 3, by omega, by show (s : Int) / 3 = _; omega, fun c => rfl⟩
  · exact ⟨s % 3, by omega, by show (s : Int) % 3 = _; omega, fun c => rfl⟩

theorem plain_add (g j : Nat) : (⟨g, 0, none⟩ : Addr).add j = ⟨g, j, none⟩ := by
  unfold Addr.add
  by_cases h : j = 0
  · subst h; simp
  · simp [h]
theorem ints_row {W : World} {B n : Nat} {v : Value} {xs : List Value} (h : W.ownsRow B 3 1 v n xs) (hn0 : 0 < n) :
    ∃ g cap, v = .slice (some ⟨g, 0, none⟩) n cap ∧ g < W.heap.size ∧ ∀ (j : Nat) u, xs[j]? = some u → W.cell? ⟨g, j, none⟩ = some u := by
  rcases h.2 with ⟨_, h0⟩ | ⟨g, cap, cur, rfl, hb, hg, hn, hm, _⟩
  · omega
  · refine ⟨g, cap, rfl, (Array.getElem?_eq_some_iff.1 hg).1, fun j u hu => ?_⟩
    have := World.ownsRow.cells h (g := g) rfl j u hu
    rw [plain_add] at this
    exact this
theorem one_at (w : World) (v : Nat) : ∀ (j : Nat) u, ([.int .i64 (v : Int)] : List Value)[j]? = some u → ((w.alloc (.cells #[] 3)).alloc (.cells #[.int .i64 (v : Int)] 3)).cell? ((⟨w.heap.size + 1, 0, none⟩ : Addr).add j) = some u := by
  intro j u h
  match j, h with
  | 0, h =>
    cases h
    have hn := heap_alloc_new (w.alloc (.cells #[] 3)) (.cells #[.int .i64 (v : Int)] 3)
    rw [World.size_alloc] at hn
    show World.cell? _ ⟨w.heap.size + 1, 0, none⟩ = _
    rw [cell_of_row _ (w.heap.size + 1) 0 _ 3 (0, 0) hn]; rfl
  | j + 1, h => simp at h

theorem shl_nat (n : Nat) (hn : n ≤ 8) : wrap64 (2 ^ n) = ((2 ^ n : Nat) : Int) := by
  have h := pow_lt n hn
  have e : (2 : Int) ^ n = ((2 ^ n : Nat) : Int) := by rw [Int.natCast_pow]; rfl
  rw [e]; generalize (2 ^ n : Nat) = m at h ⊢; exact IntWalk.wrap64_in _ ⟨by omega, by omega⟩
theorem shl_or (a n : Nat) (ha : a < 512) (hn : n ≤ 8) : bits .or .i64 (a : Int) (wrap64 (2 ^ n)) = ((a ||| 2 ^ n : Nat) : Int) := by
  rw [shl_nat n hn]
  exact or_nat a (2 ^ n) (by omega) (by have := pow_lt n hn; omega)
theorem put_x (s v : Nat) : putS 120 s v = 2 ^ (3 * v + s % 3) := rfl
theorem put_y (s v : Nat) : putS 121 s v = 2 ^ (3 * (s / 3) + v) := rfl

set_option maxHeartbeats 4000000 in

theorem side_plus (c : UInt8) (hc : c = 120 ∨ c = 121) (s : Nat) (hs : s < 9) : ∃ u v : Nat, u ≤ 2 ∧ v ≤ 2 ∧ sideV (c.toNat : Int) ((s : Int) / 3) ((s : Int) % 3) = (u : Int) ∧ ((u : Int) + 1) % 3 = (v : Int) ∧ asgS c 43 s = putS c s v := by
  rcases hc with rfl | rfl
  · exact ⟨s / 3, (s / 3 + 1) % 3, by omega, by omega, by show (s : Int) / 3 = _; omega, by omega, rfl⟩
  · exact ⟨s % 3, (s % 3 + 1) % 3, by omega, by omega, by show (s : Int) % 3 = _; omega, by omega, rfl⟩
set_option maxHeartbeats 4000000 in
theorem three_at (w : World) : ∀ (j : Nat) u, ([.int .i64 0, .int .i64 1, .int .i64 2] : List Value)[j]? = some u → ((w.alloc (.cells #[] 3)).alloc (.cells #[.int .i64 0, .int .i64 1, .int .i64 2] 3)).cell? ((⟨w.heap.size + 1, 0, none⟩ : Addr).add j) = some u := by
  intro j u h
  have hn := heap_alloc_new (w.alloc (.cells #[] 3)) (.cells #[.int .i64 0, .int .i64 1, .int .i64 2] 3)
  rw [World.size_alloc] at hn
  rw [plain_add]
  match j, h with
  | 0, h => cases h; rw [cell_of_row _ (w.heap.size + 1) 0 _ 3 (0, 0) hn]; rfl
  | 1, h => cases h; rw [cell_of_row _ (w.heap.size + 1) 1 _ 3 (0, 0) hn]; rfl
  | 2, h => cases h; rw [cell_of_row _ (w.heap.size + 1) 2 _ 3 (0, 0) hn]; rfl
  | j + 3, h => simp at h
end Go.Proofs.YtcppphjdgpkhcaaDoor

