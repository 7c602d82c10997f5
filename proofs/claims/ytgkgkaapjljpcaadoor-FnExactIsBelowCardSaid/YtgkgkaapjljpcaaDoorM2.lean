/- The model's atoms: what they reach from a set. -/
import Derived.Test.YtgkgkaapjljpcaaDoorM1
namespace Go.Proofs.YtgkgkaapjljpcaaDoor
open Go.ChangeShapes Go.WideShapes Go.ChangeAt Go.RowKit Go.Shelf
attribute [local go_sem] Oper.semAt_some
set_option maxRecDepth 100000
theorem b1c (c : UInt8) (h : 0 < (⟨#[c]⟩ : ByteArray).size) : (⟨#[c]⟩ : ByteArray)[0]'h = c := rfl
theorem atom_dot (m : Nat) (w : World) :
    Calls Tryd.prog 62 #[.string ⟨#[46]⟩, .int .i64 (m : Int)] w fun e w' => e = .returned (outV (m, 0)) ∧ Below w.heap.size w w' := by
  have b0 := b1c 46
  go_enter Tryd.func62, Tryd.ntmps62
  go_wp2
  exact bodyPost_ret (v := outV (m, 0)) (by simp [results, Tryd.results62, outV, go_sem]) rfl ⟨rfl, (Below.refl _ _).alloc (Nat.le_refl _) _⟩
theorem atom_bang (m : Nat) (w : World) :
    Calls Tryd.prog 62 #[.string ⟨#[33]⟩, .int .i64 (m : Int)] w fun e w' => e = .returned (outV (0, m)) ∧ Below w.heap.size w w' := by
  have b0 := b1c 33
  go_enter Tryd.func62, Tryd.ntmps62
  go_wp2
  exact bodyPost_ret (v := outV (0, m)) (by simp [results, Tryd.results62, outV, go_sem]) rfl ⟨rfl, (Below.refl _ _).alloc (Nat.le_refl _) _⟩
/-- Block rb is an outcome of the call's own. -/
def Outc (W : World) (rb : Nat) (x : Nat × Nat) : Prop := W.heap[rb]? = some (.cells #[.int .i64 (x.1 : Int), .int .i64 (x.2 : Int)] 56 (0, 0))
theorem Outc.cells {W : World} {rb : Nat} {x : Nat × Nat} (h : Outc W rb x) :
    W.cell? ⟨rb, 0, none⟩ = some (.int .i64 (x.1 : Int)) ∧ W.cell? ⟨rb, 1, none⟩ = some (.int .i64 (x.2 : Int)) ∧ W.frozen? ⟨rb, 0, none⟩ = false ∧ W.frozen? ⟨rb, 1, none⟩ = false := by
  unfold Outc at h
  exact ⟨by simp [World.cell?, h], by simp [World.cell?, h], by simp [World.frozen?, h], by simp [World.frozen?, h]⟩
theorem Outc.set0 {W : World} {rb : Nat} {x : Nat × Nat} (h : Outc W rb x) (n : Nat) : Outc (W.setCell ⟨rb, 0, none⟩ (.int .i64 (n : Int))) rb (n, x.2) := by
  unfold Outc at *
  rw [heap_setCell_same W rb 0 _ 56 _ h]; rfl
theorem Outc.set1 {W : World} {rb : Nat} {x : Nat × Nat} (h : Outc W rb x) (n : Nat) : Outc (W.setCell ⟨rb, 1, none⟩ (.int .i64 (n : Int))) rb (x.1, n) := by
  unfold Outc at *
  rw [heap_setCell_same W rb 1 _ 56 _ h]; rfl
theorem b5 (a b c d e : UInt8) (h : 0 < (⟨#[a, b, c, d, e]⟩ : ByteArray).size) : (⟨#[a, b, c, d, e]⟩ : ByteArray)[0]'h = a := rfl
theorem whereB_nat (a b c : Int) : ∀ k, k ≤ 9 → ∃ n : Nat, whereB a b c k = (n : Int) ∧ n < 512
  | 0, _ => ⟨0, rfl, by omega⟩
  | k + 1, h => by
    obtain ⟨n, e, hn⟩ := whereB_nat a b c k (by omega)
    cases hh : holdsB a b c k with
    | true =>
      refine ⟨n ||| 2 ^ k, ?_, or_lt hn (pow_lt k (by omega))⟩
      rw [where_hit hh, e]
      have hp := pow_lt k (by omega)
      have := or_nat n (2 ^ k) (by omega) (by omega)
      rw [← this, Int.natCast_pow]; rfl
    | false => exact ⟨n, by rw [where_miss hh, e], hn⟩
theorem whereL_nat (a b c : UInt8) : ∃ n : Nat, whereL [a, b, c] = (n : Int) ∧ n < 512 := whereB_nat _ _ _ 9 (by omega)
theorem atom_test (a b c z : UInt8) (h : b = 61 ∨ b = 35 ∨ b = 60) (m : Nat) (hm : m < 512) (w : World) :
    Calls Tryd.prog 62 #[.string ⟨#[91, a, b, c, z]⟩, .int .i64 (m : Int)] w fun e w' => e = .returned (outV (m &&& (whereL [a, b, c]).toNat, 0)) ∧ Below w.heap.size w w' := by
  have b0 := b5 91 a b c z
  obtain ⟨n, hn, hn9⟩ := whereL_nat a b c
  have ha : bits .and .i64 (m : Int) (n : Int) = ((m &&& n : Nat) : Int) := and_nat m n (by omega) (by omega)
  have e2 : (whereL [a, b, c]).toNat = n := by rw [hn]; rfl
  rw [e2]
  have hn' : whereB a.toNat b.toNat c.toNat 9 = (n : Int) := hn
  go_enter Tryd.func62, Tryd.ntmps62
  go_wp2_with fail
  go_at_call 92
  refine (where35 a b c h _).mono ?_
  rintro e W1 ⟨rfl, hB⟩
  rw [hn']
  have h1 : Outc W1 w.heap.size (0, 0) := (hB.block w.heap.size (by simp)).trans (heap_alloc_new w _)
  obtain ⟨q0, q1, q2, q3⟩ := h1.cells
  obtain ⟨r0, r1, r2, r3⟩ := (h1.set0 (m &&& n)).cells
  have h2 := (h1.set0 (m &&& n)).set1 0
  obtain ⟨u0, u1, u2, u3⟩ := h2.cells
  obtain ⟨z0, z1, _, _⟩ := h2.cells
  have Z := Lib.hid (And.intro z0 z1)
  clear z0 z1
  rw [← ha] at r0 r1 r2 r3 u0 u1 u2 u3
  have hA := ((((Below.refl _ _).alloc (Nat.le_refl _) _ : Below w.heap.size w (w.alloc (.cells #[.int .i64 0, .int .i64 0] 56))).trans (hB.mono (by simp))).setCell (p := ⟨w.heap.size, 0, none⟩) (Nat.le_refl _) (.int .i64 ((m &&& n : Nat) : Int))).setCell (p := ⟨w.heap.size, 1, none⟩) (Nat.le_refl _) (.int .i64 0)
  go_wp2
  obtain ⟨z0, z1⟩ := Z.out
  refine bodyPost_ret (v := outV (m &&& n, 0)) ?_ rfl ⟨rfl, hA⟩
  have z1' : ((W1.setCell { block := w.heap.size, off := 0 } (Value.int IntKind.i64 ((m &&& n : Nat) : Int))).setCell { block := w.heap.size, off := 1 } (Value.int IntKind.i64 0)).cell? ⟨w.heap.size, 1, none⟩ = some (.int .i64 0) := z1
  have z0' : ((W1.setCell { block := w.heap.size, off := 0 } (Value.int IntKind.i64 ((m &&& n : Nat) : Int))).setCell { block := w.heap.size, off := 1 } (Value.int IntKind.i64 0)).cell? ⟨w.heap.size, 0, none⟩ = some (.int .i64 ((m &&& n : Nat) : Int)) := z0
  clear z0 z1 u0 u1 u2 u3 r0 r1 r2 r3 ha
  simp [results, Tryd.results62, outV, go_sem, z0', z1']
end Go.Proofs.YtgkgkaapjljpcaaDoor

