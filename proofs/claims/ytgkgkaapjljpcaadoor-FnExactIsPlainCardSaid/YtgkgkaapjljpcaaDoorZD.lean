/- Chapter 11, the model: one rule used at a program's top. -/
import Derived.Test.YtgkgkaapjljpcaaDoorQD
import Derived.Test.YtgkgkaapjljpcaaDoorZA
namespace Go.Proofs.YtgkgkaapjljpcaaDoor
open Go.ChangeShapes Go.WideShapes Go.ChangeAt Go.RowKit Go.Shelf
attribute [local go_sem] Oper.semAt_some
set_option maxRecDepth 100000

/-- A program in memory: its value. -/
def nodeA (k : Int) (s : ByteArray) (ad : Option Addr) (n cap : Nat) : Value := .agg #[.int .u8 k, .string s, .slice ad n cap]
theorem mis_other (nd : Node) (hok : nd.ok) (c : UInt8) {W : World} {lo hi : Nat} {k : Int} {s : ByteArray} {ad : Option Addr} {n cap : Nat} (h : NodeIs W lo hi nd k s ad n cap) : k = 97 ∨ ((k == 97) = false ∧ isA nd c = false ∧ testN nd = false) := by
  cases nd with
  | atom a => exact .inl h.1
  | loop p => obtain ⟨rfl, _⟩ := h; exact .inr ⟨rfl, rfl, rfl⟩
  | pair k0 p q =>
    obtain ⟨rfl, _⟩ := h
    obtain ⟨rfl | rfl, _, _⟩ := hok
    · exact .inr ⟨rfl, rfl, rfl⟩
    · exact .inr ⟨rfl, rfl, rfl⟩
set_option maxHeartbeats 2000000 in
theorem mis (nd : Node) (hok : nd.ok) (c : UInt8) {W : World} {lo hi : Nat} {k : Int} {s : ByteArray} {ad : Option Addr} {n cap : Nat} (h : NodeIs W lo hi nd k s ad n cap) (w : World) :
    Calls Tryd.prog 96 #[.agg #[.int .u8 k, .string s, .slice ad n cap], .string ⟨#[c]⟩] w fun e w' => e = .returned (.bool (isA nd c)) ∧ Below w.heap.size w w' := by
  obtain ⟨x0, x1, x2, _⟩ := (Var.new w k s ad n cap).cells
  rcases mis_other nd hok c h with rfl | ⟨hk, hi0, _⟩
  · cases nd with
    | atom a =>
      obtain ⟨_, rfl, rfl⟩ := h
      show Calls _ _ _ _ fun e w' => e = .returned (.bool (a == [c])) ∧ _
      cases hb : (a == [c]) with
      | true =>
        go_enter Tryd.func96, Tryd.ntmps96
        go_wp2
        go_ret
        first | exact ⟨rfl, (Below.refl _ _).alloc (Nat.le_refl _) _⟩ | exact ⟨rfl, Below.refl _ _⟩
      | false =>
        go_enter Tryd.func96, Tryd.ntmps96
        go_wp2
        go_ret
        first | exact ⟨rfl, (Below.refl _ _).alloc (Nat.le_refl _) _⟩ | exact ⟨rfl, Below.refl _ _⟩
    | loop p => obtain ⟨h1, _⟩ := h; cases h1
    | pair k0 p q => obtain ⟨h1, _⟩ := h; obtain ⟨rfl | rfl, _, _⟩ := hok <;> cases h1
  · rw [hi0]
    go_enter Tryd.func96, Tryd.ntmps96
    go_wp2
    go_ret
    first | exact ⟨rfl, (Below.refl _ _).alloc (Nat.le_refl _) _⟩ | exact ⟨rfl, Below.refl _ _⟩

/-! ### Assignments that are useless -/
theorem over_bits : (twos.all fun y => (inB ((y.getD 1 0).toNat : Int) 48 50 || ((y.getD 1 0) == 63) || inB ((y.getD 1 0).toNat : Int) 120 121) == (y.getD 1 0 != 43)) = true := by decide
theorem ok_two {a : List UInt8} (h : (Node.atom a).ok) : (a.length = 2 ∧ a ∈ twos ∧ ∃ c d, a = [c, d]) ∨ (a.length ≠ 2 ∧ a ∉ twos) := by
  rcases h with rfl | rfl | h | ⟨t, ht, rfl⟩
  · exact .inr ⟨by decide, by decide⟩
  · exact .inr ⟨by decide, by decide⟩
  · obtain ⟨c, d, rfl, _⟩ := twos_shape h
    exact .inl ⟨rfl, h, c, d, rfl⟩
  · obtain ⟨x, y, z, rfl⟩ := test_three ht
    refine .inr ⟨by simp, fun h => ?_⟩
    obtain ⟨c, d, h, _⟩ := twos_shape h
    simp at h
end Go.Proofs.YtgkgkaapjljpcaaDoor

