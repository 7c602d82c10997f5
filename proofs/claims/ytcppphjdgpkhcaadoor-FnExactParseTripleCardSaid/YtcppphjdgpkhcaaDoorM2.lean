/- The model's atoms: what they reach from a set. -/
import Derived.Test.YtcppphjdgpkhcaaDoorM1
namespace Go.Proofs.YtcppphjdgpkhcaaDoor
open Go.ChangeShapes Go.WideShapes Go.ChangeAt Go.RowKit Go.Shelf
attribute [local go_sem] Oper.semAt_some
set_option maxRecDepth 100000
theorem b1c (c : UInt8) (h : 0 < (⟨#[c]⟩ : ByteArray).size) : (⟨#[c]⟩ : ByteArray)[0]'h = c := rfl
theorem b5 (a b c d e : UInt8) (h : 0 < (⟨#[a, b, c, d, e]⟩ : ByteArray).size) : (⟨#[a, b, c, d, e]⟩ : ByteArray)[0]'h = a := rfl
theorem whereB_nat (a b c : Int) : ∀ k, k ≤ 9 → ∃ n : Nat, whereB a b c k = (n : Int) ∧ n < 512
  | 0, _ => ⟨0, rfl, by omega⟩
  | k + 1, h => by
    obtain ⟨n, e, hn⟩ := whereB_nat a b c k (by omega)
    cases hh : holdsB a b c k with
    | true =>
      refine ⟨n ||| 2 ^ k, ?_, or_lt hn (pow_lt k (by omega))⟩
      rw [where_hit hh, e]
      have hp := pow_lt k (by omega)
      have := or_nat n (2 ^ k) (by omega) (by omega)
      rw [← this, Int.natCast_pow]; rfl
    | false => exact ⟨n, by rw [where_miss hh, e], hn⟩
theorem whereL_nat (a b c : UInt8) : ∃ n : Nat, whereL [a, b, c] = (n : Int) ∧ n < 512 := whereB_nat _ _ _ 9 (by omega)
end Go.Proofs.YtcppphjdgpkhcaaDoor

