/- Triples: plain facts (those of texts left out), no program of Go in it. -/
import Derived.Test.YtpepaobgngighabGreatDoorR5
namespace Go.Proofs.YtpepaobgngighabGreatDoor
open Go.ChangeShapes Go.WideShapes Go.ChangeAt Go.RowKit Go.Shelf
set_option maxRecDepth 100000

/-! ### No blank in the parts -/
theorem isP_len {p : List UInt8} (h : isP p = true) : p.length ≤ 60 := by
  unfold isP at h
  cases hp : readP p with
  | none => rw [hp] at h; cases h
  | some nd => exact (readP_iff.1 hp).2.2.1
theorem exit_two {x : Int} (h : inB x 0 1 = true) : x = 0 ∨ x = 1 := by
  have := of_decide_eq_true h
  omega
/-! ### Triples -/
structure Trip where
  b : Int
  p : ByteArray
  x : Int
  r : Int
def zeroT : Trip := ⟨0, ⟨#[]⟩, 0, 0⟩
/-- Whether a triple is one. -/
def validT (b : Int) (p : ByteArray) (x r : Int) : Bool := isSet b && isP p.toList && inB x 0 1 && isSet r
theorem valid_all {b : Int} {p : ByteArray} {x r : Int} (h : validT b p x r = true) : isSet b = true ∧ isP p.toList = true ∧ (x = 0 ∨ x = 1) ∧ isSet r = true := by
  unfold validT at h
  simp only [Bool.and_eq_true] at h
  exact ⟨h.1.1.1, h.1.1.2, exit_two h.1.2, h.2⟩
/-! ### Sure and always -/
def sureT (b : Int) (p : ByteArray) (x r : Int) : Bool := validT b p x r && (bits .andNot .i64 r (reachN p b x) == 0)
def alwaysT (b : Int) (p : ByteArray) (x r : Int) : Bool := validT b p x r && (bits .andNot .i64 (reachN p b x) r == 0)
def missT (b : Int) (p : ByteArray) (x r : Int) : Int := if validT b p x r = true then bits .andNot .i64 r (reachN p b x) else 0
def surpT (b : Int) (p : ByteArray) (x r : Int) : Int := if validT b p x r = true then bits .andNot .i64 (reachN p b x) r else 0
def mostT (b : Int) (p : ByteArray) (x : Int) : Trip := if reachB p b x = true then ⟨b, p, x, reachN p b x⟩ else zeroT
def refT (b : Int) (p : ByteArray) (x r : Int) (b' : Int) (p' : ByteArray) (x' r' : Int) : Bool :=
  sureT b p x r && validT b' p' x' r' && (p == p') && (x == x') && (bits .andNot .i64 b b' == 0) && (bits .andNot .i64 r r' != 0)
theorem reach_valid {b : Int} {p : ByteArray} {x r : Int} (h : validT b p x r = true) : reachB p b x = true := by
  obtain ⟨h1, h2, h3, h4⟩ := valid_all h
  have h5 : inB x 0 1 = true := inB_yes (by omega)
  unfold reachB
  unfold isP at h2
  rw [h1, h2, h5]
  rfl
end Go.Proofs.YtpepaobgngighabGreatDoor

