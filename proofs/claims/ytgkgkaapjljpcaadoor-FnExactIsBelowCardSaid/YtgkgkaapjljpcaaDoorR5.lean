/- The program's answers on what is reached: from a set, from a state, from each state. -/
import Derived.Test.YtgkgkaapjljpcaaDoorR4
import Derived.Test.YtgkgkaapjljpcaaDoorNB
namespace Go.Proofs.YtgkgkaapjljpcaaDoor
open Go.ChangeShapes Go.WideShapes Go.ChangeAt Go.RowKit Go.Shelf
attribute [local go_sem] Oper.semAt_some
set_option maxRecDepth 100000

/-! ### The word of an exit -/
def nameX (x : Int) : ByteArray := if x = 0 then ⟨#[111, 107]⟩ else if x = 1 then ⟨#[101, 114, 114, 111, 114]⟩ else ⟨#[]⟩
theorem pname26 (x : Int) (w : World) :
    Calls Tryd.prog 19 #[.int .i64 x] w fun e w' => e = .returned (.string (nameX x)) ∧ w = w' := by
  by_cases h0 : x = 0
  · subst h0
    go_enter Tryd.func19, Tryd.ntmps19
    go_wp2
    go_ret
    exact ⟨rfl, rfl⟩
  · by_cases h1 : x = 1
    · subst h1
      go_enter Tryd.func19, Tryd.ntmps19
      go_wp2
      go_ret
      exact ⟨rfl, rfl⟩
    · have e : nameX x = ⟨#[]⟩ := by unfold nameX; rw [if_neg h0, if_neg h1]
      have b0 : (x == 0) = false := by simpa using h0
      have b1 : (x == 1) = false := by simpa using h1
      rw [e]
      clear h0 h1 e
      go_enter Tryd.func19, Tryd.ntmps19
      go_wp2
      go_ret
      exact ⟨rfl, rfl⟩

/-! ### From a set -/
def exitN (x : Int) (o : Nat × Nat) : Nat := if x = 1 then o.2 else o.1
def reachB (t : ByteArray) (s x : Int) : Bool := (readP t.toList).isSome && isSet s && inB x 0 1
def reachN (t : ByteArray) (s x : Int) : Int := match readP t.toList with
  | some nd => if (isSet s && inB x 0 1) = true then ((exitN x (runR nd s.toNat) : Nat) : Int) else 0
  | none => 0
theorem reach_none {t : ByteArray} (h : readP t.toList = none) (s x : Int) : reachN t s x = 0 ∧ reachB t s x = false := by
  unfold reachN reachB; rw [h]; exact ⟨rfl, rfl⟩
theorem reach_bad {t : ByteArray} {s x : Int} (h : (isSet s && inB x 0 1) = false) : reachN t s x = 0 ∧ reachB t s x = false := by
  unfold reachN reachB
  rw [Bool.and_assoc, h, Bool.and_false]
  refine ⟨?_, rfl⟩
  split
  · rfl
  · rfl
theorem reach_ok {t : ByteArray} {nd : Node} (h : readP t.toList = some nd) {m : Nat} (hm : m < 512) {x : Int} (hx : x = 0 ∨ x = 1) : reachN t (m : Int) x = ((exitN x (runR nd m) : Nat) : Int) ∧ reachB t (m : Int) x = true := by
  have hs : isSet (m : Int) = true := decide_eq_true (by omega)
  have hx' : inB x 0 1 = true := inB_yes (by omega)
  unfold reachN reachB
  rw [h, hs, hx']
  exact ⟨rfl, rfl⟩
theorem set_nat {s : Int} (h : isSet s = true) : ∃ m : Nat, m < 512 ∧ s = (m : Int) := by
  have := of_decide_eq_true h
  exact ⟨s.toNat, by omega, by omega⟩


/-! ### From one state -/
def isSt (s : Int) : Bool := inB s 0 8
def fromN (t : ByteArray) (s x : Int) : Int := if isSt s = true then reachN t (((2 : Nat) ^ s.toNat : Nat) : Int) x else 0
def fromB (t : ByteArray) (s x : Int) : Bool := isSt s && reachB t (((2 : Nat) ^ s.toNat : Nat) : Int) x
end Go.Proofs.YtgkgkaapjljpcaaDoor

