/- The tests' comparisons: the table of function values, the sides of a test, and where a test holds. -/
import Derived.Test.YtemilnkglkpnjaaDoorBase1
import Derived.Maps.OwnOps
import Derived.Maps.OwnSet
namespace Go.Proofs.YtemilnkglkpnjaaDoor
open Go.ChangeShapes Go.WideShapes Go.ChangeAt Go.RowKit Go.Shelf Go.Maps
set_option maxRecDepth 100000
attribute [local go_sem] Oper.semAt_some

/-- What a side of a test is in a state: a variable's value, or the digit. -/
def sideV (c : Int) (x y : Int) : Int := if c = 120 then x else if c = 121 then y else c - 48

theorem valueOf54 (x y c : Int) (c0 : 0 ≤ c) (c1 : c ≤ 255) (w : World) :
    Calls Tryd.prog 92 #[.agg #[.int .i64 x, .int .i64 y], .int .u8 c] w fun e w' => e = .returned (.int .i64 (sideV c x y)) ∧ Below w.heap.size w w' := by
  by_cases h1 : c = 120
  · subst h1
    go_enter Tryd.func92, Tryd.ntmps92
    go_wp2
    go_ret
    exact ⟨rfl, (Below.refl _ _).alloc (Nat.le_refl _) _⟩
  · by_cases h2 : c = 121
    · subst h2
      go_enter Tryd.func92, Tryd.ntmps92
      go_wp2
      go_ret
      exact ⟨rfl, (Below.refl _ _).alloc (Nat.le_refl _) _⟩
    · have e1 : (c == 120) = false := by simpa using h1
      have e2 : (c == 121) = false := by simpa using h2
      have e3 : sideV c x y = c - 48 := by unfold sideV; rw [if_neg h1, if_neg h2]
      rw [e3]
      clear e3
      go_enter Tryd.func92, Tryd.ntmps92
      go_wp2
      go_ret
      exact ⟨rfl, (Below.refl _ _).alloc (Nat.le_refl _) _⟩

theorem value58 (c s : Int) (c0 : 0 ≤ c) (c1 : c ≤ 255) (s0 : 0 ≤ s) (s8 : s ≤ 8) (w : World) :
    Calls Tryd.prog 94 #[.int .u8 c, .int .i64 s] w fun e w' => e = .returned (.int .i64 (sideV c (s / 3) (s % 3))) ∧ w = w' := by
  by_cases h1 : c = 120
  · subst h1
    go_enter Tryd.func94, Tryd.ntmps94
    go_wp2
    go_ret
    exact ⟨rfl, rfl⟩
  · by_cases h2 : c = 121
    · subst h2
      go_enter Tryd.func94, Tryd.ntmps94
      go_wp2
      go_ret
      exact ⟨rfl, rfl⟩
    · have e1 : (c == 120) = false := by simpa using h1
      have e2 : (c == 121) = false := by simpa using h2
      have e3 : sideV c (s / 3) (s % 3) = c - 48 := by unfold sideV; rw [if_neg h1, if_neg h2]
      rw [e3]
      clear e3
      go_enter Tryd.func94, Tryd.ntmps94
      go_wp2
      go_ret
      exact ⟨rfl, rfl⟩

theorem eq60 (a b : Int) (w : World) : Calls Tryd.prog 98 #[.int .i64 a, .int .i64 b] w fun e w' => e = .returned (.bool (a == b)) ∧ w = w' := by
  go_enter Tryd.func98, Tryd.ntmps98
  go_wp2
  go_ret
  exact ⟨rfl, rfl⟩
theorem ne61 (a b : Int) (w : World) : Calls Tryd.prog 99 #[.int .i64 a, .int .i64 b] w fun e w' => e = .returned (.bool (a != b)) ∧ w = w' := by
  go_enter Tryd.func99, Tryd.ntmps99
  go_wp2
  go_ret
  exact ⟨rfl, rfl⟩
theorem lt62 (a b : Int) (w : World) : Calls Tryd.prog 100 #[.int .i64 a, .int .i64 b] w fun e w' => e = .returned (.bool (decide (a < b))) ∧ w = w' := by
  go_enter Tryd.func100, Tryd.ntmps100
  go_wp2
  go_ret
  exact ⟨rfl, rfl⟩

/-- How a function of the program reads that captures nothing: by its number. -/
def funElem (v : Value) : Option (DataW Unit × List MemPlace) :=
  match v with
  | .func (.func f) a b => if a = #[] ∧ b = #[] then some (.lit (.int .i64 f), []) else none
  | .nilFunc => some (.nil, [])
  | _ => none

theorem funElem_mk (f : Nat) : funElem (.func (.func f) #[] #[]) = some (.lit (.int .i64 f), []) := by simp [funElem]
theorem funElem_inv {v : Value} {z : Int} {ps : List MemPlace} (h : funElem v = some (.lit (.int .i64 z), ps)) : ∃ f : Nat, v = .func (.func f) #[] #[] ∧ z = (f : Int) := by
  unfold funElem at h
  split at h
  · split at h
    · rename_i hc
      obtain ⟨rfl, rfl⟩ := hc
      simp at h
      exact ⟨_, rfl, h.1.symm⟩
    · cases h
  · simp at h
  · cases h

theorem lawU8 : Keyed Tryd.prog 5 := int_keyed Tryd.underlying5

/-- The table of comparisons, as it reads. -/
def cmpD : DataW Unit := (((DataW.map []).put (.int .u8 61) (.lit (.int .i64 98))).put (.int .u8 35) (.lit (.int .i64 99))).put (.int .u8 60) (.lit (.int .i64 100))

theorem comparisons52 (w : World) :
    Calls Tryd.prog 90 #[] w fun e w' => e = .returned (.map (some w.heap.size)) ∧ w'.ownsMap Tryd.prog 5 funElem w.heap.size 3 cmpD ∧ Below w.heap.size w w' := by
  have hmm := @run_makeMap Tryd.prog
  have h0 := World.ownsMap_made w Tryd.prog 5 funElem
  obtain ⟨w1, r1, h1, g1⟩ := h0.update lawU8 Tryd.underlying111 (by unfold maxLen; omega) (key := .int .u8 61) (keyOf_int_mk Tryd.underlying5 (by decide)) (funElem_mk 98)
  obtain ⟨w2, r2, h2, g2⟩ := h1.update lawU8 Tryd.underlying111 (by unfold maxLen; omega) (key := .int .u8 35) (keyOf_int_mk Tryd.underlying5 (by decide)) (funElem_mk 99)
  obtain ⟨w3, r3, h3, g3⟩ := h2.update lawU8 Tryd.underlying111 (by unfold maxLen; omega) (key := .int .u8 60) (keyOf_int_mk Tryd.underlying5 (by decide)) (funElem_mk 100)
  have s1 : w.heap.size ≤ w1.heap.size := Nat.le_trans (by simp) g1.size
  have s2 : w.heap.size ≤ w2.heap.size := Nat.le_trans s1 g2.size
  go_enter Tryd.func90, Tryd.ntmps90
  go_wp2
  go_ret
  exact ⟨rfl, h3, ((((Below.refl _ w).alloc (Nat.le_refl _) _).grown g1 (by simp) (fun j e => by cases e; exact Nat.le_refl _)).grown g2 s1 (fun j e => by cases e; exact Nat.le_refl _)).grown g3 s2 (fun j e => by cases e; exact Nat.le_refl _)⟩

theorem zero66 (w : World) : (zeroValue 110).run Tryd.prog w = .ok .nilFunc w := by kernel_rfl

/-- What stands at a sign. -/
theorem cmp_at {W : World} {b : Nat} (h : W.ownsMap Tryd.prog 5 funElem b 3 cmpD) (c : Int) (f : Nat) (hc : (c = 61 ∧ f = 98) ∨ (c = 35 ∧ f = 99) ∨ (c = 60 ∧ f = 100)) :
    (Instr.lookup 111 (.map (some b)) (.int .u8 c) false).run Tryd.prog W = .ok (.func (.func f) #[] #[]) W := by
  have hw : (Lit.int .u8 c).wf = true := by rcases hc with ⟨rfl, _⟩ | ⟨rfl, _⟩ | ⟨rfl, _⟩ <;> decide
  obtain ⟨v, ps, hrun, hv⟩ := h.lookup lawU8 Tryd.underlying111 (zero66 W) (show funElem .nilFunc = some (.nil, []) by rfl) (key := .int .u8 c) (keyOf_int_mk Tryd.underlying5 hw)
  have hd : cmpD.atKey (.int .u8 c) .nil = .lit (.int .i64 f) := by rcases hc with ⟨rfl, rfl⟩ | ⟨rfl, rfl⟩ | ⟨rfl, rfl⟩ <;> rfl
  rw [hd] at hv
  obtain ⟨g, rfl, hg⟩ := funElem_inv hv
  have : g = f := by omega
  subst this
  exact hrun
end Go.Proofs.YtemilnkglkpnjaaDoor

