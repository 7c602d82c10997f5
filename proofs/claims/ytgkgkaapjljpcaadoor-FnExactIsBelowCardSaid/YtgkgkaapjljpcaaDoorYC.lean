/- Chapter 11, the program: SameResults, Differs. -/
import Derived.Test.YtgkgkaapjljpcaaDoorYB
namespace Go.Proofs.YtgkgkaapjljpcaaDoor
open Go.ChangeShapes Go.WideShapes Go.ChangeAt Go.RowKit Go.Shelf
attribute [local go_sem] Oper.semAt_some
set_option maxRecDepth 100000
attribute [local go_sem ↓ 10000] heldL_eq heldS_eq

theorem eq_guard (r u : Nat → Nat × Nat) (x y : Operand) (W : World) : (eqGuard .eql 63 x y (resV r) (resV u)).run Tryd.prog W = .ok () W := by
  unfold resV
  exact run_eqGuard_agg W .eql 63 x y _ _ (by kernel_rfl)
theorem eq_bin (r u : Nat → Nat × Nat) (W : World) : (binOp .eql 63 (resV r) (resV u)).run Tryd.prog W = .ok (.bool ((List.range 9).all (sameAt r u))) W := by
  have h : (Op.equal 63 (.agg (resA r)) (.agg (resA u))).run Tryd.prog W = .ok ((List.range 9).all (sameAt r u)) W := eq_res r u W
  unfold resV
  show (do pure (.bool (← Op.equal 63 (.agg (resA r)) (.agg (resA u)))) : Sem Value).run Tryd.prog W = _
  simp only [Sem.run_bind, h, Result.andThen_ok]
  rfl
/-- What both say of two programs: have they the same results. -/
def sameZ (p q : ByteArray) : Bool := match readP p.toList, readP q.toList with
  | some a, some b => (List.range 9).all (sameAt (runR a) (runR b))
  | _, _ => false
theorem ResAt.nine {W : World} {g : Nat} {r : Nat → Nat × Nat} (h : ResAt W g r) : Nine W g r := by
  intro k hk
  rw [h.cell, h.cell]
  match k, hk with
  | 0, _ => exact ⟨rfl, rfl⟩
  | 1, _ => exact ⟨rfl, rfl⟩
  | 2, _ => exact ⟨rfl, rfl⟩
  | 3, _ => exact ⟨rfl, rfl⟩
  | 4, _ => exact ⟨rfl, rfl⟩
  | 5, _ => exact ⟨rfl, rfl⟩
  | 6, _ => exact ⟨rfl, rfl⟩
  | 7, _ => exact ⟨rfl, rfl⟩
  | 8, _ => exact ⟨rfl, rfl⟩
/-- The first state from which two results are not the same. -/
def firstD (r u : Nat → Nat × Nat) : Option Nat := (List.range 9).find? fun k => !sameAt r u k
theorem firstD_hit {r u : Nat → Nat × Nat} {k : Nat} (hk : k < 9) (h : ∀ j, j < k → sameAt r u j = true) (hn : sameAt r u k = false) : firstD r u = some k := by
  unfold firstD
  rw [List.find?_eq_some_iff_getElem]
  refine ⟨by rw [hn]; rfl, k, by rw [List.length_range]; exact hk, List.getElem_range .., fun j hj => ?_⟩
  rw [List.getElem_range, h j hj]; rfl
theorem firstD_none {r u : Nat → Nat × Nat} (h : ∀ j, j < 9 → sameAt r u j = true) : firstD r u = none := by
  unfold firstD
  rw [List.find?_eq_none]
  intro x hx
  rw [h x (List.mem_range.1 hx)]; simp
def diffR (r u : Nat → Nat × Nat) : Value := match firstD r u with
  | some s => .tuple #[.int .i64 (s : Int), .bool true]
  | none => .tuple #[.int .i64 0, .bool false]
def diffV (p q : ByteArray) : Value := match readP p.toList, readP q.toList with
  | some a, some b => diffR (runR a) (runR b)
  | _, _ => .tuple #[.int .i64 0, .bool false]
theorem diff_none : diffR noneR noneR = .tuple #[.int .i64 0, .bool false] := by
  unfold diffR
  rw [firstD_none (fun j _ => by simp [sameAt])]




end Go.Proofs.YtgkgkaapjljpcaaDoor

