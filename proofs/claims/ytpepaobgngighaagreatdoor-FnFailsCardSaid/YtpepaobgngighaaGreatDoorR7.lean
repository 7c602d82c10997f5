/- The program's counts of results, and what it tells of a program by all of them. -/
import Derived.Test.YtpepaobgngighaaGreatDoorR6
namespace Go.Proofs.YtpepaobgngighaaGreatDoor
open Go.ChangeShapes Go.WideShapes Go.ChangeAt Go.RowKit Go.Shelf
attribute [local go_sem] Oper.semAt_some
set_option maxRecDepth 100000

/-! ### How many states -/

def manyZ (x : Nat × Nat) : Bool := decide ((1 : Int) < ((upTo (x.1 : Int) 9).length : Int) + ((upTo (x.2 : Int) 9).length : Int))
theorem many_eq (x : Nat × Nat) : manyZ x = manyS x := by
  unfold manyZ manyS
  exact decide_eq_decide.2 (by omega)
set_option maxHeartbeats 2000000 in

theorem has_nil (f : FuncId) (w : World) :
    Calls Tryz.prog 41 #[.slice none 0 0, .func (.func f) #[] #[]] w fun e w' => e = .returned (.bool false) ∧ w = w' := by
  go_enter Tryz.func41, Tryz.ntmps41
  go_wp2_with (go_at_call 60; refine (idx_nil f _).mono ?_; rintro e w' ⟨rfl, rfl⟩)
  go_ret
  exact ⟨rfl, rfl⟩
theorem has_any (f : FuncId) (g cap : Nat) (b : Bool) (w : World)
    (h : Calls Tryz.prog 60 #[.slice (some ⟨g, 0, none⟩) 9 cap, .func (.func f) #[] #[]] w fun e w' => (∃ z : Int, e = .returned (.int .i64 z) ∧ decide (0 ≤ z) = b) ∧ Below w.heap.size w w') :
    Calls Tryz.prog 41 #[.slice (some ⟨g, 0, none⟩) 9 cap, .func (.func f) #[] #[]] w fun e w' => e = .returned (.bool b) ∧ Below w.heap.size w w' := by
  go_enter Tryz.func41, Tryz.ntmps41
  go_wp2_with (go_at_call 60; refine h.mono ?_; rintro e w' ⟨⟨z, rfl, hz⟩, hb1⟩)
  go_ret
  exact ⟨rfl, hb1⟩

/-! ### Does it fail, stick, have one result -/
def tellsP (f : Node → Bool) (t : ByteArray) : Bool := match readP t.toList with
  | some nd => f nd
  | none => false
theorem fails_some (nd : Node) : someB (fun s => ((runR nd (2 ^ s)).2 : Int) != 0) 9 = failsP nd := by
  unfold someB failsP
  congr 1
  funext s
  rw [Bool.eq_iff_iff, bne_iff_ne, bne_iff_ne]
  omega
theorem single_some (nd : Node) : someB (fun s => manyZ (runR nd (2 ^ s))) 9 = !singleP nd := by
  unfold someB singleP
  rw [Bool.not_not]
  congr 1
  funext s
  exact many_eq _
set_option maxHeartbeats 2000000 in
theorem pcanfail16 (t : ByteArray) (w : World) {N : Nat} (hE : Laid3 N w) :
    Calls Tryz.prog 20 #[.string t] w fun e w' => e = .returned (.bool (tellsP failsP t)) ∧ Below w.heap.size w w' := by
  cases hP : readP t.toList with
  | none =>
    have ht : tellsP failsP t = false := by unfold tellsP; rw [hP]
    rw [ht]
    have H := fun w h => pouts_none t w (N := N) h hP
    clear hP ht
    go_enter Tryz.func20, Tryz.ntmps20
    go_wp2_with (first
      | (go_at_call 40; refine (H _ hE).mono ?_; rintro e w' ⟨⟨T, v, rfl⟩, hb1⟩)
      | (go_at_call 41; refine (has_nil _ _).mono ?_; rintro e w' ⟨rfl, rfl⟩))
    go_ret
    exact ⟨rfl, hb1⟩
  | some nd =>
    have ht : tellsP failsP t = failsP nd := by unfold tellsP; rw [hP]
    rw [ht, ← fails_some]
    have H := fun w h => pouts_some t w (N := N) h hP
    clear hP ht
    generalize runR nd = r at H ⊢
    go_enter Tryz.func20, Tryz.ntmps20
    go_wp2_with (first
      | (go_at_call 40; refine (H _ hE).mono ?_; rintro e W1 ⟨g, cap, rfl, hg, hN, hb1⟩)
      | (go_at_call 41; refine (has_any _ g cap _ _ (idx_fail r g cap _ hg hN)).mono ?_; rintro e W2 ⟨rfl, hb2⟩))
    go_ret
    exact ⟨rfl, hb1.trans (hb2.mono hb1.size)⟩

theorem sticks_some (nd : Node) : someB (fun s => decide ((0, 0) = runR nd (2 ^ s))) 9 = sticksP nd := by
  unfold someB sticksP
  congr 1
  funext s
  rw [Bool.eq_iff_iff]
  simp only [decide_eq_true_eq, beq_iff_eq]
  exact eq_comm
end Go.Proofs.YtpepaobgngighaaGreatDoor

