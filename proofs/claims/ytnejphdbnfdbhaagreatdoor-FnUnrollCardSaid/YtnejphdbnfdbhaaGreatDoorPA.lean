/- Chapter 7: how many times a loop is gone through, in plain words. -/
import Derived.Test.YtnejphdbnfdbhaaGreatDoorR5
namespace Go.Proofs.YtnejphdbnfdbhaaGreatDoor
open Go.ChangeShapes Go.WideShapes Go.ChangeAt Go.RowKit Go.Shelf
set_option maxRecDepth 100000

/-- What is reached when a loop is gone through so many times. -/
def fP (p : Node) (m : Nat) : Nat → Nat
  | 0 => m
  | t + 1 => fP p m t ||| (runR p (fP p m t)).1
/-- The loop's outcome when it is gone through at most so many times. -/
def upP (p : Node) (m t : Nat) : Nat × Nat := (fP p m t, (runR p (fP p m t)).2)
/-- What is reached behind the body done so many times, one behind the other. -/
def sM (p : Node) (m : Nat) : Nat → Nat
  | 0 => m
  | t + 1 => (runR p (sM p m t)).1
def gM (p : Node) (x : Int) (s : Nat) : Nat := if x = 1 then (runR p s).2 else s
def wM (p : Node) (x : Int) (m : Nat) : Nat → Nat
  | 0 => 0
  | i + 1 => wM p x m i ||| gM p x (sM p m i)
theorem fP_iter (p : Node) (m : Nat) : ∀ t, fP p m t = (iter (stepL (runR p)) t (m, 0)).1
  | 0 => rfl
  | t + 1 => by
    rw [iter_succ]
    show fP p m t ||| (runR p (fP p m t)).1 = _
    rw [fP_iter p m t]
    rfl
theorem fP_lt {p : Node} (h : p.ok) {m : Nat} (hm : m < 512) : ∀ t, fP p m t < 512
  | 0 => hm
  | t + 1 => or_lt (fP_lt h hm t) (run_lt p h _ (fP_lt h hm t)).1
theorem sM_lt {p : Node} (h : p.ok) {m : Nat} (hm : m < 512) : ∀ t, sM p m t < 512
  | 0 => hm
  | t + 1 => (run_lt p h _ (sM_lt h hm t)).1
theorem gM_lt {p : Node} (h : p.ok) (x : Int) {s : Nat} (hs : s < 512) : gM p x s < 512 := by
  unfold gM
  split
  · exact (run_lt p h s hs).2
  · exact hs
theorem wM_lt {p : Node} (h : p.ok) (x : Int) {m : Nat} (hm : m < 512) : ∀ i, wM p x m i < 512
  | 0 => by unfold wM; omega
  | i + 1 => or_lt (wM_lt h x hm i) (gM_lt h x (sM_lt h hm i))
theorem gM_zero (p : Node) (s : Nat) : gM p 0 s = s := if_neg (by decide)
theorem wM_first (p : Node) (m : Nat) : ∀ t, m ||| wM p 0 m (t + 1) = wM p 0 m (t + 1)
  | 0 => by
    show m ||| (0 ||| gM p 0 (sM p m 0)) = 0 ||| gM p 0 (sM p m 0)
    rw [gM_zero, Nat.zero_or]
    exact Nat.or_self m
  | t + 1 => by
    show m ||| (wM p 0 m (t + 1) ||| gM p 0 (sM p m (t + 1))) = _
    rw [← Nat.or_assoc, wM_first p m t]
    rfl
theorem wM_run (p : Node) (m : Nat) : ∀ t, (runR p (wM p 0 m (t + 1))).1 ||| m = wM p 0 m (t + 2)
  | 0 => by
    show (runR p (0 ||| gM p 0 (sM p m 0))).1 ||| m = 0 ||| gM p 0 (sM p m 0) ||| gM p 0 (sM p m 1)
    rw [gM_zero, gM_zero, Nat.zero_or]
    exact Nat.or_comm _ _
  | t + 1 => by
    have ih := wM_run p m t
    have e : (runR p (wM p 0 m (t + 1 + 1))).1 = (runR p (wM p 0 m (t + 1))).1 ||| sM p m (t + 2) := by
      show (runR p (wM p 0 m (t + 1) ||| gM p 0 (sM p m (t + 1)))).1 = _
      rw [gM_zero, run_or]
      rfl
    rw [e, Nat.or_assoc, Nat.or_comm (sM p m (t + 2)) m, ← Nat.or_assoc, ih]
    show _ = wM p 0 m (t + 2) ||| gM p 0 (sM p m (t + 2))
    rw [gM_zero]
theorem fP_wM (p : Node) (m : Nat) : ∀ t, fP p m t = wM p 0 m (t + 1)
  | 0 => by
    show m = 0 ||| gM p 0 (sM p m 0)
    rw [gM_zero, Nat.zero_or]
    rfl
  | t + 1 => by
    show fP p m t ||| (runR p (fP p m t)).1 = wM p 0 m (t + 2)
    rw [fP_wM p m t]
    have h1 := wM_run p m t
    have h2 := wM_first p m t
    have e : wM p 0 m (t + 1) ||| (runR p (wM p 0 m (t + 1))).1 = wM p 0 m (t + 1) ||| ((runR p (wM p 0 m (t + 1))).1 ||| m) := by
      rw [Nat.or_comm (runR p (wM p 0 m (t + 1))).1 m, ← Nat.or_assoc, Nat.or_comm (wM p 0 m (t + 1)) m, h2]
    rw [e, h1]
    show wM p 0 m (t + 1) ||| (wM p 0 m (t + 1) ||| gM p 0 (sM p m (t + 1))) = _
    rw [← Nat.or_assoc, Nat.or_self]
    rfl
theorem wM_err (p : Node) (m : Nat) : ∀ t, (runR p (wM p 0 m (t + 1))).2 = wM p 1 m (t + 1)
  | 0 => by
    show (runR p (0 ||| gM p 0 (sM p m 0))).2 = 0 ||| gM p 1 (sM p m 0)
    rw [gM_zero, Nat.zero_or, Nat.zero_or]
    rfl
  | t + 1 => by
    show (runR p (wM p 0 m (t + 1) ||| gM p 0 (sM p m (t + 1)))).2 = wM p 1 m (t + 1) ||| gM p 1 (sM p m (t + 1))
    rw [gM_zero, run_or, ← wM_err p m t]
    rfl
/-- The model's answer and the program's are the same. -/
theorem within_up (p : Node) (m : Nat) {x : Int} (hx : x = 0 ∨ x = 1) (t : Nat) : wM p x m (t + 1) = exitN x (upP p m t) := by
  rcases hx with rfl | rfl
  · exact (fP_wM p m t).symm
  · show _ = (runR p (fP p m t)).2
    rw [fP_wM, wM_err]
theorem up_end {p : Node} (h : p.ok) {m : Nat} (hm : m < 512) : upP p m 18 = runR (.loop p) m := by
  have e : fP p m 18 = (runR (.loop p) m).1 := by rw [fP_iter, runR]
  refine Prod.ext e ?_
  show (runR p (fP p m 18)).2 = _
  rw [e, loop_errs h hm]
/-- The least number from a first one on at which something holds. -/
def leastT (f : Nat → Bool) : Nat → Nat → Nat
  | 0, t => t
  | n + 1, t => if f t = true then t else leastT f n (t + 1)
theorem least_at {f : Nat → Bool} : ∀ (n s t : Nat), s ≤ t → t ≤ s + n → (∀ j, s ≤ j → j < t → f j = false) → f t = true → leastT f n s = t
  | 0, s, t, h1, h2, _, _ => by show s = t; omega
  | n + 1, s, t, h1, h2, h3, h4 => by
    unfold leastT
    by_cases e : s = t
    · subst e
      rw [if_pos h4]
    · have hs := h3 s (Nat.le_refl _) (by omega)
      rw [if_neg (by rw [hs]; decide)]
      exact least_at n (s + 1) t (by omega) (by omega) (fun j hj hjt => h3 j (by omega) hjt) h4
def eqAt (p : Node) (x : Int) (m t : Nat) : Bool := decide (exitN x (upP p m t) = exitN x (runR (.loop p) m))
def timesN (p : Node) (x : Int) (m : Nat) : Nat := leastT (eqAt p x m) 18 0
theorem times_at {p : Node} {x : Int} {m t : Nat} (ht : t ≤ 18) (h3 : ∀ j, j < t → eqAt p x m j = false) (h4 : eqAt p x m t = true) : timesN p x m = t :=
  least_at 18 0 t (Nat.zero_le _) (by omega) (fun j _ hj => h3 j hj) h4
theorem times_end {p : Node} (h : p.ok) (x : Int) {m : Nat} (hm : m < 512) : eqAt p x m 18 = true := decide_eq_true (by rw [up_end h hm])
/-- The answer of LoopTimes. -/
def timesZ (t : ByteArray) (s x : Int) : Int := match readP t.toList with
  | some (.loop p) => if (isSet s && inB x 0 1) = true then ((timesN p x s.toNat : Nat) : Int) else -1
  | _ => -1
end Go.Proofs.YtnejphdbnfdbhaaGreatDoor

