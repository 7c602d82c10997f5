/- Chapter 9, plain words: programs whose loops are gone through at most so many times; programs unrolled. No program of Go in it. -/
import Derived.Test.YtnejphdbnfdbhaaGreatDoorPA
namespace Go.Proofs.YtnejphdbnfdbhaaGreatDoor
open Go.ChangeShapes Go.WideShapes Go.ChangeAt Go.RowKit Go.Shelf
set_option maxRecDepth 100000

/-- What a program reaches from a set if each loop is gone through at most so many times. -/
def runT (k : Nat) : Node → Nat → Nat × Nat
  | .atom a, m => atomR a m
  | .loop p, m => iter (stepL (runT k p)) k (m, 0)
  | .pair c p q, m => if c = 59 then ((runT k q (runT k p m).1).1, (runT k p m).2 ||| (runT k q (runT k p m).1).2) else both2 (runT k p m) (runT k q m)
theorem runT_lt (t : Nat) : ∀ (nd : Node), nd.ok → ∀ m, m < 512 → (runT t nd m).1 < 512 ∧ (runT t nd m).2 < 512
  | .atom a, h, m, hm => by unfold runT; exact atom_lt h hm
  | .loop p, h, m, hm => by unfold runT; exact iter_lt (runT_lt t p h) t ⟨hm, (by decide : (0 : Nat) < 512)⟩
  | .pair k p q, h, m, hm => by
    have hp := runT_lt t p h.2.1 m hm
    unfold runT
    split
    · have hq := runT_lt t q h.2.2 _ hp.1
      exact ⟨hq.1, or_lt hp.2 hq.2⟩
    · have hq := runT_lt t q h.2.2 m hm
      exact ⟨or_lt hp.1 hq.1, or_lt hp.2 hq.2⟩
theorem runT_or (t : Nat) : ∀ (nd : Node) (a b : Nat), runT t nd (a ||| b) = both2 (runT t nd a) (runT t nd b)
  | .atom l, a, b => by unfold runT; exact atom_or l a b
  | .loop p, a, b => by
    unfold runT
    rw [← iter_or (runT_or t p) t (a, 0) (b, 0)]
    simp [both2]
  | .pair k p q, a, b => by
    unfold runT
    split
    · rw [runT_or t p a b]
      unfold both2
      simp only
      rw [runT_or t q]
      unfold both2
      refine Prod.ext rfl ?_
      simp only; ac_rfl
    · rw [runT_or t p, runT_or t q]
      unfold both2
      refine Prod.ext ?_ ?_
      · simp only; ac_rfl
      · simp only; ac_rfl
theorem runT_seq (t : Nat) (p q : Node) (m : Nat) : runT t (.pair 59 p q) m = ((runT t q (runT t p m).1).1, (runT t p m).2 ||| (runT t q (runT t p m).1).2) := by rw [runT]; rfl
theorem runT_choice (t : Nat) (p q : Node) (m : Nat) : runT t (.pair 124 p q) m = both2 (runT t p m) (runT t q m) := by rw [runT]; rfl
theorem runT_loop (t : Nat) (p : Node) (m : Nat) : runT t (.loop p) m = iter (stepL (runT t p)) t (m, 0) := by rw [runT]
theorem both_assoc (x y z : Nat × Nat) : both2 (both2 x y) z = both2 x (both2 y z) := Prod.ext (Nat.or_assoc ..) (Nat.or_assoc ..)
theorem both_comm (x y : Nat × Nat) : both2 x y = both2 y x := Prod.ext (Nat.or_comm ..) (Nat.or_comm ..)
theorem both_self (x : Nat × Nat) : both2 x x = x := Prod.ext (Nat.or_self ..) (Nat.or_self ..)

/-! ### A loop, round by round -/
/-- What the model has behind so many rounds: all that is reached, and what the last round has reached. -/
def seqM (r : Nat → Nat × Nat) (m : Nat) : Nat → (Nat × Nat) × Nat
  | 0 => ((m, 0), m)
  | i + 1 => (both2 (seqM r m i).1 (r (seqM r m i).2), (r (seqM r m i).2).1)
theorem seqM_iter {r : Nat → Nat × Nat} (hr : ∀ a b, r (a ||| b) = both2 (r a) (r b)) (m : Nat) : ∀ i, (seqM r m i).1 = iter (stepL r) i (m, 0) ∧ both2 (seqM r m i).1 (r (seqM r m i).1.1) = both2 (seqM r m i).1 (r (seqM r m i).2)
  | 0 => ⟨rfl, rfl⟩
  | i + 1 => by
    obtain ⟨h1, h2⟩ := seqM_iter hr m i
    have e1 : (seqM r m (i + 1)).1 = stepL r (seqM r m i).1 := by
      show both2 (seqM r m i).1 (r (seqM r m i).2) = _
      rw [← h2]
      rfl
    refine ⟨by rw [iter_succ, ← h1]; exact e1, ?_⟩
    have e2 : (seqM r m (i + 1)).1.1 = (seqM r m i).1.1 ||| (seqM r m (i + 1)).2 := rfl
    rw [e2, hr, ← both_assoc]
    congr 1
    rw [e1]
    show both2 (both2 (seqM r m i).1 (r (seqM r m i).1.1)) (r (seqM r m i).1.1) = both2 (seqM r m i).1 (r (seqM r m i).1.1)
    rw [both_assoc, both_self]
theorem iter_loop (r : Nat → Nat × Nat) : ∀ (n : Nat) (m f : Nat), iter (stepL r) n (m, f) = ((iter (stepL r) n (m, 0)).1, f ||| (iter (stepL r) n (m, 0)).2)
  | 0, m, f => by simp [iter]
  | n + 1, m, f => by
    show iter (stepL r) n (stepL r (m, f)) = ((iter (stepL r) n (stepL r (m, 0))).1, f ||| (iter (stepL r) n (stepL r (m, 0))).2)
    unfold stepL
    simp only
    rw [show (fun x : Nat × Nat => (x.1 ||| (r x.1).1, x.2 ||| (r x.1).2)) = stepL r from rfl]
    rw [iter_loop r n _ (f ||| (r m).2), iter_loop r n _ (0 ||| (r m).2)]
    simp only [Nat.zero_or, Nat.or_assoc]

/-! ### More times never reach less -/
/-- One outcome is within another. -/
def In2 (x y : Nat × Nat) : Prop := both2 x y = y
theorem In2.refl (x : Nat × Nat) : In2 x x := both_self x
theorem In2.trans {x y z : Nat × Nat} (h : In2 x y) (k : In2 y z) : In2 x z := by
  unfold In2 at *
  rw [← k, ← both_assoc, h]
theorem In2.both {a b c d : Nat × Nat} (h : In2 a b) (k : In2 c d) : In2 (both2 a c) (both2 b d) := by
  unfold In2 at *
  have e : both2 (both2 a c) (both2 b d) = both2 (both2 a b) (both2 c d) := by
    unfold both2
    refine Prod.ext ?_ ?_
    · simp only; ac_rfl
    · simp only; ac_rfl
  rw [e, h, k]
theorem In2.left (a b : Nat × Nat) : In2 a (both2 a b) := by unfold In2; rw [← both_assoc, both_self]
theorem In2.fst {x y : Nat × Nat} (h : In2 x y) : x.1 ||| y.1 = y.1 := congrArg Prod.fst h
theorem In2.snd {x y : Nat × Nat} (h : In2 x y) : x.2 ||| y.2 = y.2 := congrArg Prod.snd h
theorem In2.mono {r : Nat → Nat × Nat} (hr : ∀ a b, r (a ||| b) = both2 (r a) (r b)) {a b : Nat} (h : a ||| b = b) : In2 (r a) (r b) := by
  have e := hr a b
  rw [h] at e
  exact e.symm
theorem in_step {r r' : Nat → Nat × Nat} (hr' : ∀ a b, r' (a ||| b) = both2 (r' a) (r' b)) (hrr : ∀ m, In2 (r m) (r' m)) {x y : Nat × Nat} (h : In2 x y) : In2 (stepL r x) (stepL r' y) :=
  h.both ((hrr x.1).trans (In2.mono hr' h.fst))
theorem in_iter {r r' : Nat → Nat × Nat} (hr' : ∀ a b, r' (a ||| b) = both2 (r' a) (r' b)) (hrr : ∀ m, In2 (r m) (r' m)) : ∀ n {x y : Nat × Nat}, In2 x y → In2 (iter (stepL r) n x) (iter (stepL r') n y)
  | 0, _, _, h => h
  | n + 1, _, _, h => in_iter hr' hrr n (in_step hr' hrr h)
theorem in_more {r : Nat → Nat × Nat} (n d : Nat) (x : Nat × Nat) : In2 (iter (stepL r) n x) (iter (stepL r) (n + d) x) := by
  induction d with
  | zero => exact In2.refl _
  | succ d ih =>
    refine ih.trans ?_
    rw [← Nat.add_assoc, iter_succ]
    exact In2.left _ _
theorem in_seq {r r' s s' : Nat → Nat × Nat} (hs' : ∀ a b, s' (a ||| b) = both2 (s' a) (s' b)) (h : ∀ m, In2 (r m) (r' m)) (k : ∀ m, In2 (s m) (s' m)) (m : Nat) :
    In2 ((s (r m).1).1, (r m).2 ||| (s (r m).1).2) ((s' (r' m).1).1, (r' m).2 ||| (s' (r' m).1).2) := by
  have h1 := (k (r m).1).trans (In2.mono hs' (h m).fst)
  have h2 := In2.both (a := (0, (r m).2)) (b := (0, (r' m).2)) (Prod.ext (by show 0 ||| 0 = 0; rfl) (h m).snd) h1
  unfold both2 at h2
  simpa using h2
theorem runT_more (t d : Nat) : ∀ (nd : Node) (m : Nat), In2 (runT t nd m) (runT (t + d) nd m)
  | .atom l, m => In2.refl _
  | .loop p, m => by
    rw [runT_loop, runT_loop]
    exact (in_iter (runT_or (t + d) p) (runT_more t d p) t (In2.refl _)).trans (in_more t d _)
  | .pair k p q, m => by
    unfold runT
    split
    · exact in_seq (runT_or (t + d) q) (runT_more t d p) (runT_more t d q) m
    · exact (runT_more t d p m).both (runT_more t d q m)

/-! ### Twelve times are all of them -/
theorem iter_same {r r' : Nat → Nat × Nat} (hr : ∀ m, m < 512 → (r m).1 < 512 ∧ (r m).2 < 512) (h : ∀ m, m < 512 → r m = r' m) : ∀ n {x : Nat × Nat}, x.1 < 512 ∧ x.2 < 512 → iter (stepL r) n x = iter (stepL r') n x
  | 0, _, _ => rfl
  | n + 1, x, hx => by
    have e : stepL r x = stepL r' x := by unfold stepL; rw [h _ hx.1]
    show iter (stepL r) n (stepL r x) = iter (stepL r') n (stepL r' x)
    rw [← e]
    exact iter_same hr h n (step_lt hr hx)
theorem fst_stay {r : Nat → Nat × Nat} {x : Nat × Nat} {t : Nat} (e : (iter (stepL r) (t + 1) x).1 = (iter (stepL r) t x).1) : ∀ d, (iter (stepL r) (t + d) x).1 = (iter (stepL r) t x).1
  | 0 => rfl
  | d + 1 => by
    rw [← Nat.add_assoc, iter_succ]
    show (iter (stepL r) (t + d) x).1 ||| (r (iter (stepL r) (t + d) x).1).1 = _
    rw [fst_stay e d]
    rw [iter_succ] at e
    exact e
theorem fst_cnt {r : Nat → Nat × Nat} (hr : ∀ m, m < 512 → (r m).1 < 512 ∧ (r m).2 < 512) {x : Nat × Nat} (hx : x.1 < 512 ∧ x.2 < 512) : ∀ t, (∀ j, j < t → (iter (stepL r) (j + 1) x).1 ≠ (iter (stepL r) j x).1) → t ≤ cnt (iter (stepL r) t x).1 9
  | 0, _ => Nat.zero_le _
  | t + 1, hne => by
    have ih := fst_cnt hr hx t (fun j hj => hne j (by omega))
    have hn := hne t (by omega)
    have hl := iter_lt hr t hx
    have m1 := cnt_mono (iter (stepL r) t x).1 (r (iter (stepL r) t x).1).1 9
    rw [iter_succ] at hn ⊢
    have e : (stepL r (iter (stepL r) t x)).1 = (iter (stepL r) t x).1 ||| (r (iter (stepL r) t x).1).1 := rfl
    rw [e] at hn ⊢
    rcases Nat.lt_or_ge (cnt (iter (stepL r) t x).1 9) (cnt ((iter (stepL r) t x).1 ||| (r (iter (stepL r) t x).1).1) 9) with h1 | h1
    · omega
    · exact absurd (or_same hl.1 (hr _ hl.1).1 h1) hn
theorem fst_nine {r : Nat → Nat × Nat} (hr : ∀ m, m < 512 → (r m).1 < 512 ∧ (r m).2 < 512) {x : Nat × Nat} (hx : x.1 < 512 ∧ x.2 < 512) (d : Nat) : (iter (stepL r) (9 + d) x).1 = (iter (stepL r) 9 x).1 := by
  by_cases h : ∃ j, j ≤ 9 ∧ (iter (stepL r) (j + 1) x).1 = (iter (stepL r) j x).1
  · obtain ⟨j, hj, e⟩ := h
    have e1 := fst_stay e (9 - j)
    have e2 := fst_stay e (9 + d - j)
    rw [show j + (9 - j) = 9 by omega] at e1
    rw [show j + (9 + d - j) = 9 + d by omega] at e2
    rw [e1, e2]
  · have := fst_cnt hr hx 10 (fun j hj e => h ⟨j, by omega, e⟩)
    have := cnt_le (iter (stepL r) 10 x).1 9
    omega
theorem iter_ten {r : Nat → Nat × Nat} (hr : ∀ m, m < 512 → (r m).1 < 512 ∧ (r m).2 < 512) (ho : ∀ a b, r (a ||| b) = both2 (r a) (r b)) {m : Nat} (hm : m < 512) (d : Nat) : iter (stepL r) (10 + d) (m, 0) = iter (stepL r) 18 (m, 0) := by
  have hx : (m, 0).1 < 512 ∧ (m, 0).2 < 512 := ⟨hm, (by decide : (0 : Nat) < 512)⟩
  have key : ∀ j, stepL r (iter (stepL r) (10 + j) (m, 0)) = iter (stepL r) (10 + j) (m, 0) := by
    intro j
    have h1 : (iter (stepL r) (10 + j) (m, 0)).1 = (iter (stepL r) 9 (m, 0)).1 := by rw [show 10 + j = 9 + (1 + j) by omega]; exact fst_nine hr hx _
    have h0 : (iter (stepL r) (9 + j) (m, 0)).1 = (iter (stepL r) 9 (m, 0)).1 := fst_nine hr hx _
    have h2 : (iter (stepL r) (11 + j) (m, 0)).1 = (iter (stepL r) 9 (m, 0)).1 := by rw [show 11 + j = 9 + (2 + j) by omega]; exact fst_nine hr hx _
    have e9 := iter_errs ho (9 + j) (m, 0) (by simp)
    have s10 : iter (stepL r) (10 + j) (m, 0) = stepL r (iter (stepL r) (9 + j) (m, 0)) := by rw [show 10 + j = (9 + j) + 1 by omega, iter_succ]
    have s11 : iter (stepL r) (11 + j) (m, 0) = stepL r (iter (stepL r) (10 + j) (m, 0)) := by rw [show 11 + j = (10 + j) + 1 by omega, iter_succ]
    have f10 : (iter (stepL r) (10 + j) (m, 0)).2 = (r (iter (stepL r) 9 (m, 0)).1).2 := by
      rw [s10]
      show (iter (stepL r) (9 + j) (m, 0)).2 ||| (r (iter (stepL r) (9 + j) (m, 0)).1).2 = _
      rw [e9, h0]
    rw [← s11]
    refine Prod.ext (h2.trans h1.symm) ?_
    rw [s11]
    show (iter (stepL r) (10 + j) (m, 0)).2 ||| (r (iter (stepL r) (10 + j) (m, 0)).1).2 = _
    rw [h1, f10, Nat.or_self]
  exact fix_end hr hx (key d)
theorem runT_all (d : Nat) : ∀ (nd : Node), nd.ok → ∀ m, m < 512 → runT (10 + d) nd m = runR nd m
  | .atom _, _, _, _ => by unfold runT runR; rfl
  | .loop p, h, m, hm => by
    rw [runT_loop, runR]
    rw [iter_same (runT_lt (10 + d) p h) (runT_all d p h) (10 + d) ⟨hm, (by decide : (0 : Nat) < 512)⟩]
    exact iter_ten (run_lt p h) (run_or p) hm d
  | .pair k p q, h, m, hm => by
    unfold runT runR
    rw [runT_all d p h.2.1 m hm]
    have hp := run_lt p h.2.1 m hm
    split
    · rw [runT_all d q h.2.2 _ hp.1]
    · rw [runT_all d q h.2.2 m hm]
theorem runT_within (t : Nat) {nd : Node} (h : nd.ok) {m : Nat} (hm : m < 512) : In2 (runT t nd m) (runR nd m) := by
  rw [← runT_all t nd h m hm, Nat.add_comm]
  exact runT_more t 10 nd m
theorem exit_in {x y : Nat × Nat} (h : In2 x y) (e : Int) : exitN e x ||| exitN e y = exitN e y := by
  unfold exitN
  split
  · exact h.snd
  · exact h.fst

/-! ### How often loops are gone through -/
def allAt (nd : Node) (x : Int) (m t : Nat) : Bool := decide (exitN x (runT t nd m) = exitN x (runR nd m))
def forN (nd : Node) (x : Int) (m : Nat) : Nat := leastT (allAt nd x m) 12 0
def failAt (nd : Node) (m t : Nat) : Bool := decide ((runT t nd m).2 ≠ 0)
def failN (nd : Node) (m : Nat) : Nat := leastT (failAt nd m) 12 0
theorem all_twelve {nd : Node} (h : nd.ok) (x : Int) {m : Nat} (hm : m < 512) : allAt nd x m 12 = true := decide_eq_true (by rw [show 12 = 10 + 2 from rfl, runT_all 2 nd h m hm])
theorem fail_twelve {nd : Node} (h : nd.ok) {m : Nat} (hm : m < 512) (hf : (runR nd m).2 ≠ 0) : failAt nd m 12 = true := decide_eq_true (by rw [show 12 = 10 + 2 from rfl, runT_all 2 nd h m hm]; exact hf)
theorem fail_none {nd : Node} (h : nd.ok) {m : Nat} (hm : m < 512) (hf : (runR nd m).2 = 0) (t : Nat) : (runT t nd m).2 = 0 := by
  have := (runT_within t h hm).snd
  rw [hf] at this
  simpa using this
def isK (k : Int) : Bool := inB k 0 12
/-- The answers. -/
def inN (t : ByteArray) (s x k : Int) : Int := match readP t.toList with
  | some nd => if (reachB t s x && isK k) = true then ((exitN x (runT k.toNat nd s.toNat) : Nat) : Int) else 0
  | none => 0
def inOk (t : ByteArray) (s x k : Int) : Bool := reachB t s x && isK k
def forZ (t : ByteArray) (s x : Int) : Int := match readP t.toList with
  | some nd => if reachB t s x = true then ((forN nd x s.toNat : Nat) : Int) else -1
  | none => -1
def failZ (t : ByteArray) (s : Int) : Int := match readP t.toList with
  | some nd => if (isSet s && decide ((runR nd s.toNat).2 ≠ 0)) = true then ((failN nd s.toNat : Nat) : Int) else -1
  | none => -1

/-! ### Programs unrolled -/
def againN (q : Node) : Nat → Node
  | 0 => .atom [46]
  | j + 1 => .pair 124 (.atom [46]) (.pair 59 q (againN q j))
def unrN (k : Nat) : Node → Node
  | .atom a => .atom a
  | .loop p => againN (unrN k p) k
  | .pair c p q => .pair c (unrN k p) (unrN k q)
theorem again_ok {q : Node} (h : q.ok) : ∀ j, (againN q j).ok
  | 0 => .inl rfl
  | j + 1 => ⟨.inr rfl, .inl rfl, .inl rfl, h, again_ok h j⟩
theorem unr_ok (k : Nat) : ∀ nd : Node, nd.ok → (unrN k nd).ok
  | .atom _, h => h
  | .loop p, h => again_ok (unr_ok k p h) k
  | .pair _ p q, h => ⟨h.1, unr_ok k p h.2.1, unr_ok k q h.2.2⟩
theorem again_loops {q : Node} (h : q.loops = 0) : ∀ j, (againN q j).loops = 0
  | 0 => rfl
  | j + 1 => by
    show max 0 (max q.loops (againN q j).loops) = 0
    rw [h, again_loops h j]; rfl
theorem unr_loops (k : Nat) : ∀ nd : Node, (unrN k nd).loops = 0
  | .atom _ => rfl
  | .loop p => again_loops (unr_loops k p) k
  | .pair _ p q => by
    show max (unrN k p).loops (unrN k q).loops = 0
    rw [unr_loops k p, unr_loops k q]; rfl
theorem iter_unr {r : Nat → Nat × Nat} (hr : ∀ a b, r (a ||| b) = both2 (r a) (r b)) : ∀ j (m : Nat), iter (stepL r) (j + 1) (m, 0) = both2 (m, 0) (iter (stepL r) j (r m)) := by
  have e0 : ∀ m, stepL r (m, 0) = both2 (m, 0) (r m) := fun m => rfl
  intro j
  induction j with
  | zero => intro m; rfl
  | succ j ih =>
    intro m
    show iter (stepL r) (j + 1) (stepL r (m, 0)) = _
    rw [e0, iter_or hr, ih m, both_assoc]
    congr 1
    have h1 := in_more (r := r) j 1 (r m)
    exact h1
theorem again_run {q : Node} : ∀ j m, runR (againN q j) m = iter (stepL (runR q)) j (m, 0)
  | 0, m => rfl
  | j + 1, m => by
    rw [iter_unr (run_or q) j m]
    show runR (.pair 124 (.atom [46]) (.pair 59 q (againN q j))) m = _
    have e1 : runR (.pair 124 (.atom [46]) (.pair 59 q (againN q j))) m = both2 (runR (.atom [46]) m) (runR (.pair 59 q (againN q j)) m) := by rw [runR]; rfl
    have e2 : runR (.pair 59 q (againN q j)) m = ((runR (againN q j) (runR q m).1).1, (runR q m).2 ||| (runR (againN q j) (runR q m).1).2) := by rw [runR]; rfl
    rw [e1, e2, again_run j]
    have e3 := iter_loop (runR q) j (runR q m).1 (runR q m).2
    rw [show ((runR q m).1, (runR q m).2) = runR q m from rfl] at e3
    rw [e3]
    rfl
/-- Unrolled programs reach the same. -/
theorem unr_run (k : Nat) : ∀ (nd : Node) (m : Nat), runR (unrN k nd) m = runT k nd m
  | .atom a, m => by show runR (.atom a) m = _; unfold runT runR; rfl
  | .loop p, m => by
    show runR (againN (unrN k p) k) m = _
    rw [again_run, runT_loop]
    congr 1
    funext x
    unfold stepL
    rw [unr_run k p]
  | .pair c p q, m => by
    show runR (.pair c (unrN k p) (unrN k q)) m = _
    unfold runT runR
    rw [unr_run k p m, unr_run k q m, unr_run k q]
/-- The answers of Unroll. -/
def unrollT (t : ByteArray) (k : Int) : List UInt8 := match readP t.toList with
  | some nd => if (isK k && decide ((unrN k.toNat nd).text.length ≤ 60)) = true then (unrN k.toNat nd).text else []
  | none => []
def unrollOk (t : ByteArray) (k : Int) : Bool := match readP t.toList with
  | some nd => isK k && decide ((unrN k.toNat nd).text.length ≤ 60)
  | none => false
theorem unr_read {nd : Node} (h : nd.ok) (k : Nat) (hl : (unrN k nd).text.length ≤ 60) : readP (unrN k nd).text = some (unrN k nd) :=
  readP_iff.2 ⟨unr_ok k nd h, rfl, hl, by rw [unr_loops]; omega⟩
end Go.Proofs.YtnejphdbnfdbhaaGreatDoor

