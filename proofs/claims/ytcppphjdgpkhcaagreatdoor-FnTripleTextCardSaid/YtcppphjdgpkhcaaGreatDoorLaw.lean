/- A law for a loop over an iterator that keeps a text of its own in a captured variable, which it writes between two rounds. -/
import Derived.RangeFuncBox
import Derived.RangeFuncNested
import Derived.RangeFuncBound
import Derived.RangeFuncCalls
import Derived.RangeFuncLeaves
import Derived.WalkKit
namespace Go.Proofs.YtcppphjdgpkhcaaGreatDoor
open Go.RowKit

set_option maxRecDepth 100000
/-- What a round keeps for the iterator: the blocks of its captured variables. -/
def Caps (cap : List Nat) (W W' : World) : Prop := ∀ b ∈ cap, W'.heap[b]? = W.heap[b]?

/-- The iterator's contract: for every invariant that abides a write to its own variable in block bs. -/
def SeqStopsS {α : Type} (F : Fence) (n : Nat) (P : Program) (g : Nat) (lb : Array Value) (encs : α → Array Value) (cap : List Nat) (bs : Nat) (S Sp : List α → Prop) (N : Nat) (w : World) : Prop :=
  ∀ (l : Nat) (J Jx : List α → World → Prop) (W : World), Below w.heap.size w W → AbidesFrom W.heap.size J → AbidesFrom W.heap.size Jx →
    (∀ pre W1 v, J pre W1 → J pre (W1.setCell ⟨bs, 0, none⟩ v)) →
    (∀ pre x W1, J pre W1 → pre.length < N → YieldAt F (n - 1) P l (encs x) W1 fun e W' =>
      (e = .returned (.bool true) ∧ J (pre ++ [x]) W' ∧ Caps cap W1 W') ∨ (e = .returned (.bool false) ∧ Jx (pre ++ [x]) W')) →
    J [] W →
    CallsIn F n P g (#[.func (.yield l) #[] #[]] ++ lb) W fun e W' => (∃ v, e = .returned v) ∧ ((∃ xs, S xs ∧ J xs W') ∨ (∃ pre, Sp pre ∧ Jx pre W'))

/-- How the body of a round may end: it goes on, or the whole function returns. -/
def EndsS {α : Type} (cap : List Nat) (I Ix : List α → World → Prop) (xs : List α) (W : World) : Exit → Act → World → Prop
  | .normal, _, W' => KeepsOthers W W' ∧ Caps cap W W' ∧ I xs W'
  | .ret, _, W' => KeepsOthers W W' ∧ Ix xs W'
  | _, _, _ => False

variable {F : Fence} {n : Nat} {P : Program}

theorem range_state {α : Type} {g : Operand} {ps : Array Tmp} {assign body : Code} {Q : Exit → Act → World → Prop} {a : Act} {w : World}
    (hro : F.round = none) (h1 : 1 ≤ n) {gf : Nat} {lb : Array Value} (hg : a.eval g = .func (.func gf) #[] lb) (hF : F.fn gf) (eg : ∀ args w, (callFunc gf args).run P w = .ok (.enter gf args) w)
    {encs : α → Array Value} {cap : List Nat} {bs : Nat} {S Sp : List α → Prop} {N : Nat} (hseq : SeqStopsS F (n - 1) P gf lb encs cap bs S Sp N w)
    (hcap : ∀ b ∈ cap, b < w.heap.size) (hbs : bs < w.heap.size) (hps : ∀ x, (encs x).size = ps.size)
    (I Ix : List α → World → Prop) (hI : OwnFrom w.heap.size I) (hIx : OwnFrom w.heap.size Ix) (hIw : ∀ pre W v, I pre W → I pre (W.setCell ⟨bs, 0, none⟩ v)) (h0 : I [] w) (a₁ : α → Act)
    (hassign : ∀ (l : Nat) (x : α) (W : World) (K : Act → World → Prop), K (a₁ x) W →
      assign.wpIn (F.inRound l) (n - 1 - 1) P (Exit.then K (fun _ _ _ => False)) { tmps := (ps.zip (encs x)).foldl (fun t (p, v) => t.setIfInBounds p v) a.tmps, defers := [] } W)
    (hbody : ∀ (l : Nat) (pre : List α) (x : α) (W : World), I pre W → pre.length < N → body.wpIn (F.inRound l) (n - 1 - 1) P (EndsS cap I Ix (pre ++ [x]) W) (a₁ x) W)
    (hdone : ∀ (D : Nat) (xs : List α) (W : World), w.heap.size ≤ D → S xs → I xs W → W.heap[D]? = some (.deferred (some [])) → Q .normal { a with defers := { target := .collected D, args := #[] } :: a.defers } W)
    (hstop : ∀ (D : Nat) (pre : List α) (W : World), w.heap.size ≤ D → Sp pre → Ix pre W → W.heap[D]? = some (.deferred (some [])) → Code.ret.wpIn F n P Q { a with defers := { target := .collected D, args := #[] } :: a.defers } W) :
    (Code.rangeFunc g ps assign body).wpIn F n P Q a w := by
  refine wpIn_rangeFunc fun fn hfn => ?_
  rw [hro]
  -- two new blocks: the loop's deferred calls at D, its record at L
  obtain ⟨D, hD⟩ : ∃ D, D = w.heap.size := ⟨_, rfl⟩
  obtain ⟨mkRec, hrec⟩ : ∃ r : LoopState → Option Code → Loop, r = fun st pe => { state := st, pending := pe, fn, tmps := a.tmps, params := ps, assign, body, defers := D } := ⟨_, rfl⟩
  obtain ⟨V, hV⟩ : ∃ V, V = (w.alloc (.deferred (some []))).alloc (.loop (mkRec .ready none)) := ⟨_, rfl⟩
  have sV : V.heap.size = D + 1 + 1 := by rw [hV, hD]; simp
  have recV : V.heap[D + 1]? = some (.loop (mkRec .ready none)) := by
    have h := World.alloc_heap_new (w.alloc (.deferred (some []))) (.loop (mkRec .ready none))
    rw [World.size_alloc] at h
    rw [hV, hD]; exact h
  have defV : V.heap[D]? = some (.deferred (some [])) := by
    rw [hV, hD]; exact (Below.heap_alloc _ _ _ (by simp)).trans (World.alloc_heap_new w _)
  have startV : I [] V := by rw [hV]; exact hI.alloc _ (hI.alloc _ h0)
  have belV : Below w.heap.size w V := by rw [hV]; exact ((Below.refl _ w).alloc (Nat.le_refl _) _).alloc (by simp) _
  -- what holds between two rounds, and behind a round that has left
  obtain ⟨J, hJ⟩ : ∃ J : List α → World → Prop, J = fun pre W => I pre W ∧ W.heap[D + 1]? = some (.loop (mkRec .ready none)) ∧ W.heap[D]? = some (.deferred (some [])) := ⟨_, rfl⟩
  obtain ⟨Jx, hJx⟩ : ∃ J : List α → World → Prop, J = fun pre W => Ix pre W ∧ W.heap[D + 1]? = some (.loop (mkRec .done (some .ret))) ∧ W.heap[D]? = some (.deferred (some [])) := ⟨_, rfl⟩
  have walkRow : ∀ {A : World} {row : Option Nat}, (∀ r, row = some r → V.heap.size ≤ r ∧ ∃ o : Obj, A.heap[r]? = some o ∧ o.isWalk = true) → ∀ r, row = some r → w.heap.size ≤ r ∧ ∃ o : Obj, A.heap[r]? = some o ∧ o.isCells = false := fun hr r e => by
    obtain ⟨hB, o, ho, hw⟩ := hr r e
    exact ⟨by omega, o, ho, Obj.not_cells_of_walk hw⟩
  have hJa : AbidesFrom V.heap.size J := by
    rw [hJ]
    intro s A B row ⟨p1, p2, p3⟩ hg' hr
    exact ⟨hI s A B row p1 hg' (walkRow hr), (grownBy_keeps hg' (fun r e => (hr r e).2) p2 rfl).trans p2, (grownBy_keeps hg' (fun r e => (hr r e).2) p3 rfl).trans p3⟩
  have hJxa : AbidesFrom V.heap.size Jx := by
    rw [hJx]
    intro s A B row ⟨p1, p2, p3⟩ hg' hr
    exact ⟨hIx s A B row p1 hg' (walkRow hr), (grownBy_keeps hg' (fun r e => (hr r e).2) p2 rfl).trans p2, (grownBy_keeps hg' (fun r e => (hr r e).2) p3 rfl).trans p3⟩
  have hJw : ∀ pre W1 v, J pre W1 → J pre (W1.setCell ⟨bs, 0, none⟩ v) := by
    rw [hJ]
    intro pre W1 v ⟨p1, p2, p3⟩
    exact ⟨hIw pre W1 v p1, (Below.heap_setCell _ _ _ _ (by simp; omega)).trans p2, (Below.heap_setCell _ _ _ _ (by simp; omega)).trans p3⟩
  have capPut : ∀ (W : World) (o : Obj), Caps cap W (W.putObj (D + 1) o) := fun W o b hb => World.putObj_heap_other (by have := hcap b hb; omega)
  refine ⟨D + 1, [{ target := .collected D, args := #[] }], V, { target := .fn (.func gf) lb, args := #[.func (.yield (D + 1)) #[] #[]] }, V, gf,
    #[.func (.yield (D + 1)) #[] #[]] ++ lb, V, ?_, ?_, ?_, ?_, fun _ => h1, ?_⟩
  · rw [hV, hrec, hD]; exact run_enterLoop_outer _ _ _ _ _
  · simp only [resolve, hg]
    simp [go_sem]
  · intro f' hf'
    simp [Target.leads] at hf'
    subst hf'
    exact hF
  · simp [invoke, go_sem, eg]
  refine (hseq (D + 1) J Jx V belV hJa hJxa hJw ?_ (by rw [hJ]; exact ⟨startV, recV, defV⟩)).mono ?_
  · -- one round: the record says busy while the body runs
    intro pre x W hj hlen
    rw [hJ] at hj
    obtain ⟨hi, hl, hk⟩ := hj
    have hlt : D + 1 < W.heap.size := (Array.getElem?_eq_some_iff.1 hl).1
    have hy := run_yield (P := P) (args := encs x) hl (by rw [hrec]; exact hps x)
    rw [hrec] at hy
    refine ⟨fn, _, assign, body, hy, roundIn_of_wpIn hfn (hassign _ x W _ ⟨_, run_beginRound hl (by rw [hrec]), ?_⟩)⟩
    obtain ⟨X, hX⟩ : ∃ X, X = W.putObj (D + 1) (.loop { mkRec .ready none with state := .busy }) := ⟨_, rfl⟩
    rw [← hX]
    have busyX : X.heap[D + 1]? = some (.loop { mkRec .ready none with state := .busy }) := by rw [hX]; exact World.putObj_heap_same hlt
    have defX : X.heap[D]? = some (.deferred (some [])) := by rw [hX]; exact (World.putObj_heap_other (by omega)).trans hk
    have iX : I pre X := by rw [hX]; exact hI.putObj _ hi (by omega) hl rfl
    have capX : Caps cap W X := by rw [hX]; exact capPut W _
    refine wpIn_mono (hbody _ pre x X iX hlen) ?_
    have close : ∀ (jump : Option Code) (Y : World), KeepsOthers X Y →
        (Instr.endRound (D + 1) jump).run P Y = .ok (.bool jump.isNone) (Y.putObj (D + 1) (.loop (mkRec (if jump.isNone then .ready else .done) jump))) ∧
        Y.heap[D + 1]? = some (.loop { mkRec .ready none with state := .busy }) ∧
        (Y.putObj (D + 1) (.loop (mkRec (if jump.isNone then .ready else .done) jump))).heap[D + 1]? = some (.loop (mkRec (if jump.isNone then .ready else .done) jump)) ∧
        (Y.putObj (D + 1) (.loop (mkRec (if jump.isNone then .ready else .done) jump))).heap[D]? = some (.deferred (some [])) := fun jump Y hk3 => by
      have hl3 := hk3.same _ _ busyX rfl
      have he := run_endRound (P := P) jump hl3
      rw [hrec] at he ⊢
      exact ⟨he, by rw [hrec] at hl3; exact hl3, World.putObj_heap_same (Array.getElem?_eq_some_iff.1 hl3).1, (World.putObj_heap_other (by omega)).trans (hk3.same _ _ defX rfl)⟩
    intro e a3 Y hp
    cases e with
    | normal =>
      obtain ⟨k3, c3, i3⟩ := hp
      obtain ⟨r1, r2, r3, r4⟩ := close none Y k3
      refine ⟨_, _, r1, .inl ⟨rfl, ?_, fun b hb => ((capPut Y _ b hb).trans (c3 b hb)).trans (capX b hb)⟩⟩
      rw [hJ]
      exact ⟨hI.putObj _ i3 (by omega) r2 rfl, r3, r4⟩
    | ret =>
      obtain ⟨k3, i3⟩ := hp
      obtain ⟨r1, r2, r3, r4⟩ := close (some .ret) Y k3
      refine ⟨_, _, r1, .inr ⟨rfl, ?_⟩⟩
      rw [hJx]
      exact ⟨hIx.putObj _ i3 (by omega) r2 rfl, r3, r4⟩
    | exit id => exact hp.elim
    | goto t => exact hp.elim
    | panic ch => exact hp.elim
    | outgrown => exact hp.elim
  · -- behind the iterator
    rintro e Y ⟨⟨v, rfl⟩, (⟨xs, hS, hj⟩ | ⟨pre, hSp, hj⟩)⟩
    · rw [hJ] at hj
      obtain ⟨hi, hl, hk⟩ := hj
      exact ⟨none, _, by have := run_endLoop (P := P) hl (by rw [hrec]; simp); rw [hrec] at this; exact this, hdone _ xs _ (by omega) hS (hI.putObj _ hi (by omega) hl rfl) ((World.putObj_heap_other (by omega)).trans hk)⟩
    · rw [hJx] at hj
      obtain ⟨hi, hl, hk⟩ := hj
      exact ⟨some .ret, _, by have := run_endLoop (P := P) hl (by rw [hrec]; simp); rw [hrec] at this; exact this, hstop _ pre _ (by omega) hSp (hIx.putObj _ hi (by omega) hl rfl) ((World.putObj_heap_other (by omega)).trans hk)⟩
end Go.Proofs.YtcppphjdgpkhcaaGreatDoor

