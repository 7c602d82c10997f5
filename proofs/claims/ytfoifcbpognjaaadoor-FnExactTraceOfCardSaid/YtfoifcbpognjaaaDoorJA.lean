/- Chapter 10: one run of a program with choices, as mathematics; no program of Go in it. -/
import Derived.Test.YtfoifcbpognjaaaDoorRun
import Derived.Test.YtfoifcbpognjaaaDoorRn
namespace Go.Proofs.YtfoifcbpognjaaaDoor
set_option maxRecDepth 100000

/-- Where a run with choices stands: how many are made, the state, whether it has failed, whether it is stuck, the states behind its atoms. -/
structure R10 where
  pos : Nat
  st : Nat
  err : Bool
  stuck : Bool
  tr : List Int
def R10.ends (r : R10) : Bool := r.stuck || r.err
/-- The choice that is made next, one of some. -/
def took (cs some' : List UInt8) (r : R10) : R10 × UInt8 :=
  match cs[r.pos]? with
  | none => (⟨r.pos, r.st, r.err, true, r.tr⟩, 0)
  | some c => if c ∈ some' then (⟨r.pos + 1, r.st, r.err, r.stuck, r.tr⟩, c) else (⟨r.pos, r.st, r.err, true, r.tr⟩, 0)
/-- The states that an atom reaches from one. -/
def lst10 (a : List UInt8) (s : Nat) : List (Fin 9) := upTo ((atomR a (2 ^ s)).1 : Int) 9
/-- An atom goes on in a state. -/
def R10.goto (r : R10) (s : Nat) : R10 := ⟨r.pos, s, r.err, r.stuck, r.tr ++ [(s : Int)]⟩
def atom10 (cs a : List UInt8) (r : R10) : R10 :=
  if a = [33] then ⟨r.pos, r.st, true, r.stuck, r.tr ++ [(r.st : Int)]⟩
  else match lst10 a r.st with
    | [] => ⟨r.pos, r.st, r.err, true, r.tr⟩
    | s :: ss =>
      if a.drop 1 = [63] then
        if (took cs [48, 49, 50] r).1.stuck then (took cs [48, 49, 50] r).1
        else (took cs [48, 49, 50] r).1.goto (((s :: ss)[(took cs [48, 49, 50] r).2.toNat - 48]?.getD s).val)
      else r.goto s.val
/-- A loop, with fuel: each round takes a choice. -/
def loop10 (body : R10 → R10) (cs : List UInt8) : Nat → R10 → R10
  | 0, r => r
  | f + 1, r => if r.ends then r else if (took cs [101, 109] r).2 = 109 then loop10 body cs f (body (took cs [101, 109] r).1) else (took cs [101, 109] r).1
def go10 (cs : List UInt8) : Node → R10 → R10
  | .atom a, r => if r.ends then r else atom10 cs a r
  | .loop p, r => loop10 (go10 cs p) cs (cs.length + 1 - r.pos) r
  | .pair k p q, r =>
    if r.ends then r
    else if k = 59 then go10 cs q (go10 cs p r)
    else if (took cs [108, 114] r).2 = 108 then go10 cs p (took cs [108, 114] r).1
    else if (took cs [108, 114] r).2 = 114 then go10 cs q (took cs [108, 114] r).1
    else (took cs [108, 114] r).1

/-! ### One choice -/
theorem took_none {cs fr : List UInt8} {r : R10} (h : cs[r.pos]? = none) : took cs fr r = (⟨r.pos, r.st, r.err, true, r.tr⟩, 0) := by unfold took; rw [h]
theorem took_in {cs fr : List UInt8} {r : R10} {c : UInt8} (h : cs[r.pos]? = some c) (hc : c ∈ fr) : took cs fr r = (⟨r.pos + 1, r.st, r.err, r.stuck, r.tr⟩, c) := by unfold took; rw [h]; exact if_pos hc
theorem took_out {cs fr : List UInt8} {r : R10} {c : UInt8} (h : cs[r.pos]? = some c) (hc : c ∉ fr) : took cs fr r = (⟨r.pos, r.st, r.err, true, r.tr⟩, 0) := by unfold took; rw [h]; exact if_neg hc
/-- Either it is stuck from now on, and nothing else has changed, or a choice is made. -/
theorem took_cases (cs fr : List UInt8) (r : R10) : (took cs fr r = (⟨r.pos, r.st, r.err, true, r.tr⟩, 0)) ∨ ∃ c, cs[r.pos]? = some c ∧ c ∈ fr ∧ r.pos < cs.length ∧ took cs fr r = (⟨r.pos + 1, r.st, r.err, r.stuck, r.tr⟩, c) := by
  cases h : cs[r.pos]? with
  | none => exact .inl (took_none h)
  | some c =>
    by_cases hc : c ∈ fr
    · exact .inr ⟨c, rfl, hc, (List.getElem?_eq_some_iff.1 h).1, took_in h hc⟩
    · exact .inl (took_out h hc)
/-- What a part of a run leaves: so many choices made, the trace longer, the state one. -/
structure Went (cs : List UInt8) (n : Nat) (r r' : R10) : Prop where
  pos : r.pos ≤ r'.pos
  le : r.pos ≤ cs.length → r'.pos ≤ cs.length
  st : r.st < 9 → r'.st < 9
  tr : r.tr.length ≤ r'.tr.length
  more : r'.tr.length ≤ r.tr.length + n * (1 + (r'.pos - r.pos))
theorem Went.refl (cs : List UInt8) (n : Nat) (r : R10) : Went cs n r r := ⟨Nat.le_refl _, id, id, Nat.le_refl _, Nat.le_add_right _ _⟩
theorem Went.mono {cs : List UInt8} {n m : Nat} {r r' : R10} (h : Went cs n r r') (hn : n ≤ m) : Went cs m r r' := ⟨h.pos, h.le, h.st, h.tr, Nat.le_trans h.more (Nat.add_le_add_left (Nat.mul_le_mul_right _ hn) _)⟩
theorem went_took (cs fr : List UInt8) (r : R10) : Went cs 0 r (took cs fr r).1 := by
  rcases took_cases cs fr r with h | ⟨c, _, _, hlt, h⟩ <;> rw [h]
  · exact ⟨Nat.le_refl _, id, id, Nat.le_refl _, Nat.le_add_right _ _⟩
  · exact ⟨Nat.le_succ _, fun _ => hlt, id, Nat.le_refl _, Nat.le_add_right _ _⟩
theorem went_goto (cs : List UInt8) (r : R10) {s : Nat} (hs : s < 9) : Went cs 1 r (r.goto s) := ⟨Nat.le_refl _, id, fun _ => hs, by simp [R10.goto], by simp [R10.goto]⟩
/-- Both one after the other. -/
theorem Went.trans {cs : List UInt8} {n m : Nat} {a b c : R10} (h : Went cs n a b) (k : Went cs m b c) : Went cs (n + m) a c := by
  refine ⟨Nat.le_trans h.pos k.pos, fun hl => k.le (h.le hl), fun hs => k.st (h.st hs), Nat.le_trans h.tr k.tr, ?_⟩
  have h1 := h.more
  have h2 := k.more
  have p1 := h.pos
  have p2 := k.pos
  have e1 : n * (1 + (b.pos - a.pos)) ≤ n * (1 + (c.pos - a.pos)) := Nat.mul_le_mul_left _ (by omega)
  have e2 : m * (1 + (c.pos - b.pos)) ≤ m * (1 + (c.pos - a.pos)) := Nat.mul_le_mul_left _ (by omega)
  rw [Nat.add_mul]
  omega
theorem went_atom (cs a : List UInt8) (r : R10) : Went cs 1 r (atom10 cs a r) := by
  unfold atom10
  split
  · exact ⟨Nat.le_refl _, id, id, by simp, by simp⟩
  · split
    · exact ⟨Nat.le_refl _, id, id, Nat.le_refl _, Nat.le_add_right _ _⟩
    · rename_i s ss _
      split
      · split
        · exact (went_took cs _ r).mono (by omega)
        · exact (went_took cs _ r).trans (went_goto cs _ (Fin.isLt _))
      · exact went_goto cs r s.isLt
/-- A loop: each round a choice ahead. -/
theorem went_loop {cs : List UInt8} {n : Nat} {body : R10 → R10} (hb : ∀ r, Went cs n r (body r)) : ∀ f r, (loop10 body cs f r).tr.length ≤ r.tr.length + n * ((loop10 body cs f r).pos - r.pos) ∧ r.pos ≤ (loop10 body cs f r).pos ∧ (r.pos ≤ cs.length → (loop10 body cs f r).pos ≤ cs.length) ∧ (r.st < 9 → (loop10 body cs f r).st < 9) ∧ r.tr.length ≤ (loop10 body cs f r).tr.length
  | 0, r => ⟨Nat.le_add_right _ _, Nat.le_refl _, id, id, Nat.le_refl _⟩
  | f + 1, r => by
    unfold loop10
    split
    · exact ⟨Nat.le_add_right _ _, Nat.le_refl _, id, id, Nat.le_refl _⟩
    · rcases took_cases cs [101, 109] r with h | ⟨c, _, _, hlt, h⟩
      · rw [h]
        exact ⟨Nat.le_add_right _ _, Nat.le_refl _, id, id, Nat.le_refl _⟩
      · rw [h]
        split
        · have h0 := hb ⟨r.pos + 1, r.st, r.err, r.stuck, r.tr⟩
          obtain ⟨i1, i2, i3, i4, i5⟩ := went_loop hb f (body ⟨r.pos + 1, r.st, r.err, r.stuck, r.tr⟩)
          have m1 := h0.more
          have p1 := h0.pos
          have t1 := h0.tr
          have l1 := h0.le
          have s1 := h0.st
          simp only at m1 p1 t1 l1 s1 ⊢
          generalize body ⟨r.pos + 1, r.st, r.err, r.stuck, r.tr⟩ = b at *
          generalize loop10 body cs f b = z at *
          refine ⟨?_, by omega, fun _ => i3 (l1 hlt), fun hs => i4 (s1 hs), by omega⟩
          have e : n * (1 + (b.pos - (r.pos + 1))) + n * (z.pos - b.pos) = n * (z.pos - r.pos) := by
            rw [← Nat.mul_add]
            congr 1
            omega
          omega
        · exact ⟨Nat.le_add_right _ _, Nat.le_succ _, fun _ => hlt, id, Nat.le_refl _⟩
theorem went_go (cs : List UInt8) : ∀ (nd : Node) (r : R10), Went cs nd.size r (go10 cs nd r)
  | .atom a, r => by
    unfold go10
    split
    · exact Went.refl _ _ _
    · exact went_atom cs a r
  | .loop p, r => by
    obtain ⟨h1, h2, h3, h4, h5⟩ := went_loop (went_go cs p) (cs.length + 1 - r.pos) r
    unfold go10
    refine ⟨h2, h3, h4, h5, Nat.le_trans h1 (Nat.add_le_add_left ?_ _)⟩
    show p.size * _ ≤ (1 + p.size) * _
    exact Nat.mul_le_mul (by omega) (by omega)
  | .pair k p q, r => by
    have e : (Node.pair k p q).size = 1 + p.size + q.size := rfl
    unfold go10
    split
    · exact Went.refl _ _ _
    · split
      · exact ((went_go cs p r).trans (went_go cs q _)).mono (by omega)
      · split
        · exact ((went_took cs _ r).trans (went_go cs p _)).mono (by omega)
        · split
          · exact ((went_took cs _ r).trans (went_go cs q _)).mono (by omega)
          · exact (went_took cs _ r).mono (by omega)

/-! ### A loop's fuel -/
theorem loop10_step {cs : List UInt8} {body : R10 → R10} {f : Nat} {r : R10} (he : r.ends = false) : loop10 body cs (f + 1) r = if (took cs [101, 109] r).2 = 109 then loop10 body cs f (body (took cs [101, 109] r).1) else (took cs [101, 109] r).1 := by
  rw [loop10, if_neg (by simp [he])]
theorem loop10_end {cs : List UInt8} {body : R10 → R10} {r : R10} (he : r.ends = true) : ∀ f, loop10 body cs f r = r
  | 0 => rfl
  | f + 1 => by rw [loop10, if_pos he]
/-- Enough fuel is enough. -/
theorem loop10_fuel {cs : List UInt8} {n : Nat} {body : R10 → R10} (hb : ∀ r, Went cs n r (body r)) : ∀ (f g : Nat) (r : R10), r.pos ≤ cs.length → cs.length + 1 ≤ f + r.pos → cs.length + 1 ≤ g + r.pos → loop10 body cs f r = loop10 body cs g r
  | 0, _, r, h, h1, _ => by omega
  | _ + 1, 0, r, h, _, h2 => by omega
  | f + 1, g + 1, r, h, h1, h2 => by
    cases he : r.ends with
    | true => rw [loop10_end he, loop10_end he]
    | false =>
      rw [loop10_step he, loop10_step he]
      rcases took_cases cs [101, 109] r with e | ⟨c, _, _, hlt, e⟩
      · rw [e]; rfl
      · rw [e]
        have hw := hb ⟨r.pos + 1, r.st, r.err, r.stuck, r.tr⟩
        have hp := hw.pos
        simp only at hp ⊢
        split
        · exact loop10_fuel hb f g _ (hw.le hlt) (by omega) (by omega)
        · rfl
/-- One round of a loop, as the program goes through it. -/
theorem go10_loop {cs : List UInt8} {p : Node} {r : R10} (hl : r.pos ≤ cs.length) (he : r.ends = false) : go10 cs (.loop p) r = if (took cs [101, 109] r).2 = 109 then go10 cs (.loop p) (go10 cs p (took cs [101, 109] r).1) else (took cs [101, 109] r).1 := by
  rw [go10, show cs.length + 1 - r.pos = (cs.length - r.pos) + 1 by omega, loop10_step he]
  split
  · rcases took_cases cs [101, 109] r with e | ⟨c, _, _, hlt, e⟩
    · rename_i h9
      rw [e] at h9
      cases h9
    · rw [e]
      have hw := went_go cs p ⟨r.pos + 1, r.st, r.err, r.stuck, r.tr⟩
      have hp := hw.pos
      simp only at hp ⊢
      rw [go10]
      exact loop10_fuel (went_go cs p) _ _ _ (hw.le hlt) (by omega) (by omega)
  · rfl
theorem go10_loop_end {cs : List UInt8} {p : Node} {r : R10} (he : r.ends = true) : go10 cs (.loop p) r = r := by rw [go10, loop10_end he]
end Go.Proofs.YtfoifcbpognjaaaDoor

