/- Chapter 11, plain: the rules that make a program simpler; what is made of a program by them, how often a rule is used, and in how many calls (Sim); that this ends, and what is left (Plain). -/
import Derived.Test.YtgkgkaapjljpcaaDoorTree
namespace Go.Proofs.YtgkgkaapjljpcaaDoor
set_option maxRecDepth 100000

/-- The atom of one byte. -/
def isA (nd : Node) (c : UInt8) : Bool := match nd with
  | .atom a => a == [c]
  | _ => false
def testN (nd : Node) : Bool := match nd with
  | .atom (c :: _) => c == 91
  | _ => false
/-- An assignment that the one behind it makes useless. -/
def overN (a b : Node) : Bool := match a, b with
  | .atom x, .atom y => decide (x ∈ twos) && (decide (y ∈ twos) && (x.headD 0 == y.headD 0 && y.getD 1 0 != 43))
  | _, _ => false
def leanN (a b : Node) : Option Node := match a with
  | .pair k p q => if k = 59 then some (.pair 59 p (.pair 59 q b)) else none
  | _ => none
def topSeq (a b : Node) : Option Node :=
  if isA a 46 = true then some b
  else if isA b 46 = true then some a
  else if isA a 33 = true then some a
  else if testN a = true ∧ a.text = b.text then some a
  else if overN a b = true then some b
  else leanN a b
def topLoop (p : Node) : Option Node :=
  if isA p 46 = true ∨ testN p = true then some (.atom [46]) else match p with
    | .loop q => some (.loop q)
    | _ => none
/-- What a program becomes by the first rule that fits it. -/
def topN : Node → Option Node
  | .atom _ => none
  | .loop p => topLoop p
  | .pair k a b => if k = 59 then topSeq a b else if a.text = b.text then some a else none

/-- A program, what is made of it, how often a rule is used, how many programs are gone through. -/
inductive Sim : Node → Node → Nat → Nat → Prop
  | atom (a : List UInt8) : Sim (.atom a) (.atom a) 0 1
  | loopStop {p p' : Node} {k c : Nat} : Sim p p' k c → topN (.loop p') = none → Sim (.loop p) (.loop p') k (c + 1)
  | loopGo {p p' n o : Node} {k c k2 c2 : Nat} : Sim p p' k c → topN (.loop p') = some n → Sim n o k2 c2 → Sim (.loop p) o (k + 1 + k2) (c + c2 + 1)
  | pairStop {s : UInt8} {p p' q q' : Node} {k1 c1 k2 c2 : Nat} : Sim p p' k1 c1 → Sim q q' k2 c2 → topN (.pair s p' q') = none → Sim (.pair s p q) (.pair s p' q') (k1 + k2) (c1 + c2 + 1)
  | pairGo {s : UInt8} {p p' q q' n o : Node} {k1 c1 k2 c2 k3 c3 : Nat} : Sim p p' k1 c1 → Sim q q' k2 c2 → topN (.pair s p' q') = some n → Sim n o k3 c3 → Sim (.pair s p q) o (k1 + k2 + 1 + k3) (c1 + c2 + c3 + 1)

theorem sim_det {nd o : Node} {k c : Nat} (h : Sim nd o k c) : ∀ {o2 : Node} {k2 c2 : Nat}, Sim nd o2 k2 c2 → o2 = o ∧ k2 = k ∧ c2 = c := by
  induction h with
  | atom a => intro o2 k2 c2 h2; cases h2; exact ⟨rfl, rfl, rfl⟩
  | loopStop h ht ih =>
    intro o2 k2 c2 h2
    cases h2 with
    | loopStop g gt => obtain ⟨rfl, rfl, rfl⟩ := ih g; exact ⟨rfl, rfl, rfl⟩
    | loopGo g gt _ => obtain ⟨rfl, rfl, rfl⟩ := ih g; rw [ht] at gt; cases gt
  | loopGo h ht hn ih ihn =>
    intro o2 k2 c2 h2
    cases h2 with
    | loopStop g gt => obtain ⟨rfl, rfl, rfl⟩ := ih g; rw [ht] at gt; cases gt
    | loopGo g gt gn =>
      obtain ⟨rfl, rfl, rfl⟩ := ih g
      rw [ht] at gt; cases gt
      obtain ⟨rfl, rfl, rfl⟩ := ihn gn
      exact ⟨rfl, rfl, rfl⟩
  | pairStop h1 h2 ht ih1 ih2 =>
    intro o2 k2 c2 h3
    cases h3 with
    | pairStop g1 g2 gt => obtain ⟨rfl, rfl, rfl⟩ := ih1 g1; obtain ⟨rfl, rfl, rfl⟩ := ih2 g2; exact ⟨rfl, rfl, rfl⟩
    | pairGo g1 g2 gt _ => obtain ⟨rfl, rfl, rfl⟩ := ih1 g1; obtain ⟨rfl, rfl, rfl⟩ := ih2 g2; rw [ht] at gt; cases gt
  | pairGo h1 h2 ht hn ih1 ih2 ihn =>
    intro o2 k2 c2 h3
    cases h3 with
    | pairStop g1 g2 gt => obtain ⟨rfl, rfl, rfl⟩ := ih1 g1; obtain ⟨rfl, rfl, rfl⟩ := ih2 g2; rw [ht] at gt; cases gt
    | pairGo g1 g2 gt gn =>
      obtain ⟨rfl, rfl, rfl⟩ := ih1 g1; obtain ⟨rfl, rfl, rfl⟩ := ih2 g2
      rw [ht] at gt; cases gt
      obtain ⟨rfl, rfl, rfl⟩ := ihn gn
      exact ⟨rfl, rfl, rfl⟩

theorem sim_le {nd o : Node} {k c : Nat} (h : Sim nd o k c) : k + 1 ≤ c := by
  induction h <;> omega

/-! ### What is plain -/
def Plain : Node → Prop
  | .atom _ => True
  | .loop p => topN (.loop p) = none ∧ Plain p
  | .pair s p q => topN (.pair s p q) = none ∧ Plain p ∧ Plain q
theorem sim_plain : ∀ nd : Node, Plain nd → Sim nd nd 0 nd.size
  | .atom a, _ => .atom a
  | .loop p, h => by
    have := Sim.loopStop (sim_plain p h.2) h.1
    rw [Nat.add_comm] at this
    exact this
  | .pair s p q, h => by
    have := Sim.pairStop (sim_plain p h.2.1) (sim_plain q h.2.2) h.1
    have e : p.size + q.size + 1 = (Node.pair s p q).size := by simp only [Node.size]; omega
    rw [e] at this
    exact this
theorem sizeN_pos : ∀ nd : Node, 1 ≤ nd.size
  | .atom _ => Nat.le_refl _
  | .loop p => by simp only [Node.size]; omega
  | .pair _ p q => by simp only [Node.size]; omega

theorem lean_some {a b n : Node} (h : leanN a b = some n) : ∃ p q, a = .pair 59 p q ∧ n = .pair 59 p (.pair 59 q b) := by
  unfold leanN at h
  split at h
  · split at h
    · rename_i k p q hk
      subst hk
      exact ⟨p, q, rfl, (Option.some.inj h).symm⟩
    · cases h
  · cases h
theorem top_seq {a b n : Node} (h : topN (.pair 59 a b) = some n) : n = a ∨ n = b ∨ ∃ p q, a = .pair 59 p q ∧ n = .pair 59 p (.pair 59 q b) := by
  have h' : topSeq a b = some n := h
  unfold topSeq at h'
  split at h'
  · exact .inr (.inl (Option.some.inj h').symm)
  · split at h'
    · exact .inl (Option.some.inj h').symm
    · split at h'
      · exact .inl (Option.some.inj h').symm
      · split at h'
        · exact .inl (Option.some.inj h').symm
        · split at h'
          · exact .inr (.inl (Option.some.inj h').symm)
          · exact .inr (.inr (lean_some h'))
theorem top_lean (p q b : Node) : topN (.pair 59 (.pair 59 p q) b) ≠ none := by
  show topSeq (.pair 59 p q) b ≠ none
  unfold topSeq
  split
  · simp
  · split
    · simp
    · split
      · simp
      · split
        · simp
        · split
          · simp
          · show leanN (.pair 59 p q) b ≠ none
            simp [leanN]
theorem top_choice {s : UInt8} (hs : ¬ s = 59) {a b n : Node} (h : topN (.pair s a b) = some n) : n = a ∧ a.text = b.text := by
  have h : (if s = 59 then topSeq a b else if a.text = b.text then some a else none) = some n := h
  rw [if_neg hs] at h
  split at h
  · rename_i e; exact ⟨(Option.some.inj h).symm, e⟩
  · cases h
theorem top_loop {p n : Node} (h : topN (.loop p) = some n) : n = .atom [46] ∨ (n = p ∧ ∃ q, p = .loop q) := by
  have h' : topLoop p = some n := h
  unfold topLoop at h'
  split at h'
  · exact .inl (Option.some.inj h').symm
  · split at h'
    · rename_i q _
      exact .inr ⟨(Option.some.inj h').symm, q, rfl⟩
    · cases h'

/-- A sequence of two plain programs. -/
theorem seq_plain : ∀ a : Node, Plain a → ∀ (b : Node), Plain b → ∀ M : Nat, 3 * (a.size + b.size + 1) ≤ M →
    ∃ o k c, Sim (.pair 59 a b) o k c ∧ Plain o ∧ o.size ≤ a.size + b.size + 1 ∧ c ≤ (a.size + 1) * M := by
  intro a
  induction a with
  | atom x =>
    intro ha b hb M hM
    have e : (Node.atom x).size = 1 := rfl
    cases ht : topN (.pair 59 (.atom x) b) with
    | none => exact ⟨_, _, _, .pairStop (sim_plain _ ha) (sim_plain _ hb) ht, ⟨ht, ha, hb⟩, by simp only [Node.size]; omega, by rw [e] at hM ⊢; omega⟩
    | some n =>
      rcases top_seq ht with rfl | rfl | ⟨p, q, h, _⟩
      · exact ⟨_, _, _, .pairGo (sim_plain _ ha) (sim_plain _ hb) ht (sim_plain _ ha), ha, by omega, by rw [e] at hM ⊢; omega⟩
      · exact ⟨_, _, _, .pairGo (sim_plain _ ha) (sim_plain _ hb) ht (sim_plain _ hb), hb, by omega, by rw [e] at hM ⊢; omega⟩
      · cases h
  | loop x _ =>
    intro ha b hb M hM
    have e : 2 * M ≤ ((Node.loop x).size + 1) * M := Nat.mul_le_mul_right M (by have := sizeN_pos (.loop x); omega)
    cases ht : topN (.pair 59 (.loop x) b) with
    | none => exact ⟨_, _, _, .pairStop (sim_plain _ ha) (sim_plain _ hb) ht, ⟨ht, ha, hb⟩, by simp only [Node.size]; omega, by omega⟩
    | some n =>
      rcases top_seq ht with rfl | rfl | ⟨p, q, h, _⟩
      · exact ⟨_, _, _, .pairGo (sim_plain _ ha) (sim_plain _ hb) ht (sim_plain _ ha), ha, by omega, by omega⟩
      · exact ⟨_, _, _, .pairGo (sim_plain _ ha) (sim_plain _ hb) ht (sim_plain _ hb), hb, by omega, by omega⟩
      · cases h
  | pair s p q _ ihq =>
    intro ha b hb M hM
    have e : 2 * M ≤ ((Node.pair s p q).size + 1) * M := Nat.mul_le_mul_right M (by have := sizeN_pos (.pair s p q); omega)
    cases ht : topN (.pair 59 (.pair s p q) b) with
    | none => exact ⟨_, _, _, .pairStop (sim_plain _ ha) (sim_plain _ hb) ht, ⟨ht, ha, hb⟩, by simp only [Node.size]; omega, by omega⟩
    | some n =>
      rcases top_seq ht with rfl | rfl | ⟨p', q', h, rfl⟩
      · exact ⟨_, _, _, .pairGo (sim_plain _ ha) (sim_plain _ hb) ht (sim_plain _ ha), ha, by omega, by omega⟩
      · exact ⟨_, _, _, .pairGo (sim_plain _ ha) (sim_plain _ hb) ht (sim_plain _ hb), hb, by omega, by omega⟩
      · cases h
        have hsz : (Node.pair 59 p q).size = 1 + p.size + q.size := rfl
        obtain ⟨x, k1, c1, h1, hx, hxs, hc1⟩ := ihq ha.2.2 b hb M (by rw [hsz] at hM; omega)
        have hp := ha.2.1
        have hpos := sizeN_pos p
        have hm : (q.size + 1) * M + 2 * M ≤ ((Node.pair 59 p q).size + 1) * M := by
          rw [hsz, ← Nat.add_mul]
          exact Nat.mul_le_mul_right M (by omega)
        rw [hsz] at hM
        cases ht2 : topN (.pair 59 p x) with
        | none =>
          exact ⟨_, _, _, .pairGo (sim_plain _ ha) (sim_plain _ hb) ht (.pairStop (sim_plain _ hp) h1 ht2), ⟨ht2, hp, hx⟩, by simp only [Node.size]; omega, by rw [hsz] at hm ⊢; omega⟩
        | some n2 =>
          rcases top_seq ht2 with rfl | rfl | ⟨p2, q2, rfl, _⟩
          · exact ⟨_, _, _, .pairGo (sim_plain _ ha) (sim_plain _ hb) ht (.pairGo (sim_plain _ hp) h1 ht2 (sim_plain _ hp)), hp, by rw [hsz]; omega, by rw [hsz] at hm ⊢; omega⟩
          · exact ⟨_, _, _, .pairGo (sim_plain _ ha) (sim_plain _ hb) ht (.pairGo (sim_plain _ hp) h1 ht2 (sim_plain _ hx)), hx, by rw [hsz]; omega, by rw [hsz] at hm ⊢; omega⟩
          · exact absurd ha.1 (top_lean p2 q2 q)

/-- What is made of the parts first, and of the plain whole then, is made of the whole. -/
theorem sim_pair {s : UInt8} {p q p' q' o : Node} {k1 c1 k2 c2 k c : Nat} (h1 : Sim p p' k1 c1) (h2 : Sim q q' k2 c2) (hp : Plain p') (hq : Plain q') (h : Sim (.pair s p' q') o k c) :
    ∃ k' c', Sim (.pair s p q) o k' c' ∧ c' ≤ c1 + c2 + c := by
  cases h with
  | pairStop g1 g2 gt =>
    obtain ⟨rfl, rfl, rfl⟩ := sim_det (sim_plain _ hp) g1
    obtain ⟨rfl, rfl, rfl⟩ := sim_det (sim_plain _ hq) g2
    exact ⟨_, _, .pairStop h1 h2 gt, by omega⟩
  | pairGo g1 g2 gt gn =>
    obtain ⟨rfl, rfl, rfl⟩ := sim_det (sim_plain _ hp) g1
    obtain ⟨rfl, rfl, rfl⟩ := sim_det (sim_plain _ hq) g2
    exact ⟨_, _, .pairGo h1 h2 gt gn, by omega⟩
theorem sim_some : ∀ nd : Node, nd.size ≤ 60 → ∃ o k c, Sim nd o k c ∧ Plain o ∧ o.size ≤ nd.size ∧ c ≤ nd.size * 20000
  | .atom a, _ => ⟨_, _, _, .atom a, trivial, Nat.le_refl _, by simp [Node.size]⟩
  | .loop p, h => by
    have hs : (Node.loop p).size = 1 + p.size := rfl
    obtain ⟨p', k, c, h1, hp, hps, hc⟩ := sim_some p (by omega)
    cases ht : topN (.loop p') with
    | none => exact ⟨_, _, _, .loopStop h1 ht, ⟨ht, hp⟩, by simp only [Node.size]; omega, by omega⟩
    | some n =>
      rcases top_loop ht with rfl | ⟨rfl, q, hq⟩
      · exact ⟨_, _, _, .loopGo h1 ht (.atom _), trivial, by simp only [Node.size]; omega, by omega⟩
      · exact ⟨_, _, _, .loopGo h1 ht (sim_plain _ hp), hp, by omega, by omega⟩
  | .pair s p q, h => by
    have hs : (Node.pair s p q).size = 1 + p.size + q.size := rfl
    obtain ⟨p', k1, c1, h1, hp, hps, hc1⟩ := sim_some p (by omega)
    obtain ⟨q', k2, c2, h2, hq, hqs, hc2⟩ := sim_some q (by omega)
    by_cases h59 : s = 59
    · subst h59
      obtain ⟨o, k, c, h3, ho, hos, hc⟩ := seq_plain p' hp q' hq 200 (by omega)
      obtain ⟨k', c', h4, hc'⟩ := sim_pair h1 h2 hp hq h3
      exact ⟨o, k', c', h4, ho, by omega, by omega⟩
    · cases ht : topN (.pair s p' q') with
      | none => exact ⟨_, _, _, .pairStop h1 h2 ht, ⟨ht, hp, hq⟩, by simp only [Node.size]; omega, by omega⟩
      | some n =>
        obtain ⟨rfl, _⟩ := top_choice h59 ht
        exact ⟨_, _, _, .pairGo h1 h2 ht (sim_plain _ hp), hp, by omega, by omega⟩

/-! ### What is kept -/
theorem top_ok {nd n : Node} (h : topN nd = some n) (hok : nd.ok) : n.ok := by
  match nd, h, hok with
  | .loop p, h, hok =>
    rcases top_loop h with rfl | ⟨rfl, _⟩
    · exact .inl rfl
    · exact hok
  | .pair s a b, h, hok =>
    by_cases h59 : s = 59
    · subst h59
      rcases top_seq h with rfl | rfl | ⟨p, q, rfl, rfl⟩
      · exact hok.2.1
      · exact hok.2.2
      · exact ⟨.inl rfl, hok.2.1.2.1, .inl rfl, hok.2.1.2.2, hok.2.2⟩
    · obtain ⟨rfl, _⟩ := top_choice h59 h
      exact hok.2.1
theorem top_len {nd n : Node} (h : topN nd = some n) : n.text.length ≤ nd.text.length := by
  match nd, h with
  | .loop p, h =>
    rcases top_loop h with rfl | ⟨rfl, _⟩
    · simp [Node.text]
    · simp [Node.text]; omega
  | .pair s a b, h =>
    by_cases h59 : s = 59
    · subst h59
      rcases top_seq h with rfl | rfl | ⟨p, q, rfl, rfl⟩
      · simp [Node.text]; omega
      · simp [Node.text]; omega
      · simp [Node.text]; omega
    · obtain ⟨rfl, _⟩ := top_choice h59 h
      simp [Node.text]; omega
theorem top_loops {nd n : Node} (h : topN nd = some n) : n.loops ≤ nd.loops := by
  match nd, h with
  | .loop p, h =>
    rcases top_loop h with rfl | ⟨rfl, _⟩
    · simp [Node.loops]
    · simp [Node.loops]
  | .pair s a b, h =>
    by_cases h59 : s = 59
    · subst h59
      rcases top_seq h with rfl | rfl | ⟨p, q, rfl, rfl⟩
      · simp only [Node.loops]; omega
      · simp only [Node.loops]; omega
      · simp only [Node.loops]; omega
    · obtain ⟨rfl, _⟩ := top_choice h59 h
      simp only [Node.loops]; omega
/-- What is made of a program is one, is no longer, and has no more loops within each other. -/
theorem sim_keeps {nd o : Node} {k c : Nat} (h : Sim nd o k c) : nd.ok → o.ok ∧ o.text.length ≤ nd.text.length ∧ o.loops ≤ nd.loops := by
  induction h with
  | atom a => exact fun h => ⟨h, Nat.le_refl _, Nat.le_refl _⟩
  | loopStop h ht ih =>
    intro hok
    obtain ⟨h1, h2, h3⟩ := ih hok
    exact ⟨h1, by simp [Node.text]; omega, by simp only [Node.loops]; omega⟩
  | @loopGo p p' n o k c k2 c2 h ht hn ih ihn =>
    intro hok
    obtain ⟨h1, h2, h3⟩ := ih hok
    have hok' : (Node.loop p').ok := h1
    obtain ⟨g1, g2, g3⟩ := ihn (top_ok ht hok')
    have g4 := top_len ht
    have g5 := top_loops ht
    refine ⟨g1, ?_, ?_⟩
    · simp [Node.text] at g4 ⊢; omega
    · simp only [Node.loops] at g5 ⊢; omega
  | pairStop h1 h2 ht ih1 ih2 =>
    intro hok
    obtain ⟨a1, a2, a3⟩ := ih1 hok.2.1
    obtain ⟨b1, b2, b3⟩ := ih2 hok.2.2
    exact ⟨⟨hok.1, a1, b1⟩, by simp [Node.text]; omega, by simp only [Node.loops]; omega⟩
  | @pairGo s p p' q q' n o k1 c1 k2 c2 k3 c3 h1 h2 ht hn ih1 ih2 ihn =>
    intro hok
    obtain ⟨a1, a2, a3⟩ := ih1 hok.2.1
    obtain ⟨b1, b2, b3⟩ := ih2 hok.2.2
    have hok' : (Node.pair s p' q').ok := ⟨hok.1, a1, b1⟩
    obtain ⟨g1, g2, g3⟩ := ihn (top_ok ht hok')
    have g4 := top_len ht
    have g5 := top_loops ht
    refine ⟨g1, ?_, ?_⟩
    · simp [Node.text] at g4 ⊢; omega
    · simp only [Node.loops] at g5 ⊢; omega
theorem sim_zero {nd o : Node} {k c : Nat} (h : Sim nd o k c) : k = 0 → o = nd := by
  induction h with
  | atom a => exact fun _ => rfl
  | loopStop h ht ih => intro hk; rw [ih hk]
  | loopGo h ht hn ih ihn => intro hk; omega
  | pairStop h1 h2 ht ih1 ih2 => intro hk; rw [ih1 (by omega), ih2 (by omega)]
  | pairGo h1 h2 ht hn ih1 ih2 ihn => intro hk; omega

/-- A program is told by its text. -/
theorem text_inj {a b : Node} (ha : a.ok) (hb : b.ok) (h : a.text = b.text) : a = b := by
  have h1 := rd_ok a ha (a.text.length) [] (Nat.le_refl _)
  have h2 := rd_ok b hb (a.text.length) [] (by rw [h]; exact Nat.le_refl _)
  rw [h] at h1 h2
  rw [h1] at h2
  simpa using h2
end Go.Proofs.YtgkgkaapjljpcaaDoor

