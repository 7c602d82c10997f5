/- Programs as trees: how a text is read, the text of a program, how many programs and loops it has; no program of Go in it. -/
import Derived.Test.YtgkgkaapjljpcaaDoorCutS
namespace Go.Proofs.YtgkgkaapjljpcaaDoor

set_option maxRecDepth 100000
/-- A program: an atom, a loop, or two programs with a sign between them. -/
inductive Node where
  | atom (a : List UInt8)
  | loop (p : Node)
  | pair (k : UInt8) (p q : Node)

/-- The atoms of two bytes. -/
def twos : List (List UInt8) := [[120, 48], [120, 49], [120, 50], [120, 121], [120, 43], [120, 63], [121, 48], [121, 49], [121, 50], [121, 120], [121, 43], [121, 63]]

/-- The program that a text begins with, and what lies behind it (n: a bound on the text's length). -/
def rd : Nat → List UInt8 → Option (Node × List UInt8)
  | 0, _ => none
  | _ + 1, [] => none
  | n + 1, c :: r =>
    if c = 46 ∨ c = 33 then some (.atom [c], r)
    else if c = 120 ∨ c = 121 then
      match r with
      | d :: r' => if [c, d] ∈ twos then some (.atom [c, d], r') else none
      | [] => none
    else if c = 91 then
      match r with
      | a :: b :: d :: e :: r' => if e = 93 ∧ [a, b, d] ∈ tests then some (.atom [91, a, b, d, 93], r') else none
      | _ => none
    else if c = 123 then
      match rd n r with
      | some (p, e :: r') => if e = 125 then some (.loop p, r') else none
      | _ => none
    else if c = 40 then
      match rd n r with
      | some (p, s :: r') =>
        if s = 59 ∨ s = 124 then
          match rd n r' with
          | some (q, e :: r'') => if e = 41 then some (.pair s p q, r'') else none
          | _ => none
        else none
      | _ => none
    else none

def Node.text : Node → List UInt8
  | .atom a => a
  | .loop p => 123 :: (p.text ++ [125])
  | .pair k p q => 40 :: (p.text ++ k :: (q.text ++ [41]))
def Node.size : Node → Nat
  | .atom _ => 1
  | .loop p => 1 + p.size
  | .pair _ p q => 1 + p.size + q.size
def Node.loops : Node → Nat
  | .atom _ => 0
  | .loop p => p.loops + 1
  | .pair _ p q => max p.loops q.loops
/-- Made as a program is. -/
def Node.ok : Node → Prop
  | .atom a => a = [46] ∨ a = [33] ∨ a ∈ twos ∨ ∃ t, t ∈ tests ∧ a = 91 :: (t ++ [93])
  | .loop p => p.ok
  | .pair k p q => (k = 59 ∨ k = 124) ∧ p.ok ∧ q.ok

theorem twos_heads : (twos.all fun a => match a with | [c, _] => c == 120 || c == 121 | _ => false) = true := by decide
theorem twos_shape {a : List UInt8} (h : a ∈ twos) : ∃ c d, a = [c, d] ∧ (c = 120 ∨ c = 121) := by
  have := List.all_eq_true.1 twos_heads a h
  match a, this with
  | [c, d], h => exact ⟨c, d, rfl, by simpa using h⟩
theorem tests_three : (tests.all fun a => a.length == 3) = true := by decide
theorem test_three {t : List UInt8} (h : t ∈ tests) : ∃ a b c, t = [a, b, c] := by
  have := List.all_eq_true.1 tests_three t h
  match t, this with
  | [a, b, c], _ => exact ⟨a, b, c, rfl⟩

/-- What has been read is a program's text, and what lies behind it. -/
theorem rd_text : ∀ (n : Nat) (l : List UInt8) (nd : Node) (r : List UInt8), rd n l = some (nd, r) → l = nd.text ++ r ∧ nd.ok
  | 0, _, _, _, h => by simp [rd] at h
  | _ + 1, [], _, _, h => by simp [rd] at h
  | n + 1, c :: l, nd, r, h => by
    unfold rd at h
    split at h
    · rename_i hc
      simp only [Option.some.injEq, Prod.mk.injEq] at h
      obtain ⟨rfl, rfl⟩ := h
      rcases hc with rfl | rfl
      · exact ⟨rfl, .inl rfl⟩
      · exact ⟨rfl, .inr (.inl rfl)⟩
    · split at h
      · cases l with
        | nil => simp at h
        | cons d l' =>
          dsimp only at h
          split at h
          · rename_i ht
            simp only [Option.some.injEq, Prod.mk.injEq] at h
            obtain ⟨rfl, rfl⟩ := h
            exact ⟨rfl, .inr (.inr (.inl ht))⟩
          · cases h
      · split at h
        · rename_i hc
          subst hc
          match l, h with
          | a :: b :: d :: e :: l', h =>
            dsimp only at h
            split at h
            · rename_i ht
              obtain ⟨rfl, ht⟩ := ht
              simp only [Option.some.injEq, Prod.mk.injEq] at h
              obtain ⟨rfl, rfl⟩ := h
              exact ⟨rfl, .inr (.inr (.inr ⟨_, ht, rfl⟩))⟩
            · cases h
          | [], h => simp at h
          | [_], h => simp at h
          | [_, _], h => simp at h
          | [_, _, _], h => simp at h
        · split at h
          · rename_i hc
            subst hc
            cases hp : rd n l with
            | none => rw [hp] at h; simp at h
            | some x =>
              obtain ⟨p, l1⟩ := x
              rw [hp] at h
              cases l1 with
              | nil => simp at h
              | cons e l' =>
                dsimp only at h
                split at h
                · rename_i he
                  subst he
                  simp only [Option.some.injEq, Prod.mk.injEq] at h
                  obtain ⟨rfl, rfl⟩ := h
                  obtain ⟨h1, h2⟩ := rd_text n l p _ hp
                  exact ⟨by rw [h1]; simp [Node.text], h2⟩
                · cases h
          · split at h
            · rename_i hc
              subst hc
              cases hp : rd n l with
              | none => rw [hp] at h; simp at h
              | some x =>
                obtain ⟨p, l1⟩ := x
                rw [hp] at h
                cases l1 with
                | nil => simp at h
                | cons s l' =>
                  dsimp only at h
                  split at h
                  · rename_i hs
                    cases hq : rd n l' with
                    | none => rw [hq] at h; simp at h
                    | some y =>
                      obtain ⟨q, l2⟩ := y
                      rw [hq] at h
                      cases l2 with
                      | nil => simp at h
                      | cons e l'' =>
                        dsimp only at h
                        split at h
                        · rename_i he
                          subst he
                          simp only [Option.some.injEq, Prod.mk.injEq] at h
                          obtain ⟨rfl, rfl⟩ := h
                          obtain ⟨h1, h2⟩ := rd_text n l p _ hp
                          obtain ⟨h3, h4⟩ := rd_text n l' q _ hq
                          exact ⟨by rw [h1, h3]; simp [Node.text], hs, h2, h4⟩
                        · cases h
                  · cases h
            · cases h

theorem text_pos : ∀ (nd : Node), nd.ok → 0 < nd.text.length
  | .atom a, h => by
    rcases h with rfl | rfl | h | ⟨t, _, rfl⟩
    · simp [Node.text]
    · simp [Node.text]
    · obtain ⟨c, d, rfl, _⟩ := twos_shape h; simp [Node.text]
    · simp [Node.text]
  | .loop p, _ => by simp [Node.text]
  | .pair k p q, _ => by simp [Node.text]

/-- A program's text is read as that program, whatever lies behind it. -/
theorem rd_ok : ∀ (nd : Node), nd.ok → ∀ (n : Nat) (r : List UInt8), nd.text.length ≤ n → rd n (nd.text ++ r) = some (nd, r)
  | .atom a, h, n, r, hn => by
    rcases h with rfl | rfl | h | ⟨t, ht, rfl⟩
    · cases n with
      | zero => simp [Node.text] at hn
      | succ n => simp [Node.text, rd]
    · cases n with
      | zero => simp [Node.text] at hn
      | succ n => simp [Node.text, rd]
    · obtain ⟨c, d, rfl, hc⟩ := twos_shape h
      cases n with
      | zero => simp [Node.text] at hn
      | succ n =>
        have h1 : ¬ (c = 46 ∨ c = 33) := by rcases hc with rfl | rfl <;> decide
        show rd (n + 1) (c :: d :: r) = _
        rw [rd, if_neg h1, if_pos hc]
        simp [h]
    · obtain ⟨a, b, c, rfl⟩ := test_three ht
      cases n with
      | zero => simp [Node.text] at hn
      | succ n =>
        show rd (n + 1) (91 :: a :: b :: c :: 93 :: r) = _
        rw [rd, if_neg (by decide), if_neg (by decide), if_pos rfl]
        simp [ht]
  | .loop p, h, n, r, hn => by
    cases n with
    | zero => simp [Node.text] at hn
    | succ n =>
      have hl : p.text.length ≤ n := by simp [Node.text] at hn; omega
      have e : (Node.loop p).text ++ r = 123 :: (p.text ++ 125 :: r) := by simp [Node.text]
      rw [e, rd.eq_def]
      dsimp only
      rw [if_neg (by decide), if_neg (by decide), if_neg (by decide), if_pos rfl, rd_ok p h n _ hl]
      simp
  | .pair k p q, h, n, r, hn => by
    obtain ⟨hk, hp, hq⟩ := h
    cases n with
    | zero => simp [Node.text] at hn
    | succ n =>
      have hl : p.text.length ≤ n ∧ q.text.length ≤ n := by simp [Node.text] at hn; omega
      have e : (Node.pair k p q).text ++ r = 40 :: (p.text ++ k :: (q.text ++ 41 :: r)) := by simp [Node.text]
      rw [e, rd.eq_def]
      dsimp only
      rw [if_neg (by decide), if_neg (by decide), if_neg (by decide), if_neg (by decide), if_pos rfl, rd_ok p hp n _ hl.1]
      dsimp only
      rw [if_pos hk, rd_ok q hq n _ hl.2]
      simp

/-- What a text is read as, as a whole. -/
def readP (l : List UInt8) : Option Node :=
  match rd l.length l with
  | some (nd, []) => if l.length ≤ 60 ∧ nd.loops ≤ 6 then some nd else none
  | _ => none
theorem readP_iff {l : List UInt8} {nd : Node} : readP l = some nd ↔ nd.ok ∧ l = nd.text ∧ l.length ≤ 60 ∧ nd.loops ≤ 6 := by
  constructor
  · intro h
    unfold readP at h
    split at h
    · rename_i x hx
      split at h
      · rename_i hc
        cases h
        obtain ⟨h1, h2⟩ := rd_text _ _ _ _ hx
        exact ⟨h2, by simpa using h1, hc⟩
      · cases h
    · cases h
  · rintro ⟨h1, rfl, h2⟩
    unfold readP
    have := rd_ok nd h1 nd.text.length [] (Nat.le_refl _)
    rw [List.append_nil] at this
    rw [this]
    dsimp only
    rw [if_pos h2]

/-- Is a text a program. -/
def isP (l : List UInt8) : Bool := (readP l).isSome
def kindP (l : List UInt8) : List UInt8 := match readP l with
  | some (.atom a) => a
  | some (.loop _) => [123]
  | some (.pair k _ _) => [k]
  | none => []
def partsP (l : List UInt8) : List (List UInt8) := match readP l with
  | some (.loop p) => [p.text]
  | some (.pair _ p q) => [p.text, q.text]
  | _ => []
def sizeP (l : List UInt8) : Int := match readP l with
  | some nd => nd.size
  | none => -1
def loopsP (l : List UInt8) : Int := match readP l with
  | some nd => nd.loops
  | none => -1
end Go.Proofs.YtgkgkaapjljpcaaDoor

