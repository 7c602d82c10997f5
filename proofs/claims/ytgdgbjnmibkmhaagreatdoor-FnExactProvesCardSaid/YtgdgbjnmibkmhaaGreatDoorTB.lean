/- Plain facts of texts of sets: where a text is cut, which words are states, when the text of what was read is the text itself. -/
import Derived.Test.YtgdgbjnmibkmhaaGreatDoorTA
namespace Go.Proofs.YtgdgbjnmibkmhaaGreatDoor
open Go.ChangeShapes Go.WideShapes Go.ChangeAt Go.RowKit Go.Shelf

set_option maxRecDepth 100000
/-- A text cut at every comma. -/
def cutC : List UInt8 → List (List UInt8)
  | [] => [[]]
  | c :: r => if c = 44 then [] :: cutC r else match cutC r with
    | [] => [[c]]
    | w :: ws => (c :: w) :: ws
theorem cutC_ne : ∀ l, cutC l ≠ []
  | [] => by simp [cutC]
  | c :: r => by
    unfold cutC
    split
    · simp
    · split <;> simp
theorem cutC_at : ∀ (a b : List UInt8), (44 : UInt8) ∉ a → cutC (a ++ 44 :: b) = a :: cutC b
  | [], b, _ => by simp [cutC]
  | c :: a, b, h => by
    have h1 : ¬ c = 44 := fun e => h (by simp [e])
    have h2 : (44 : UInt8) ∉ a := fun e => h (by simp [e])
    have e : cutC (c :: (a ++ 44 :: b)) = if c = 44 then [] :: cutC (a ++ 44 :: b) else match cutC (a ++ 44 :: b) with
        | [] => [[c]]
        | w :: ws => (c :: w) :: ws := rfl
    rw [List.cons_append, e, if_neg h1, cutC_at a b h2]
theorem cutC_none : ∀ (a : List UInt8), (44 : UInt8) ∉ a → cutC a = [a]
  | [], _ => rfl
  | c :: a, h => by
    have h1 : ¬ c = 44 := fun e => h (by simp [e])
    have h2 : (44 : UInt8) ∉ a := fun e => h (by simp [e])
    unfold cutC
    rw [if_neg h1, cutC_none a h2]
theorem joinTail_cons (w : List UInt8) (ws : List (List UInt8)) : Lib.joinTail [44] (w :: ws) = 44 :: w ++ Lib.joinTail [44] ws := by simp [Lib.joinTail]
theorem cutC_join : ∀ l, Lib.join (cutC l) [44] = l
  | [] => by simp [cutC, Lib.join_one]
  | c :: r => by
    have ih := cutC_join r
    unfold cutC
    split
    · rename_i h
      subst h
      cases hc : cutC r with
      | nil => exact absurd hc (cutC_ne r)
      | cons w ws =>
        rw [hc, Lib.join_cons] at ih
        rw [Lib.join_cons, joinTail_cons, ← ih]
        simp
    · cases hc : cutC r with
      | nil => exact absurd hc (cutC_ne r)
      | cons w ws =>
        rw [hc, Lib.join_cons] at ih
        simp only [Lib.join_cons]
        rw [← ih]
        rfl

/-- The state that a word says. -/
def wordOf : List UInt8 → Option (Fin 9)
  | [a, b] => if h : (48 ≤ a.toNat ∧ a.toNat ≤ 50) ∧ (48 ≤ b.toNat ∧ b.toNat ≤ 50) then some ⟨3 * (a.toNat - 48) + (b.toNat - 48), by omega⟩ else none
  | _ => none
theorem two_wordOf {w : List UInt8} {x : Fin 9} (h : wordOf w = some x) : w = two x := by
  match w, h with
  | [a, b], h =>
    by_cases hh : (48 ≤ a.toNat ∧ a.toNat ≤ 50) ∧ (48 ≤ b.toNat ∧ b.toNat ≤ 50)
    · have e : wordOf [a, b] = some ⟨3 * (a.toNat - 48) + (b.toNat - 48), by omega⟩ := dif_pos hh
      rw [e] at h
      obtain ⟨⟨a0, a1⟩, b0, b1⟩ := hh
      have hx : x.val = 3 * (a.toNat - 48) + (b.toNat - 48) := by
        have := Option.some.inj h
        rw [← this]
      unfold two
      have e1 : 48 + x.val / 3 = a.toNat := by omega
      have e2 : 48 + x.val % 3 = b.toNat := by omega
      rw [e1, e2]
      simp
    · have e : wordOf [a, b] = none := dif_neg hh
      rw [e] at h
      cases h
theorem wordOf_two : ∀ x : Fin 9, wordOf (two x) = some x := by decide
theorem two_nocomma : ∀ x : Fin 9, (44 : UInt8) ∉ two x := by decide

/-- The states that all words say. -/
def allW : List (List UInt8) → Option (List (Fin 9))
  | [] => some []
  | w :: ws => match wordOf w, allW ws with
    | some x, some xs => some (x :: xs)
    | _, _ => none
theorem allW_two : ∀ {ws : List (List UInt8)} {xs : List (Fin 9)}, allW ws = some xs → ws = xs.map two
  | [], xs, h => by simp [allW] at h; subst h; rfl
  | w :: ws, xs, h => by
    unfold allW at h
    split at h
    · rename_i x ys h1 h2
      simp at h
      subst h
      rw [two_wordOf h1, allW_two h2]
      rfl
    · cases h
theorem allW_map : ∀ xs : List (Fin 9), allW (xs.map two) = some xs
  | [] => rfl
  | x :: xs => by rw [List.map_cons, allW, wordOf_two, allW_map xs]
theorem allW_snoc {ws : List (List UInt8)} {xs : List (Fin 9)} (h : allW ws = some xs) {w : List UInt8} {x : Fin 9} (hw : wordOf w = some x) : allW (ws ++ [w]) = some (xs ++ [x]) := by
  rw [allW_two h, two_wordOf hw]
  have := allW_map (xs ++ [x])
  rwa [List.map_append] at this
theorem allW_bad {ws : List (List UInt8)} {w : List UInt8} (hw : wordOf w = none) : ∀ pre : List (List UInt8), pre ++ [w] <+: ws → allW ws = none
  | pre, ⟨r, hr⟩ => by
    subst hr
    induction pre with
    | nil => simp [allW, hw]
    | cons v vs ih =>
      simp only [List.cons_append, List.append_assoc] at ih ⊢
      unfold allW
      rw [ih]
      split <;> simp_all
theorem allW_prefix : ∀ {a b : List (List UInt8)} {xs : List (Fin 9)}, allW (a ++ b) = some xs → ∃ ys zs, allW a = some ys ∧ xs = ys ++ zs
  | [], b, xs, _ => ⟨[], xs, rfl, rfl⟩
  | w :: a, b, xs, h => by
    rw [List.cons_append] at h
    unfold allW at h
    split at h
    · rename_i x ys h1 h2
      simp at h
      subst h
      obtain ⟨us, zs, hu, e⟩ := allW_prefix h2
      exact ⟨x :: us, zs, by unfold allW; rw [h1, hu], by rw [e]; rfl⟩
    · cases h

/-- Strictly ascending. -/
def asc : List (Fin 9) → Bool
  | [] => true
  | [_] => true
  | x :: y :: r => decide (x.val < y.val) && asc (y :: r)
theorem asc_tail {x : Fin 9} {r : List (Fin 9)} (h : asc (x :: r) = true) : asc r = true := by
  cases r with
  | nil => rfl
  | cons y r => simp [asc] at h; exact h.2
theorem asc_lt : ∀ {x : Fin 9} {r : List (Fin 9)}, asc (x :: r) = true → ∀ y ∈ r, x.val < y.val
  | x, [], _, y, hy => by simp at hy
  | x, z :: r, h, y, hy => by
    simp [asc] at h
    rcases List.mem_cons.1 hy with rfl | hy
    · exact h.1
    · have := asc_lt h.2 y hy
      omega
theorem asc_left : ∀ {a b : List (Fin 9)}, asc (a ++ b) = true → asc a = true
  | [], _, _ => rfl
  | [x], _, _ => rfl
  | x :: y :: a, b, h => by
    simp [asc] at h ⊢
    exact ⟨h.1, asc_left (a := y :: a) (b := b) (by simpa using h.2)⟩
/-- One more than the last state; 0 if there is none. -/
def next (l : List (Fin 9)) : Nat := match l.getLast? with | none => 0 | some x => x.val + 1
theorem next_snoc (l : List (Fin 9)) (x : Fin 9) : next (l ++ [x]) = x.val + 1 := by simp [next]
theorem asc_snoc : ∀ (l : List (Fin 9)) (x : Fin 9), asc (l ++ [x]) = (asc l && decide (next l ≤ x.val))
  | [], x => by simp [asc, next]
  | [y], x => by
    simp only [List.cons_append, List.nil_append, asc, next, List.getLast?_singleton, Bool.and_true, Bool.true_and]
    congr 1
  | y :: z :: l, x => by
    have ih := asc_snoc (z :: l) x
    have hn : next (y :: z :: l) = next (z :: l) := by simp [next, List.getLast?_cons_cons]
    simp only [List.cons_append] at ih ⊢
    simp only [asc, ih, hn, Bool.and_assoc]
theorem asc_eq : ∀ {a b : List (Fin 9)}, asc a = true → asc b = true → (∀ x, x ∈ a ↔ x ∈ b) → a = b
  | [], [], _, _, _ => rfl
  | [], y :: b, _, _, h => by have := (h y).2 (by simp); simp at this
  | x :: a, [], _, _, h => by have := (h x).1 (by simp); simp at this
  | x :: a, y :: b, ha, hb, h => by
    have la := asc_lt ha
    have lb := asc_lt hb
    have hxy : x = y := by
      have h1 := (h x).1 (by simp)
      have h2 := (h y).2 (by simp)
      rcases List.mem_cons.1 h1 with e | h1
      · exact e
      · rcases List.mem_cons.1 h2 with e | h2
        · exact e.symm
        · have := lb x h1; have := la y h2; omega
    subst hxy
    rw [asc_eq (asc_tail ha) (asc_tail hb) (fun z => ?_)]
    constructor
    · intro hz
      rcases List.mem_cons.1 ((h z).1 (by simp [hz])) with e | h'
      · subst e; have := la z hz; omega
      · exact h'
    · intro hz
      rcases List.mem_cons.1 ((h z).2 (by simp [hz])) with e | h'
      · subst e; have := lb z hz; omega
      · exact h'

/-- The set with these states. -/
def orL (xs : List (Fin 9)) : Nat := xs.foldl (fun n x => n ||| 2 ^ x.val) 0
theorem orL_snoc (xs : List (Fin 9)) (x : Fin 9) : orL (xs ++ [x]) = orL xs ||| 2 ^ x.val := by simp [orL]
theorem orL_lt (xs : List (Fin 9)) : orL xs < 512 := by
  unfold orL
  suffices ∀ (n : Nat), n < 2 ^ 9 → xs.foldl (fun n x => n ||| 2 ^ x.val) n < 2 ^ 9 by exact this 0 (by omega)
  induction xs with
  | nil => intro n h; exact h
  | cons x xs ih =>
    intro n h
    rw [List.foldl_cons]
    exact ih _ (Nat.or_lt_two_pow h (Nat.pow_lt_pow_right (by omega) x.2))
theorem orL_bit (xs : List (Fin 9)) (i : Fin 9) : (orL xs).testBit i.val = decide (i ∈ xs) := by
  unfold orL
  suffices ∀ (n : Nat), (xs.foldl (fun n x => n ||| 2 ^ x.val) n).testBit i.val = (n.testBit i.val || decide (i ∈ xs)) by simpa using this 0
  induction xs with
  | nil => intro n; simp
  | cons x xs ih =>
    intro n
    rw [List.foldl_cons, ih, Nat.testBit_or, Nat.testBit_two_pow]
    have : decide (x.val = i.val) = decide (i = x) := by
      rw [decide_eq_decide]; constructor
      · intro h; exact Fin.ext h.symm
      · intro h; rw [h]
    rw [this]
    simp [List.mem_cons, Bool.or_assoc]
theorem hasB_bitT : ∀ (n : Fin 512) (i : Fin 9), hasB (n.val : Int) i.val = n.val.testBit i.val := by decide +kernel
theorem mem_upTo (s : Int) : ∀ (k : Nat) (x : Fin 9), x ∈ upTo s k ↔ (x.val < k ∧ hasB s x.val = true)
  | 0, x => by simp [upTo]
  | k + 1, x => by
    unfold upTo
    split
    · rename_i h
      rw [List.mem_append, mem_upTo s k x]
      simp only [List.mem_singleton]
      constructor
      · rintro (⟨a, b⟩ | e)
        · exact ⟨by omega, b⟩
        · subst e; exact ⟨by simp, h.2⟩
      · rintro ⟨a, b⟩
        by_cases e : x.val = k
        · exact .inr (Fin.ext e)
        · exact .inl ⟨by omega, b⟩
    · rename_i h
      rw [mem_upTo s k x]
      constructor
      · rintro ⟨a, b⟩; exact ⟨by omega, b⟩
      · rintro ⟨a, b⟩
        refine ⟨?_, b⟩
        by_cases e : x.val = k
        · exact absurd ⟨by have := x.2; omega, by rw [← e]; exact b⟩ h
        · omega
theorem asc_all : ∀ n : Fin 512, asc (upTo (n.val : Int) 9) = true := by decide +kernel
theorem upTo_or {xs : List (Fin 9)} (h : asc xs = true) : upTo (orL xs : Int) 9 = xs := by
  have hlt := orL_lt xs
  refine asc_eq (asc_all ⟨orL xs, hlt⟩) h (fun x => ?_)
  rw [mem_upTo, hasB_bitT ⟨orL xs, hlt⟩ x, orL_bit]
  have := x.2
  simp
theorem fmtL_inj {a b : List (Fin 9)} (ha : a ≠ []) (hb : b ≠ []) (h : fmtL a = fmtL b) : a = b := by
  have cut : ∀ l : List (Fin 9), l ≠ [] → cutC (fmtL l) = l.map two := by
    intro l
    induction l with
    | nil => intro h; exact absurd rfl h
    | cons x r ih =>
      intro _
      cases r with
      | nil => rw [fmtL_one]; exact cutC_none _ (two_nocomma x)
      | cons y r =>
        have e : fmtL (x :: y :: r) = two x ++ 44 :: fmtL (y :: r) := by
          unfold fmtL
          rw [List.map_cons, Lib.join_cons, List.map_cons, joinTail_cons, Lib.join_cons]
          simp
        rw [e, cutC_at _ _ (two_nocomma x), ih (by simp)]
        rfl
  have h1 := congrArg cutC h
  rw [cut a ha, cut b hb] at h1
  have h2 := congrArg allW h1
  rw [allW_map, allW_map] at h2
  exact Option.some.inj h2

/-- The set that a text says. -/
def parseL (t : List UInt8) : Option Nat := if t = [45] then some 0 else match allW (cutC t) with
  | none => none
  | some xs => if asc xs = true then some (orL xs) else none
/-- What the model answers: all words are states, and the text of their set is the text. -/
theorem parse_model {t : List UInt8} (h0 : t ≠ [45]) {xs : List (Fin 9)} (h : allW (cutC t) = some xs) :
    parseL t = if setL (orL xs : Int) = t then some (orL xs) else none := by
  unfold parseL
  rw [if_neg h0, h]
  have hne : xs ≠ [] := by
    rintro rfl
    exact cutC_ne t (allW_two h)
  have ht : t = fmtL xs := by
    have := cutC_join t
    rw [allW_two h] at this
    exact this.symm
  have hlt := orL_lt xs
  have hset : isSet (orL xs : Int) = true := decide_eq_true (by omega)
  have hmem : upTo (orL xs : Int) 9 ≠ [] := by
    cases xs with
    | nil => exact absurd rfl hne
    | cons x r =>
      intro e
      have : x ∈ upTo (orL (x :: r) : Int) 9 := (mem_upTo _ 9 x).2 ⟨x.2, by rw [hasB_bitT ⟨orL (x :: r), hlt⟩ x, orL_bit]; simp⟩
      rw [e] at this
      simp at this
  have hs : setL (orL xs : Int) = fmtL (upTo (orL xs : Int) 9) := by unfold setL; rw [if_pos hset, if_neg hmem]
  rw [hs]
  show (if asc xs = true then some (orL xs) else none) = _
  by_cases ha : asc xs = true
  · rw [if_pos ha, if_pos (by rw [upTo_or ha]; exact ht.symm)]
  · rw [if_neg ha, if_neg]
    intro e
    rw [ht] at e
    have := fmtL_inj hmem hne e
    rw [← this] at ha
    exact ha (asc_all ⟨orL xs, hlt⟩)
end Go.Proofs.YtgdgbjnmibkmhaaGreatDoor

