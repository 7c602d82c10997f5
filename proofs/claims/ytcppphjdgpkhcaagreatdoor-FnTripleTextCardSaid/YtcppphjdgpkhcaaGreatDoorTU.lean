/- The four words of a triple's text: plain facts. -/
import Derived.Test.YtcppphjdgpkhcaaGreatDoorTO
import Derived.Test.YtcppphjdgpkhcaaGreatDoorTD
namespace Go.Proofs.YtcppphjdgpkhcaaGreatDoor
open Go.ChangeShapes Go.WideShapes Go.ChangeAt Go.RowKit Go.Shelf
set_option maxRecDepth 100000

theorem text_back5 {t : List UInt8} {n : Nat} (h : parseL t = some n) : setL (n : Int) = t := by
  by_cases h0 : t = [45]
  · subst h0
    have : n = 0 := by
      unfold parseL at h
      rw [if_pos rfl] at h
      exact (Option.some.inj h).symm
    subst this
    exact setL_zero
  · cases ha : allW (cutC t) with
    | none => unfold parseL at h; rw [if_neg h0, ha] at h; cases h
    | some xs =>
      rw [parse_model h0 ha] at h
      split at h
      · rename_i he
        cases h
        exact he
      · cases h
theorem ok_back5 {t : List UInt8} (h : parseOk t = true) : setL (parseN t) = t ∧ isSet (parseN t) = true := by
  have hb : setL (parseN t) = t := by
    unfold parseOk at h
    obtain ⟨n, hn⟩ := Option.isSome_iff_exists.1 h
    unfold parseN
    rw [hn]
    exact text_back5 hn
  refine ⟨hb, ?_⟩
  cases hs : isSet (parseN t) with
  | true => rfl
  | false =>
    rw [setL_none hs] at hb
    subst hb
    unfold parseOk at h
    rw [parse_empty] at h
    cases h
/-- Words with a space between each two. -/
def glue : List (List UInt8) → List UInt8
  | [] => []
  | [w] => w
  | w :: v :: ws => w ++ 32 :: glue (v :: ws)
theorem glue_cut : ∀ l, glue (cutL l) = l
  | [] => rfl
  | c :: r => by
    have ih := glue_cut r
    unfold cutL
    cases hc : cutL r with
    | nil => exact absurd hc (cutL_ne r)
    | cons w ws =>
      rw [hc] at ih
      split
      · rename_i h
        subst h
        show [] ++ 32 :: glue (w :: ws) = 32 :: r
        rw [ih]
        rfl
      · cases ws with
        | nil => exact congrArg (c :: ·) ih
        | cons v vs => exact congrArg (c :: ·) ih
theorem exit_name {a : ByteArray} (h : exitOk a = true) : nameX (exitV a) = a ∧ (exitV a = 0 ∨ exitV a = 1) := by
  unfold exitOk at h
  unfold exitV
  have key : ∀ n : ByteArray, (n.toList == a.toList) = true → n = a := fun n h => by
    have e : n.toList = a.toList := eq_of_beq h
    rw [Lib.toList_data, Lib.toList_data] at e
    exact ByteArray.ext (Array.toList_inj.1 e)
  by_cases h0 : ((nameX 0).toList == a.toList) = true
  · rw [if_pos h0]
    exact ⟨key _ h0, .inl rfl⟩
  · rw [if_neg h0]
    have h1 : ((nameX 1).toList == a.toList) = true := by simpa [h0] using h
    rw [if_pos h1]
    exact ⟨key _ h1, .inr rfl⟩
theorem inB_two {x : Int} (h : x = 0 ∨ x = 1) : inB x 0 1 = true := inB_yes (by omega)
/-- Four words that are right make a triple. -/
theorem four_yes {t a p e c : ByteArray} (hc : cutL t.data.toList = [a.data.toList, p.data.toList, e.data.toList, c.data.toList]) (h1 : parseOk a.data.toList = true) (h2 : isP p.toList = true) (h3 : exitOk e = true) (h4 : parseOk c.data.toList = true) :
    tryT t = some ⟨parseN a.data.toList, p, exitV e, parseN c.data.toList⟩ := by
  obtain ⟨b1, s1⟩ := ok_back5 h1
  obtain ⟨b4, s4⟩ := ok_back5 h4
  obtain ⟨n3, x3⟩ := exit_name h3
  have hv : validT (parseN a.data.toList) p (exitV e) (parseN c.data.toList) = true := by
    unfold validT
    rw [s1, h2, s4, inB_two x3]
    rfl
  refine try_iff.2 ⟨hv, ?_⟩
  show fmtT _ _ _ _ = t
  rw [fmt_yes hv]
  apply ByteArray.ext
  apply Array.toList_inj.1
  rw [line_list, b1, b4, n3]
  have := glue_cut t.data.toList
  rw [hc] at this
  exact this
/-- What the four words that are cut off say of the text. -/
theorem wordsT {t a1 r1 a2 r2 a3 r3 a4 r4 : ByteArray} {m1 m2 m3 m4 : Bool} (c1 : Cuts t a1 r1 m1) (c2 : Cuts r1 a2 r2 m2) (c3 : Cuts r2 a3 r3 m3) (c4 : Cuts r3 a4 r4 m4) :
    okT t = (parseOk a1.data.toList && isP a2.toList && exitOk a3 && parseOk a4.data.toList && !m4) ∧
    (okT t = true → gotT t = ⟨parseN a1.data.toList, a2, exitV a3, parseN a4.data.toList⟩) := by
  have e0 : parseOk [] = false := by unfold parseOk; rw [parse_empty]; rfl
  obtain ⟨_, _, d1⟩ := c1
  obtain ⟨_, _, d2⟩ := c2
  obtain ⟨_, _, d3⟩ := c3
  obtain ⟨_, _, d4⟩ := c4
  cases hall : (parseOk a1.data.toList && isP a2.toList && exitOk a3 && parseOk a4.data.toList && !m4) with
  | true =>
    simp only [Bool.and_eq_true, Bool.not_eq_true'] at hall
    obtain ⟨⟨⟨⟨h1, h2⟩, h3⟩, h4⟩, rfl⟩ := hall
    have f3 : m3 = true := by
      rcases d3 with ⟨_, _, rfl, _⟩ | ⟨h, _⟩
      · rcases d4 with ⟨_, rfl, _, _⟩ | ⟨h, _⟩
        · rw [show (⟨#[]⟩ : ByteArray).data.toList = [] from rfl, e0] at h4; cases h4
        · cases h
      · exact h
    have f2 : m2 = true := by
      rcases d2 with ⟨_, _, rfl, _⟩ | ⟨h, _⟩
      · rcases d3 with ⟨h, _⟩ | ⟨_, h⟩
        · rw [f3] at h; cases h
        · exfalso
          have := congrArg List.length h
          simp [cutL] at this
          exact cutL_ne _ (by cases hq : cutL r3.data.toList with | nil => exact absurd hq (cutL_ne _) | cons _ _ => simp [hq] at this)
      · exact h
    have f1 : m1 = true := by
      rcases d1 with ⟨_, _, rfl, _⟩ | ⟨h, _⟩
      · rcases d2 with ⟨h, _⟩ | ⟨_, h⟩
        · rw [f2] at h; cases h
        · exfalso
          have := congrArg List.length h
          simp [cutL] at this
          exact cutL_ne _ (by cases hq : cutL r2.data.toList with | nil => exact absurd hq (cutL_ne _) | cons _ _ => simp [hq] at this)
      · exact h
    subst f1 f2 f3
    have g1 : cutL t.data.toList = a1.data.toList :: cutL r1.data.toList := by rcases d1 with ⟨h, _⟩ | ⟨_, h⟩; cases h; exact h
    have g2 : cutL r1.data.toList = a2.data.toList :: cutL r2.data.toList := by rcases d2 with ⟨h, _⟩ | ⟨_, h⟩; cases h; exact h
    have g3 : cutL r2.data.toList = a3.data.toList :: cutL r3.data.toList := by rcases d3 with ⟨h, _⟩ | ⟨_, h⟩; cases h; exact h
    have g4 : cutL r3.data.toList = [a4.data.toList] := by rcases d4 with ⟨_, rfl, _, h⟩ | ⟨h, _⟩; exact h; cases h
    rw [g4] at g3
    rw [g3] at g2
    rw [g2] at g1
    have := four_yes g1 h1 h2 h3 h4
    unfold okT gotT
    rw [this]
    exact ⟨rfl, fun _ => rfl⟩
  | false =>
    have hno : okT t = false := by
      cases ho : okT t with
      | false => rfl
      | true =>
        exfalso
        obtain ⟨hv, hf⟩ := fmt_got ho
        rw [fmt_yes hv] at hf
        have hc := line_cut hv
        rw [hf] at hc
        obtain ⟨v1, v2, v3, v4⟩ := valid_all hv
        rcases d1 with ⟨_, _, _, h⟩ | ⟨rfl, h⟩
        · rw [h] at hc; simp at hc
        rw [h] at hc
        obtain ⟨w1, hc⟩ := List.cons.inj hc
        rcases d2 with ⟨_, _, _, h⟩ | ⟨rfl, h⟩
        · rw [h] at hc; simp at hc
        rw [h] at hc
        obtain ⟨w2, hc⟩ := List.cons.inj hc
        rcases d3 with ⟨_, _, _, h⟩ | ⟨rfl, h⟩
        · rw [h] at hc; simp at hc
        rw [h] at hc
        obtain ⟨w3, hc⟩ := List.cons.inj hc
        have w4 : a4.data.toList = setL (gotT t).r ∧ m4 = false := by
          rcases d4 with ⟨hm, rfl, _, h⟩ | ⟨rfl, h⟩
          · rw [h] at hc
            exact ⟨(List.cons.inj hc).1, hm⟩
          · rw [h] at hc
            exact absurd (List.cons.inj hc).2 (cutL_ne _)
        obtain ⟨w4, rfl⟩ := w4
        have p2 : a2 = (gotT t).p := ByteArray.ext (Array.toList_inj.1 w2)
        have p3 : a3 = nameX (gotT t).x := ByteArray.ext (Array.toList_inj.1 w3)
        have x3 : exitOk (nameX (gotT t).x) = true := by
          rcases v3 with h | h <;> (rw [h]; simp [exitOk])
        rw [w1, w4, p2, p3, (back_set v1).2, (back_set v4).2, v2, x3] at hall
        cases hall
    rw [hno]
    exact ⟨rfl, fun h => by cases h⟩
end Go.Proofs.YtcppphjdgpkhcaaGreatDoor

