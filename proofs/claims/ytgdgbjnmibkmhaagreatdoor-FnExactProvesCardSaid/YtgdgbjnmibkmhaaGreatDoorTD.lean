/- Triples and their texts: plain facts, no program of Go in it. -/
import Derived.Test.YtgdgbjnmibkmhaaGreatDoorTC
import Derived.Test.YtgdgbjnmibkmhaaGreatDoorR5
namespace Go.Proofs.YtgdgbjnmibkmhaaGreatDoor
open Go.ChangeShapes Go.WideShapes Go.ChangeAt Go.RowKit Go.Shelf
set_option maxRecDepth 100000

theorem back_all : ∀ n : Fin 512, parseL (setL (n.val : Int)) = some n.val := by decide +kernel
theorem parse_empty : parseL [] = none := by decide
theorem back_set {s : Int} (h : isSet s = true) : parseN (setL s) = s ∧ parseOk (setL s) = true := by
  have hb := of_decide_eq_true h
  obtain ⟨n, rfl⟩ : ∃ n : Nat, s = (n : Int) := ⟨s.toNat, by omega⟩
  have := back_all ⟨n, by omega⟩
  unfold parseN parseOk
  rw [this]
  exact ⟨rfl, rfl⟩

/-! ### No blank in the parts -/
theorem set_blank_all : ∀ n : Fin 512, (32 : UInt8) ∉ setL (n.val : Int) := by decide +kernel
theorem set_blank (s : Int) : (32 : UInt8) ∉ setL s := by
  cases h : isSet s with
  | false => rw [setL_none h]; simp
  | true =>
    have hb := of_decide_eq_true h
    obtain ⟨n, rfl⟩ : ∃ n : Nat, s = (n : Int) := ⟨s.toNat, by omega⟩
    exact set_blank_all ⟨n, by omega⟩
theorem twos_blank : ∀ a ∈ twos, (32 : UInt8) ∉ a := by decide
theorem tests_blank : ∀ a ∈ tests, (32 : UInt8) ∉ a := by decide
theorem text_blank : ∀ nd : Node, nd.ok → (32 : UInt8) ∉ nd.text
  | .atom a, h => by
    rcases h with rfl | rfl | h | ⟨t, ht, rfl⟩
    · decide
    · decide
    · exact twos_blank a h
    · have := tests_blank t ht
      simp [Node.text, this]
  | .loop p, h => by
    have := text_blank p h
    simp [Node.text, this]
  | .pair k p q, ⟨hk, hp, hq⟩ => by
    have h1 := text_blank p hp
    have h2 := text_blank q hq
    rcases hk with rfl | rfl <;> simp [Node.text, h1, h2]
theorem prog_blank {p : List UInt8} (h : isP p = true) : (32 : UInt8) ∉ p := by
  unfold isP at h
  cases hp : readP p with
  | none => rw [hp] at h; cases h
  | some nd =>
    obtain ⟨hok, ht, _⟩ := readP_iff.1 hp
    rw [ht]
    exact text_blank nd hok
theorem isP_len {p : List UInt8} (h : isP p = true) : p.length ≤ 60 := by
  unfold isP at h
  cases hp : readP p with
  | none => rw [hp] at h; cases h
  | some nd => exact (readP_iff.1 hp).2.2.1
theorem exit_two {x : Int} (h : inB x 0 1 = true) : x = 0 ∨ x = 1 := by
  have := of_decide_eq_true h
  omega
theorem name_blank (x : Int) : (32 : UInt8) ∉ (nameX x).data.toList := by
  unfold nameX
  split
  · decide
  · split
    · decide
    · decide

/-! ### Triples -/
structure Trip where
  b : Int
  p : ByteArray
  x : Int
  r : Int
def zeroT : Trip := ⟨0, ⟨#[]⟩, 0, 0⟩
/-- Whether a triple is one. -/
def validT (b : Int) (p : ByteArray) (x r : Int) : Bool := isSet b && isP p.toList && inB x 0 1 && isSet r
def lineT (b : Int) (p : ByteArray) (x r : Int) : ByteArray := ⟨(setL b).toArray⟩ ++ ⟨#[32]⟩ ++ p ++ ⟨#[32]⟩ ++ nameX x ++ ⟨#[32]⟩ ++ ⟨(setL r).toArray⟩
/-- Its text. -/
def fmtT (b : Int) (p : ByteArray) (x r : Int) : ByteArray := if validT b p x r = true then lineT b p x r else ⟨#[]⟩
theorem fmt_yes {b : Int} {p : ByteArray} {x r : Int} (h : validT b p x r = true) : fmtT b p x r = lineT b p x r := if_pos h
theorem fmt_no {b : Int} {p : ByteArray} {x r : Int} (h : validT b p x r = false) : fmtT b p x r = ⟨#[]⟩ := if_neg (by simp [h])
theorem valid_all {b : Int} {p : ByteArray} {x r : Int} (h : validT b p x r = true) : isSet b = true ∧ isP p.toList = true ∧ (x = 0 ∨ x = 1) ∧ isSet r = true := by
  unfold validT at h
  simp only [Bool.and_eq_true] at h
  exact ⟨h.1.1.1, h.1.1.2, exit_two h.1.2, h.2⟩
theorem line_list (b : Int) (p : ByteArray) (x r : Int) : (lineT b p x r).data.toList = setL b ++ 32 :: (p.data.toList ++ 32 :: ((nameX x).data.toList ++ 32 :: setL r)) := by
  unfold lineT
  simp [ByteArray.data_append]
theorem line_cut {b : Int} {p : ByteArray} {x r : Int} (h : validT b p x r = true) : cutL (lineT b p x r).data.toList = [setL b, p.data.toList, (nameX x).data.toList, setL r] := by
  obtain ⟨_, hp, _, _⟩ := valid_all h
  rw [Lib.toList_data] at hp
  rw [line_list, cutL_at _ _ (set_blank b), cutL_at _ _ (prog_blank hp), cutL_at _ _ (name_blank x), cutL_none _ (set_blank r)]
theorem line_size {b : Int} {p : ByteArray} {x r : Int} (h : validT b p x r = true) : 1 ≤ (lineT b p x r).size ∧ (lineT b p x r).size ≤ 122 := by
  obtain ⟨_, hp, hx, _⟩ := valid_all h
  rw [Lib.toList_data] at hp
  have h1 := isP_len hp
  have h2 := setL_len b
  have h3 := setL_len r
  have h4 : (nameX x).data.toList.length ≤ 5 := by rcases hx with rfl | rfl <;> decide
  have h5 := congrArg List.length (line_list b p x r)
  simp only [List.length_append, List.length_cons, Array.length_toList] at h5
  have h6 : (lineT b p x r).size = (lineT b p x r).data.size := rfl
  simp only [Array.length_toList] at h1 h4
  omega

/-- The exit that a word says, as the model has it. -/
def exitW (e : List UInt8) : Int := if e = [101, 114, 114, 111, 114] then 1 else 0
theorem exitW_name {x : Int} (h : x = 0 ∨ x = 1) : exitW (nameX x).data.toList = x := by
  rcases h with rfl | rfl <;> decide
/-- The triple that a text says. -/
def fourT (t : ByteArray) (a p e c : List UInt8) : Option Trip :=
  if parseOk a = true ∧ parseOk c = true ∧ fmtT (parseN a) ⟨p.toArray⟩ (exitW e) (parseN c) = t then some ⟨parseN a, ⟨p.toArray⟩, exitW e, parseN c⟩ else none
def tryT (t : ByteArray) : Option Trip := match cutL t.data.toList with
  | [a, p, e, c] => fourT t a p e c
  | _ => none
def gotT (t : ByteArray) : Trip := (tryT t).getD zeroT
def okT (t : ByteArray) : Bool := (tryT t).isSome
theorem try_four {t : ByteArray} {a p e c : List UInt8} (h : cutL t.data.toList = [a, p, e, c]) : tryT t = fourT t a p e c := by
  unfold tryT; rw [h]
theorem try_not {t : ByteArray} (h : (cutL t.data.toList).length ≠ 4) : tryT t = none := by
  unfold tryT
  split
  · rename_i hc; rw [hc] at h; simp at h
  · rfl
theorem try_empty : tryT ⟨#[]⟩ = none := by decide
theorem try_iff {t : ByteArray} {T : Trip} : tryT t = some T ↔ validT T.b T.p T.x T.r = true ∧ fmtT T.b T.p T.x T.r = t := by
  constructor
  · intro h
    unfold tryT at h
    split at h
    · rename_i a p e c hc
      unfold fourT at h
      split at h
      · rename_i hh
        obtain ⟨h1, h2, h3⟩ := hh
        cases h
        refine ⟨?_, h3⟩
        cases hv : validT (parseN a) ⟨p.toArray⟩ (exitW e) (parseN c) with
        | true => rfl
        | false =>
          rw [fmt_no hv] at h3
          subst h3
          simp [cutL] at hc
      · cases h
    · cases h
  · rintro ⟨hv, rfl⟩
    rw [fmt_yes hv, try_four (line_cut hv)]
    obtain ⟨h1, h2, h3, h4⟩ := valid_all hv
    unfold fourT
    rw [(back_set h1).1, (back_set h1).2, (back_set h4).1, (back_set h4).2, exitW_name h3]
    have e : (⟨T.p.data.toList.toArray⟩ : ByteArray) = T.p := rfl
    rw [e, if_pos ⟨rfl, rfl, fmt_yes hv⟩]
theorem got_line {b : Int} {p : ByteArray} {x r : Int} (h : validT b p x r = true) : gotT (fmtT b p x r) = ⟨b, p, x, r⟩ ∧ okT (fmtT b p x r) = true := by
  have := (try_iff (t := fmtT b p x r) (T := ⟨b, p, x, r⟩)).2 ⟨h, rfl⟩
  unfold gotT okT
  rw [this]
  exact ⟨rfl, rfl⟩
theorem got_none {t : ByteArray} (h : okT t = false) : gotT t = zeroT := by
  unfold okT at h
  unfold gotT
  cases hh : tryT t with
  | none => rfl
  | some T => rw [hh] at h; cases h
theorem ok_fmt {b : Int} {p : ByteArray} {x r : Int} : okT (fmtT b p x r) = validT b p x r := by
  cases h : validT b p x r with
  | true => exact (got_line h).2
  | false => rw [fmt_no h]; unfold okT; rw [try_empty]; rfl
theorem fmt_got {t : ByteArray} (h : okT t = true) : validT (gotT t).b (gotT t).p (gotT t).x (gotT t).r = true ∧ fmtT (gotT t).b (gotT t).p (gotT t).x (gotT t).r = t := by
  unfold okT at h
  cases hh : tryT t with
  | none => rw [hh] at h; cases h
  | some T =>
    have := try_iff.1 hh
    unfold gotT
    rw [hh]
    exact this
theorem pieces_len : ∀ (l : List UInt8) (p : List UInt8), p ∈ cutL l → p.length ≤ l.length
  | [], p, h => by simp [cutL] at h; subst h; simp
  | c :: r, p, h => by
    have ih := pieces_len r
    unfold cutL at h
    split at h
    · rcases List.mem_cons.1 h with rfl | h
      · simp
      · have := ih p h; simp; omega
    · split at h
      · simp at h; subst h; simp
      · rename_i w ws hc
        rcases List.mem_cons.1 h with rfl | h
        · have := ih w (by rw [hc]; simp); simp; omega
        · have := ih p (by rw [hc]; simp [h]); simp; omega

/-! ### Sure and always -/
def sureT (b : Int) (p : ByteArray) (x r : Int) : Bool := validT b p x r && (bits .andNot .i64 r (reachN p b x) == 0)
def alwaysT (b : Int) (p : ByteArray) (x r : Int) : Bool := validT b p x r && (bits .andNot .i64 (reachN p b x) r == 0)
def missT (b : Int) (p : ByteArray) (x r : Int) : Int := if validT b p x r = true then bits .andNot .i64 r (reachN p b x) else 0
def surpT (b : Int) (p : ByteArray) (x r : Int) : Int := if validT b p x r = true then bits .andNot .i64 (reachN p b x) r else 0
def mostT (b : Int) (p : ByteArray) (x : Int) : Trip := if reachB p b x = true then ⟨b, p, x, reachN p b x⟩ else zeroT
def refT (b : Int) (p : ByteArray) (x r : Int) (b' : Int) (p' : ByteArray) (x' r' : Int) : Bool :=
  sureT b p x r && validT b' p' x' r' && (p == p') && (x == x') && (bits .andNot .i64 b b' == 0) && (bits .andNot .i64 r r' != 0)
theorem reach_valid {b : Int} {p : ByteArray} {x r : Int} (h : validT b p x r = true) : reachB p b x = true := by
  obtain ⟨h1, h2, h3, h4⟩ := valid_all h
  have h5 : inB x 0 1 = true := inB_yes (by omega)
  unfold reachB
  unfold isP at h2
  rw [h1, h2, h5]
  rfl
end Go.Proofs.YtgdgbjnmibkmhaaGreatDoor

