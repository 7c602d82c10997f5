/- Chapter 8: sequences stepped back; plain words, and the model. -/
import Derived.Test.YtpepaobgngighabGreatDoorSA
import Derived.Test.YtpepaobgngighabGreatDoorMB
namespace Go.Proofs.YtpepaobgngighabGreatDoor
open Go.ChangeShapes Go.WideShapes Go.ChangeAt Go.RowKit Go.Shelf
attribute [local go_sem] Oper.semAt_some
set_option maxRecDepth 100000

/-- From where a program fails, or goes on to a set. -/
def stepN (b : List UInt8) (m : Nat) : Nat := match readP b with
  | some nd => canN nd 1 511 ||| canN nd 0 m
  | none => 0
def okP (b : List UInt8) : Bool := (readP b).isSome
def backS : List (List UInt8) → List Nat
  | [] => []
  | b :: bs => stepN b ((backS bs).headD 0) :: backS bs
def headS (ws : List (List UInt8)) (k : Nat) : Nat := (backS (ws.drop k)).headD 0
def okS (ws : List (List UInt8)) : Bool := ws.all okP && decide (ws.length ≤ 8)
def resS (ws : List (List UInt8)) : List Int := if okS ws = true then (backS ws).map fun n : Nat => (n : Int) else []
theorem backS_len : ∀ ws : List (List UInt8), (backS ws).length = ws.length
  | [] => rfl
  | b :: bs => by rw [backS, List.length_cons, List.length_cons, backS_len bs]
theorem stepN_lt (b : List UInt8) (m : Nat) : stepN b m < 512 := by
  unfold stepN
  split
  · exact or_lt (canN_lt _ _ _) (canN_lt _ _ _)
  · decide
theorem headS_lt (ws : List (List UInt8)) (k : Nat) : headS ws k < 512 := by
  unfold headS
  cases h : ws.drop k with
  | nil => rw [backS]; decide
  | cons b bs => rw [backS]; exact stepN_lt _ _
theorem drop_step {ws : List (List UInt8)} {k : Nat} {b : List UInt8} (h : ws[k]? = some b) : backS (ws.drop k) = stepN b (headS ws (k + 1)) :: backS (ws.drop (k + 1)) := by
  obtain ⟨hk, e⟩ := List.getElem?_eq_some_iff.1 h
  rw [List.drop_eq_getElem_cons hk, backS, e]
  rfl
theorem headS_step {ws : List (List UInt8)} {k : Nat} {b : List UInt8} (h : ws[k]? = some b) : headS ws k = stepN b (headS ws (k + 1)) := by
  unfold headS
  rw [drop_step h]
  rfl
/-- What the row of answers holds once all from k on are done. -/
def partS (ws : List (List UInt8)) (k : Nat) : List Int := List.replicate k 0 ++ (backS (ws.drop k)).map fun n : Nat => (n : Int)
theorem partS_len {ws : List (List UInt8)} {k : Nat} (h : k ≤ ws.length) : (partS ws k).length = ws.length := by
  unfold partS
  rw [List.length_append, List.length_replicate, List.length_map, backS_len, List.length_drop]
  omega
theorem partS_set {ws : List (List UInt8)} {k : Nat} {b : List UInt8} (h : ws[k]? = some b) : (partS ws (k + 1)).set k ((stepN b (headS ws (k + 1)) : Nat) : Int) = partS ws k := by
  unfold partS
  rw [drop_step h, List.set_append_left _ _ (by simp), List.map_cons, List.replicate_succ', List.set_append_right _ _ (by simp), List.length_replicate, Nat.sub_self, List.set_cons_zero, List.append_assoc]
  rfl
theorem partS_zero (ws : List (List UInt8)) : partS ws 0 = (backS ws).map fun n : Nat => (n : Int) := rfl
theorem partS_full (ws : List (List UInt8)) : partS ws ws.length = List.replicate ws.length 0 := by
  unfold partS
  rw [List.drop_length, backS]
  simp
theorem headS_full (ws : List (List UInt8)) : headS ws ws.length = 0 := by unfold headS; rw [List.drop_length, backS]; rfl
theorem okS_all {ws : List (List UInt8)} (h : ∀ (j : Nat) b, ws[j]? = some b → okP b = true) (h8 : ws.length ≤ 8) : okS ws = true := by
  unfold okS
  rw [decide_eq_true h8, Bool.and_true, List.all_eq_true]
  intro b hb
  obtain ⟨j, hj, rfl⟩ := List.getElem_of_mem hb
  exact h j _ (List.getElem?_eq_getElem hj)
theorem okS_no {ws : List (List UInt8)} {j : Nat} {b : List UInt8} (h : ws[j]? = some b) (hb : okP b = false) : okS ws = false := by
  cases ho : okS ws with
  | false => rfl
  | true =>
    unfold okS at ho
    rw [Bool.and_eq_true, List.all_eq_true] at ho
    rw [ho.1 b (List.mem_of_getElem? h)] at hb
    cases hb
theorem okS_long {ws : List (List UInt8)} (h : 8 < ws.length) : okS ws = false := by
  unfold okS
  rw [decide_eq_false (by omega), Bool.and_false]
theorem resS_no {ws : List (List UInt8)} (h : okS ws = false) : resS ws = [] := by unfold resS; rw [h]; rfl
theorem resS_yes {ws : List (List UInt8)} (h : okS ws = true) : resS ws = (backS ws).map fun n : Nat => (n : Int) := by unfold resS; rw [h]; rfl

/-- What is told of one text. -/
theorem bytes_readP (b : List UInt8) : readP (⟨b.toArray⟩ : ByteArray).toList = readP b := by rw [Lib.toList_data]
theorem tell_yes {b : List UInt8} (h : okP b = true) {m : Nat} (hm : m < 512) : ∃ c d : Nat, c < 512 ∧ d < 512 ∧ stepN b m = c ||| d ∧ canZ ⟨b.toArray⟩ 511 1 = (c : Int) ∧ reachB ⟨b.toArray⟩ 511 1 = true ∧ canZ ⟨b.toArray⟩ (m : Int) 0 = (d : Int) ∧ reachB ⟨b.toArray⟩ (m : Int) 0 = true := by
  obtain ⟨nd, hP⟩ := Option.isSome_iff_exists.1 h
  have hP2 : readP (⟨b.toArray⟩ : ByteArray).toList = some nd := by rw [bytes_readP]; exact hP
  refine ⟨canN nd 1 511, canN nd 0 m, canN_lt _ _ _, canN_lt _ _ _, ?_, canZ_ok hP2 (m := 511) (by omega) (.inr rfl), (reach_ok hP2 (m := 511) (by omega) (.inr rfl)).2, canZ_ok hP2 hm (.inl rfl), (reach_ok hP2 hm (.inl rfl)).2⟩
  unfold stepN
  rw [hP]
theorem tell_no {b : List UInt8} (h : okP b = false) (m : Int) : canZ ⟨b.toArray⟩ 511 1 = 0 ∧ reachB ⟨b.toArray⟩ 511 1 = false ∧ canZ ⟨b.toArray⟩ m 0 = 0 ∧ reachB ⟨b.toArray⟩ m 0 = false := by
  have hP : readP (⟨b.toArray⟩ : ByteArray).toList = none := by
    rw [bytes_readP]
    unfold okP at h
    cases h2 : readP b with
    | none => rfl
    | some nd => rw [h2] at h; cases h
  have h1 := (reach_none hP 511 1).2
  have h2 := (reach_none hP m 0).2
  exact ⟨canZ_no h1, h1, canZ_no h2, h2⟩
end Go.Proofs.YtpepaobgngighabGreatDoor

