/- Chapter 6: the words of the rules, the model's and the program's. -/
import Derived.Test.YtgdgbjnmibkmhaaGreatDoorTD
namespace Go.Proofs.YtgdgbjnmibkmhaaGreatDoor
open Go.ChangeShapes Go.WideShapes Go.ChangeAt Go.RowKit Go.Shelf
attribute [local go_sem] Oper.semAt_some
set_option maxRecDepth 100000

/-- The rules' words, in order. -/
def rulesL : List (List UInt8) := [[97, 116, 111, 109], [110, 111, 110, 101], [115, 101, 113], [115, 116, 111, 112], [108, 101, 102, 116], [114, 105, 103, 104, 116], [122, 101, 114, 111], [111, 110, 99, 101], [102, 97, 105, 108], [98, 111, 116, 104], [108, 101, 115, 115]]
def rulesText : ByteArray := ⟨([97, 116, 111, 109, 32, 110, 111, 110, 101, 32, 115, 101, 113, 32, 115, 116, 111, 112, 32, 108, 101, 102, 116, 32, 114, 105, 103, 104, 116, 32, 122, 101, 114, 111, 32, 111, 110, 99, 101, 32, 102, 97, 105, 108, 32, 98, 111, 116, 104, 32, 108, 101, 115, 115] : List UInt8).toArray⟩
theorem cut_rules : cutL rulesText.data.toList = rulesL := by decide +kernel
/-- The index of a word. -/
def ixR (t : List UInt8) : Option Nat := rulesL.idxOf? t
theorem ix_hit : ∀ (k : Nat) (t : List UInt8), k < 11 → rulesL[k]? = some t → ixR t = some k := by
  intro k t hk h
  match k, hk with
  | 0, _ | 1, _ | 2, _ | 3, _ | 4, _ | 5, _ | 6, _ | 7, _ | 8, _ | 9, _ | 10, _ => cases h; decide
theorem ix_miss {t : List UInt8} (h : ∀ k, k < 11 → rulesL[k]? ≠ some t) : ixR t = none := by
  unfold ixR
  rw [List.idxOf?_eq_none_iff]
  intro hm
  obtain ⟨k, hk, he⟩ := List.getElem_of_mem hm
  exact h k hk (by rw [List.getElem?_eq_getElem hk, he])
theorem ix_lt {t : List UInt8} {k : Nat} (h : ixR t = some k) : k < 11 ∧ rulesL[k]? = some t := by
  unfold ixR at h
  obtain ⟨hk, he, _⟩ := List.idxOf?_eq_some_iff.1 h
  exact ⟨hk, by rw [List.getElem?_eq_getElem hk, he]⟩
end Go.Proofs.YtgdgbjnmibkmhaaGreatDoor

