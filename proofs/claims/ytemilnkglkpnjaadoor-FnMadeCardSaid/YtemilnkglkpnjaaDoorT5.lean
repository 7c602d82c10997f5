/- Tests, by the model: which texts are tests, the first one for a set, those that hold where one does not. -/
import Derived.Test.YtemilnkglkpnjaaDoorCutS
import Derived.Test.YtemilnkglkpnjaaDoorT3
namespace Go.Proofs.YtemilnkglkpnjaaDoor
open Go.ChangeShapes Go.WideShapes Go.ChangeAt Go.RowKit Go.Shelf
set_option maxRecDepth 100000
attribute [local go_sem] Oper.semAt_some

theorem tests_len : tests.length = 20 := by decide
/-- Is a text a test. -/
def isTest (t : ByteArray) : Bool := decide (t.toList ∈ tests)

theorem tests_at {W : World} {B : Nat} {v : Value} (h : W.ownsRow B 9 1 v 20 (texts tests)) :
    ∃ g cap, v = .slice (some ⟨g, 0, none⟩) 20 cap ∧ B ≤ g ∧ g < W.heap.size ∧ ∀ (j : Nat) p, tests[j]? = some p → W.cell? ⟨g, j, none⟩ = some (.string ⟨p.toArray⟩) := by
  rcases h.2 with ⟨_, h0⟩ | ⟨g, cap, cur, rfl, hb, hg, hn, hm, _⟩
  · cases h0
  · refine ⟨g, cap, rfl, hb, (Array.getElem?_eq_some_iff.1 hg).1, fun j p hp => ?_⟩
    have hj := (List.getElem?_eq_some_iff.1 hp).1
    rw [tests_len] at hj
    rw [World.ownsRow.cellAt h j hj]
    simp [texts, hp]
theorem tests_some (k : Nat) (hk : k < 20) : ∃ p, tests[k]? = some p := ⟨_, List.getElem?_eq_getElem (by rw [tests_len]; exact hk)⟩
theorem some_mem {k : Nat} {p : List UInt8} (h : tests[k]? = some p) : p ∈ tests := List.mem_of_getElem? h
theorem tests_idx {q : List UInt8} (h : q ∈ tests) : ∃ j, j < 20 ∧ tests[j]? = some q := by
  obtain ⟨j, hj, e⟩ := List.getElem_of_mem h
  exact ⟨j, by rw [tests_len] at hj; exact hj, by rw [List.getElem?_eq_getElem hj, e]⟩

/-- Where a test's text says that it holds. -/
def whereL : List UInt8 → Int
  | [a, b, c] => whereB a.toNat b.toNat c.toNat 9
  | _ => 0
def holdsL : List UInt8 → Nat → Bool
  | [a, b, c], k => holdsB a.toNat b.toNat c.toNat k
  | _, _ => false
theorem shapes : tests.all (fun p => match p with | [_, b, _] => b == 61 || b == 35 || b == 60 | _ => false) = true := by decide
theorem shape {p : List UInt8} (h : p ∈ tests) : ∃ a b c, p = [a, b, c] ∧ (b = 61 ∨ b = 35 ∨ b = 60) := by
  have := List.all_eq_true.1 shapes p h
  match p, this with
  | [a, b, c], h => exact ⟨a, b, c, rfl, by simpa [or_assoc] using h⟩

theorem wh35 {p : List UInt8} (h : p ∈ tests) (w : World) :
    Calls Tryd.prog 67 #[.string ⟨p.toArray⟩] w fun e w' => e = .returned (.int .i64 (whereL p)) ∧ Below w.heap.size w w' := by
  obtain ⟨a, b, c, rfl, hb⟩ := shape h
  exact where35 a b c hb w
theorem st34 {p : List UInt8} (h : p ∈ tests) (w : World) :
    Calls Tryd.prog 79 #[.string ⟨p.toArray⟩] w fun e w' => e = .returned (.int .i64 (whereL p)) ∧ Below w.heap.size w w' := by
  obtain ⟨a, b, c, rfl, hb⟩ := shape h
  exact sot34 a b c hb w
theorem hl43 {p : List UInt8} (h : p ∈ tests) (k : Nat) (hk : k ≤ 8) (w : World) :
    Calls Tryd.prog 83 #[.string ⟨p.toArray⟩, .int .i64 (k : Int)] w fun e w' => e = .returned (.bool (holdsL p k)) ∧ Below w.heap.size w w' := by
  obtain ⟨a, b, c, rfl, hb⟩ := shape h
  exact holds43 a b c hb k hk w
theorem of_list (t : ByteArray) : t = ⟨t.toList.toArray⟩ := by rw [Lib.toList_data]
theorem mem_of {t : ByteArray} (h : isTest t = true) : t.toList ∈ tests := of_decide_eq_true h

set_option maxHeartbeats 1000000 in
theorem valid16 (t : ByteArray) (w : World) :
    Calls Tryd.prog 65 #[.string t] w fun e w' => e = .returned (.bool (isTest t)) ∧ Below w.heap.size w w' := by
  go_enter Tryd.func65, Tryd.ntmps65
  go_wp2_with (go_at_call 66; refine (all39 _).mono ?_; rintro e W1 ⟨v, rfl, hown, hb⟩; obtain ⟨g, cap, rfl, hgB, hgl, hcells⟩ := tests_at hown; have HC := Lib.hid hcells; clear hcells)
  go_loopw [7] (fun i wr => ∃ k : Nat, k ≤ 20 ∧ i = .int .i64 k ∧ (∀ j p, j < k → tests[j]? = some p → p ≠ t.toList) ∧ wr = W1) (fun i _ => 20 - (intOf i).toNat)
  case atStart => exact ⟨0, by omega, rfl, fun j p hj => by omega, rfl⟩
  case round =>
    obtain ⟨k, hk, rfl, hno, rfl⟩ := hrel
    have HN := Lib.hid hno
    clear hno
    by_cases hlt : k < 20
    · obtain ⟨p, hp⟩ := tests_some k hlt
      have c1 := HC.out k p hp
      have HP := Lib.hid hp
      clear hp
      by_cases hq : p = t.toList
      · have he : (p == t.toList) = true := by simpa using hq
        have HQ := Lib.hid hq
        clear hq
        go_wp2
        go_ret
        exact ⟨by rw [show isTest t = true from decide_eq_true (by rw [← HQ.out]; exact some_mem HP.out)]; rfl, hb⟩
      · have he : (p == t.toList) = false := by simpa using hq
        have HQ := Lib.hid hq
        clear hq
        go_wp2
        go_roundw
        case rel =>
          exact ⟨k + 1, by omega, by go_num, fun j q hj hjq => by
            by_cases e : j = k
            · subst e; rw [HP.out] at hjq; cases hjq; exact HQ.out
            · exact HN.out j q (by omega) hjq, trivial⟩
        case measure => simp [intOf]; omega
    · obtain rfl : k = 20 := by omega
      go_wp2
      go_ret
      exact ⟨by rw [show isTest t = false from decide_eq_false (fun hm => by
        obtain ⟨j, hj, e⟩ := tests_idx hm
        exact HN.out j _ hj e rfl)]; rfl, hb⟩

theorem find_hit {l : List (List UInt8)} {f : List UInt8 → Bool} {k : Nat} {p : List UInt8} (hp : l[k]? = some p) (hf : f p = true) (hno : ∀ j q, j < k → l[j]? = some q → f q = false) : l.find? f = some p := by
  induction l generalizing k with
  | nil => cases hp
  | cons x r ih =>
    cases k with
    | zero => cases hp; simp [hf]
    | succ k =>
      have h0 := hno 0 x (by omega) rfl
      rw [List.find?_cons_of_neg (by simp [h0])]
      exact ih (k := k) (by simpa using hp) (fun j q hj hq => hno (j + 1) q (by omega) (by simpa using hq))
theorem find_miss {l : List (List UInt8)} {f : List UInt8 → Bool} (hno : ∀ (j : Nat) q, l[j]? = some q → f q = false) : l.find? f = none := by
  rw [List.find?_eq_none]
  intro q hq
  obtain ⟨j, hj, e⟩ := List.getElem_of_mem hq
  rw [hno j q (by rw [List.getElem?_eq_getElem hj, e])]
  simp

/-- The first test that holds just in the states of a set. -/
def firstOf (s : Int) : Option (List UInt8) := tests.find? fun p => whereL p == s
def firstT (s : Int) : List UInt8 := (firstOf s).getD []
def firstB (s : Int) : Bool := (firstOf s).isSome

end Go.Proofs.YtemilnkglkpnjaaDoor

