/- The drawn arguments of chapter 2: texts that are mostly tests, states, sets. -/
import Derived.Test.YtnejphdbnfdbhaaGreatDoorA3
import Derived.Test.YtnejphdbnfdbhaaGreatDoorBase3
namespace Go.Proofs.YtnejphdbnfdbhaaGreatDoor
open Go.ChangeShapes Go.WideShapes Go.ChangeAt Go.RowKit Go.Shelf
set_option maxRecDepth 100000
attribute [local go_sem] Oper.semAt_some

theorem of51 {B : Nat} {W : World} {rb k g m cap : Nat} (h : Rd B W rb k) (hk : k ≤ 1000000) (m1 : 0 < m) (m2 : m ≤ 1000) (hg : g ≠ rb)
    (hc : ∀ i, i < m → ∃ t : ByteArray, t.size ≤ 8 ∧ W.cell? ⟨g, i, none⟩ = some (.string t)) :
    Calls Tryz.prog 67 #[.pointer (some ⟨rb, 0, none⟩), .slice (some ⟨g, 0, none⟩) m cap] W fun e W' => ∃ t : ByteArray, t.size ≤ 8 ∧ e = .returned (.string t) ∧ Rd B W' rb (k + 1) ∧ W.grownBy W' (some rb) := by
  have HC := Lib.hid hc
  have m3 : (1 : Int) ≤ (m : Int) := by omega
  have m4 : (m : Int) ≤ 1000 := by omega
  clear hc
  go_enter Tryz.func67, Tryz.ntmps67
  go_wp2_with fail
  go_at_call 66
  refine (pick36 h hk m3 m4).mono ?_
  rintro e W1 ⟨r, rfl, r0, r1, h1, g1⟩
  obtain ⟨q, rfl⟩ : ∃ q : Nat, r = (q : Int) := ⟨r.toNat, by omega⟩
  have hq : q < m := by omega
  obtain ⟨t, ht, hz⟩ := HC.out q hq
  have hz1 := g1.cell hz (by simpa using hg)
  clear hz
  go_wp2
  go_ret
  exact ⟨t, ht, rfl, h1, g1⟩
theorem of51new {B : Nat} {W : World} {rb k : Nat} (h : Rd B W rb k) (hk : k ≤ 1000000) (cs : Array Value) (m : Nat) (hm : cs.size = m) (m1 : 0 < m) (m2 : m ≤ 1000) (hc : ∀ v ∈ cs.toList, ∃ t : ByteArray, t.size ≤ 8 ∧ v = .string t) :
    Calls Tryz.prog 67 #[.pointer (some ⟨rb, 0, none⟩), .slice (some ⟨W.heap.size, 0, none⟩) m m] (W.alloc (.cells cs 9)) fun e W' => ∃ t : ByteArray, t.size ≤ 8 ∧ e = .returned (.string t) ∧ Rd B W' rb (k + 1) ∧ Below rb W W' := by
  subst hm
  have hlt := h.lt
  refine (of51 (h.below ((Below.refl _ _).alloc (Nat.le_refl _) _)) hk m1 m2 (by omega) (fun i hi => ?_)).mono ?_
  · obtain ⟨t, ht, hz⟩ := hc cs[i] (by simp)
    refine ⟨t, ht, ?_⟩
    rw [cell_of_row _ W.heap.size i cs 9 (0, 0) (heap_alloc_new W _), ← hz]
    simp [hi]
  · rintro e W' ⟨t, ht, he, hr, hg⟩
    exact ⟨t, ht, he, hr, ((Below.refl rb W).alloc (by omega) _).trans (below_of_grown hg (by simp; omega))⟩

/-- What a draw of a text leaves. -/
def RanT (B rb k : Nat) (W : World) (e : Ending) (W' : World) : Prop :=
  ∃ t : ByteArray, t.size ≤ 8 ∧ e = .returned (.string t) ∧ (∃ j, j ≤ k ∧ Rd B W' rb j) ∧ Below rb W W'
/-- .. and of a test. -/
def RanG (B rb k : Nat) (W : World) (e : Ending) (W' : World) : Prop :=
  ∃ p, p ∈ tests ∧ e = .returned (.string ⟨p.toArray⟩) ∧ (∃ j, j ≤ k ∧ Rd B W' rb j) ∧ Below rb W W'

set_option maxHeartbeats 1000000 in
theorem good46 {B : Nat} {W : World} {rb k : Nat} (h : Rd B W rb k) (hk : k ≤ 900000) :
    Calls Tryz.prog 100 #[.pointer (some ⟨rb, 0, none⟩)] W (RanG B rb (k + 1) W) := by
  have hW := Lib.hid h.lt
  go_enter Tryz.func100, Tryz.ntmps100
  go_wp2_with fail
  go_at_call 114
  refine (all39 _).mono ?_
  rintro e W1 ⟨v, rfl, hown, hb⟩
  obtain ⟨g, cap, rfl, hgB, hgl, hcells⟩ := tests_at hown
  have HC := Lib.hid hcells
  have h1 := h.below hb
  clear hcells hown
  go_wp2_with fail
  go_at_call 66
  refine (pick36 h1 (by omega) (by omega) (by omega)).mono ?_
  rintro e W2 ⟨r, rfl, r0, r1, h2, g2⟩
  obtain ⟨q, rfl⟩ : ∃ q : Nat, r = (q : Int) := ⟨r.toNat, by omega⟩
  have hq : q < 20 := by omega
  obtain ⟨p, hp⟩ := tests_some q hq
  have hne : g ≠ rb := by have := hW.out; omega
  have c1 := g2.cell (HC.out q p hp) (by simpa using hne)
  have HP := Lib.hid hp
  clear hp
  go_wp2
  go_ret
  have hlt := hW.out
  exact ⟨p, some_mem HP.out, rfl, ⟨_, by omega, h2⟩, (hb.mono (by omega)).trans (below_of_grown g2 (by have := hb.size; omega))⟩

theorem sizes : ∀ p ∈ tests, (⟨p.toArray⟩ : ByteArray).size ≤ 8 := by
  intro p h
  have := of_decide_eq_true (List.all_eq_true.1 size_le p h)
  show p.toArray.size ≤ _
  omega


/-- What a Draw of one text leaves; of a text and a number; of a number. -/
def OneText (W : World) (e : Ending) (W' : World) : Prop := ∃ t : ByteArray, t.size ≤ 8 ∧ e = .returned (.string t) ∧ Below W.heap.size W W'
def TextNum (W : World) (e : Ending) (W' : World) : Prop := ∃ (t : ByteArray) (z : Int), t.size ≤ 8 ∧ e = .returned (.tuple #[.string t, .int .i64 z]) ∧ Below W.heap.size W W'

end Go.Proofs.YtnejphdbnfdbhaaGreatDoor

