/- The drawn text of the law on texts of sets. -/
import Derived.Test.YtopibdhfkemnmaaDoorST
namespace Go.Proofs.YtopibdhfkemnmaaDoor
open Go.ChangeShapes Go.WideShapes Go.ChangeAt Go.RowKit Go.Shelf

theorem of22 {B : Nat} {W : World} {rb k g m : Nat} (h : Rd B W rb k) (hk : k ≤ 1000000) (m1 : 0 < m) (m2 : m ≤ 1000) (hg : g ≠ rb)
    (hc : ∀ i, i < m → ∃ s : ByteArray, s.size ≤ 3 ∧ W.cell? ⟨g, i, none⟩ = some (.string s)) :
    Calls Tryd.prog 22 #[.pointer (some ⟨rb, 0, none⟩), .slice (some ⟨g, 0, none⟩) m m] W fun e W' => ∃ s : ByteArray, s.size ≤ 3 ∧ e = .returned (.string s) ∧ Rd B W' rb (k + 1) ∧ W.grownBy W' (some rb) := by
  have HC := Lib.hid hc
  have m3 : (1 : Int) ≤ (m : Int) := by omega
  have m4 : (m : Int) ≤ 1000 := by omega
  clear hc
  go_enter Tryd.func22, Tryd.ntmps22
  go_wp2_with fail
  go_at_call 21
  refine (pick36 h hk m3 m4).mono ?_
  rintro e W1 ⟨r, rfl, r0, r1, h1, g1⟩
  obtain ⟨q, rfl⟩ : ∃ q : Nat, r = (q : Int) := ⟨r.toNat, by omega⟩
  have hq : q < m := by omega
  obtain ⟨z, hQ, hz⟩ := HC.out q hq
  have HQ := Lib.hid hQ
  have hz1 := g1.cell hz (by simpa using hg)
  clear hz hQ
  go_wp2
  go_ret
  exact ⟨z, HQ.out, rfl, h1, g1⟩
theorem of22new {B : Nat} {W : World} {rb k : Nat} (h : Rd B W rb k) (hk : k ≤ 1000000) (cs : Array Value) (m : Nat) (hm : cs.size = m) (m1 : 0 < m) (m2 : m ≤ 1000) (hc : ∀ v ∈ cs.toList, ∃ s : ByteArray, s.size ≤ 3 ∧ v = .string s) :
    Calls Tryd.prog 22 #[.pointer (some ⟨rb, 0, none⟩), .slice (some ⟨W.heap.size, 0, none⟩) m m] (W.alloc (.cells cs 9)).drew fun e W' => ∃ s : ByteArray, s.size ≤ 3 ∧ e = .returned (.string s) ∧ Rd B W' rb (k + 1) ∧ Below rb W W' := by
  subst hm
  have hlt := h.lt
  refine (of22 (W := (W.alloc (.cells cs 9)).drew) (h.below ((Below.refl _ _).alloc (Nat.le_refl _) _).drew) hk m1 m2 (by omega) (fun i hi => ?_)).mono ?_
  · obtain ⟨z, hQ, hz⟩ := hc cs[i] (by simp)
    refine ⟨z, hQ, ?_⟩
    show (W.alloc (.cells cs 9)).cell? _ = _
    rw [cell_of_row _ W.heap.size i cs 9 (0, 0) (heap_alloc_new W _), ← hz]
    simp [hi]
  · rintro e W' ⟨z, hQ, he, hr, hg⟩
    exact ⟨z, hQ, he, hr, ((Below.refl rb W).alloc (by omega) _).drew.trans (below_of_grown hg (by show rb ≤ (W.alloc (.cells cs 9)).heap.size; simp; omega))⟩

theorem six_texts : ∀ v ∈ (#[.string ⟨#[]⟩, .string ⟨#[44]⟩, .string ⟨#[48]⟩, .string ⟨#[51]⟩, .string ⟨#[45]⟩, .string ⟨#[44, 49, 50]⟩] : Array Value).toList, ∃ s : ByteArray, s.size ≤ 3 ∧ v = .string s := by
  intro v hv
  simp at hv
  rcases hv with rfl | rfl | rfl | rfl | rfl | rfl <;> exact ⟨_, by decide, rfl⟩

theorem setL_pos {z : Int} (h : 0 ≤ z ∧ z ≤ 511) : 0 < (setL z).length := by
  have hs : isSet z = true := decide_eq_true h
  unfold setL
  rw [if_pos hs]
  split
  · simp
  · rename_i hne
    exact List.length_pos_iff.2 (fmtL_ne hne)

def SomeText (W : World) (e : Ending) (W' : World) : Prop := ∃ t : ByteArray, t.size ≤ 1048576 ∧ e = .returned (.string t) ∧ Below W.heap.size W W'

set_option maxHeartbeats 2000000 in
theorem draw11t {B : Nat} {W : World} {a : Option Addr} {len cap : Nat} (h : Code B W a len cap) (hB : B ≤ W.heap.size) :
    Calls Tryd.prog 11 #[.slice a len cap] W (SomeText W) := by
  go_enter Tryd.func11, Tryd.ntmps11
  go_wp2_with fail
  go_at_call 14
  refine (open33 h hB).mono ?_
  rintro e W1 ⟨rfl, h1, b1, z1⟩
  have Z := Lib.hid z1
  clear z1
  go_wp2_with fail
  go_at_call 20
  refine (good20 h1 (by omega)).mono ?_
  rintro e W2 ⟨z, hz, rfl, ⟨j, hj, h2⟩, b2⟩
  have hpos := setL_pos hz
  have hmax := setL_len z
  clear hz
  have B2 := b1.trans b2
  go_wp2_with fail
  go_at_call 8
  refine (fs26 z _).mono ?_
  rintro e W3 ⟨rfl, b3⟩
  have h3 := h2.below b3
  have B3 := B2.trans (b3.mono B2.size)
  obtain ⟨sb, hsb⟩ : ∃ sb : ByteArray, sb = ⟨(setL z).toArray⟩ := ⟨_, rfl⟩
  have s0 : 0 < sb.size := by rw [hsb]; simpa [ByteArray.size] using hpos
  have s1 : sb.size ≤ 27 := by rw [hsb]; simpa [ByteArray.size] using hmax
  rw [← hsb]
  clear hsb hpos hmax
  go_wp2_with fail
  go_at_call 21
  refine (pick36 h3 (by omega) (by omega) (by omega)).mono ?_
  rintro e W4 ⟨x4, rfl, a4, c4, h4, g4⟩
  have B4 := B3.trans (below_of_grown g4 (by have := h3.lt; omega))
  cases hx : (x4 == 0) with
  | true =>
    go_wp2
    go_ret
    exact ⟨sb, by omega, rfl, B4⟩
  | false =>
    have n1 : (1 : Int) ≤ (sb.size : Int) := by omega
    have n2 : (sb.size : Int) ≤ 27 := by omega
    go_wp2_with fail
    go_at_call 21
    refine (pick36 h4 (by omega) n1 (by omega)).mono ?_
    rintro e W5 ⟨x5, rfl, a5, c5, h5, g5⟩
    have B5 := B4.trans (below_of_grown g5 (by have := h4.lt; omega))
    obtain ⟨k, rfl⟩ : ∃ k : Nat, x5 = (k : Int) := ⟨x5.toNat, by omega⟩
    have hk : k < sb.size := by omega
    have e1 : (sb.extract 0 k).size ≤ 27 := by rw [ByteArray.size_extract]; omega
    go_wp2_with fail
    go_region_with (first | (go_at_call 22; go_loud (refine (of22new h5 (by omega) #[.string ⟨#[]⟩, .string ⟨#[44]⟩, .string ⟨#[48]⟩, .string ⟨#[51]⟩, .string ⟨#[45]⟩, .string ⟨#[44, 49, 50]⟩] 6 rfl (by omega) (by omega) six_texts).mono ?_); rintro e W6 ⟨so, so1, rfl, h6, b6⟩) | (go_at_call 21; go_loud (refine (pick36 h6 (by omega) (by omega) (by omega)).mono ?_; rintro e' W7 ⟨x7, rfl, a7, c7, h7, g7⟩; obtain ⟨q, rfl⟩ : ∃ q : Nat, x7 = (q : Int) := ⟨x7.toNat, by omega⟩; have hq : k + q ≤ sb.size := (by omega); have hq1 : (k : Int) + (q : Int) ≤ (sb.size : Int) := (by omega); have e2 : (sb.extract (k + q) sb.size).size ≤ 27 := (by rw [ByteArray.size_extract]; omega); have w1 := IntWalk.i64_in ((k : Int) + (q : Int)) (by omega); have w0 : (0 : Int) ≤ (k : Int) + (q : Int) := (by omega); have w2 : ((k : Int) + (q : Int)).toNat = k + q := (by omega))))
    all_goals go_wp2
    all_goals
      go_ret
      exact ⟨_, by simp only [ByteArray.size_append]; omega, rfl, B5.trans (b6.trans (below_of_grown g7 (by have := h6.lt; omega)))⟩
end Go.Proofs.YtopibdhfkemnmaaDoor
