/- The program's reader of programs: taking bytes, going past a word. -/
import Derived.Test.YtemilnkglkpnjaaDoorTree
import Derived.Test.YtemilnkglkpnjaaDoorT8

namespace Go.Proofs.YtemilnkglkpnjaaDoor
open Go.ChangeShapes Go.WideShapes Go.ChangeAt Go.RowKit Go.Shelf
attribute [local go_sem] Oper.semAt_some
set_option maxRecDepth 100000

/-- Block rb is a reader of what is left. -/
def Rst (W : World) (rb : Nat) (l : List UInt8) : Prop := W.heap[rb]? = some (.cells #[.string ⟨l.toArray⟩] 74 (0, 0))
theorem Rst.lt {W : World} {rb : Nat} {l : List UInt8} (h : Rst W rb l) : rb < W.heap.size := (Array.getElem?_eq_some_iff.1 h).1
theorem Rst.cells {W : World} {rb : Nat} {l : List UInt8} (h : Rst W rb l) : W.cell? ⟨rb, 0, none⟩ = some (.string ⟨l.toArray⟩) ∧ W.frozen? ⟨rb, 0, none⟩ = false := by
  unfold Rst at h
  exact ⟨by simp [World.cell?, h], by simp [World.frozen?, h]⟩
theorem Rst.set {W : World} {rb : Nat} {l : List UInt8} (h : Rst W rb l) (m : List UInt8) :
    Rst (W.setCell ⟨rb, 0, none⟩ (.string ⟨m.toArray⟩)) rb m ∧ W.grownBy (W.setCell ⟨rb, 0, none⟩ (.string ⟨m.toArray⟩)) (some rb) := by
  refine ⟨?_, ⟨rfl, rfl, rfl, by simp, fun k _ hk => heap_setCell_other W ⟨rb, 0, none⟩ k _ (fun e => hk (by simp [e]))⟩⟩
  unfold Rst at *
  rw [heap_setCell_same W rb 0 _ 74 _ h]
  rfl
theorem Rst.grown {W W' : World} {rb : Nat} {l : List UInt8} {row : Option Nat} (h : Rst W rb l) (hg : W.grownBy W' row) (hne : some rb ≠ row) : Rst W' rb l := by
  unfold Rst at *
  rw [hg.block rb (Array.getElem?_eq_some_iff.1 h).1 hne]
  exact h

/-- What the package's variables hold; all of it lies below N. -/
def Laid3 (N : Nat) (W : World) : Prop := Laid N W ∧ (∃ g c, TableAt N 2 12 twos g c W) ∧ (∃ T v, W.cell? ⟨0, 0, none⟩ = some (.iface T v)) ∧ 0 < N
theorem Laid3.below {N : Nat} {W W' : World} (h : Laid3 N W) {n : Nat} (hb : Below n W W') (hn : N ≤ n) : Laid3 N W' := by
  obtain ⟨h0, ⟨g, c, h1⟩, ⟨T, v, h2⟩, hz⟩ := h
  exact ⟨h0.below hb hn, ⟨g, c, h1.below hb hn⟩, ⟨T, v, (hb.cell (p := ⟨0, 0, none⟩) (Nat.lt_of_lt_of_le hz hn)).trans h2⟩, hz⟩
theorem Laid3.grown {N : Nat} {W W' : World} (h : Laid3 N W) {r : Nat} (hb : W.grownBy W' (some r)) (hn : N ≤ r) : Laid3 N W' := by
  obtain ⟨h0, ⟨g, c, h1⟩, ⟨T, v, h2⟩, hz⟩ := h
  refine ⟨h0.grown hb hn, ⟨g, c, h1.grown hb h0.2.2 hn⟩, ⟨T, v, ?_⟩, hz⟩
  have := World.cell?_of_block (w := W) (w' := W') (a := ⟨0, 0, none⟩) (hb.block 0 (by have := h0.2.2; omega) (by simp; omega))
  exact this.trans h2
theorem Laid3.lt {N : Nat} {W : World} (h : Laid3 N W) : N ≤ W.heap.size := h.1.2.2
theorem Laid3.err {N : Nat} {W : World} (h : Laid3 N W) : ∃ T v, W.cell? ⟨0, 0, none⟩ = some (.iface T v) := h.2.2.1

theorem ext_take (l : List UInt8) (n : Nat) : (⟨l.toArray⟩ : ByteArray).extract 0 n = ⟨(l.take n).toArray⟩ := by
  apply ByteArray.ext
  apply Array.toList_inj.1
  rw [Lib.extract_data]
  simp
theorem ext_drop (l : List UInt8) (n : Nat) : (⟨l.toArray⟩ : ByteArray).extract n l.length = ⟨(l.drop n).toArray⟩ := by
  apply ByteArray.ext
  apply Array.toList_inj.1
  rw [Lib.extract_data]
  simp only
  rw [List.take_of_length_le (by simp)]

/-- A panic by the package's own error. -/
def Died (e : Ending) : Prop := ∃ T v, e = .panicked [{ v := .iface T v, recovered := false }]

set_option maxHeartbeats 1000000 in
theorem ptake_ok (l : List UInt8) (rb n : Nat) (hn : n ≤ l.length) (W : World) (h : Rst W rb l) :
    Calls Tryd.prog 70 #[.pointer (some ⟨rb, 0, none⟩), .int .i64 (n : Int)] W fun e W' => e = .returned (.string ⟨(l.take n).toArray⟩) ∧ Rst W' rb (l.drop n) ∧ W.grownBy W' (some rb) := by
  obtain ⟨c0, f0⟩ := h.cells
  have i1 : ¬ (l.length : Int) < (n : Int) := by omega
  have n0 : (0 : Int) ≤ (n : Int) := by omega
  have n1 : (n : Int) ≤ (l.length : Int) := by omega
  have e1 := ext_take l n
  have e2 := ext_drop l n
  have HS := Lib.hid (h.set (l.drop n))
  clear h
  go_enter Tryd.func70, Tryd.ntmps70
  go_wp2_with fail
  go_ret
  exact ⟨rfl, HS.out⟩

set_option maxHeartbeats 1000000 in
theorem ptake_bad (l : List UInt8) (rb n : Nat) (hn : l.length < n) (W : World) (h : Rst W rb l) {N : Nat} (hE : Laid3 N W) :
    Calls Tryd.prog 70 #[.pointer (some ⟨rb, 0, none⟩), .int .i64 (n : Int)] W fun e W' => Died e ∧ W = W' := by
  obtain ⟨c0, f0⟩ := h.cells
  obtain ⟨T, v, ce⟩ := hE.err
  have i1 : (l.length : Int) < (n : Int) := by omega
  clear h hE
  go_enter Tryd.func70, Tryd.ntmps70
  go_wp2_with fail
  exact ⟨rfl, ⟨T, v, rfl⟩, rfl⟩
end Go.Proofs.YtemilnkglkpnjaaDoor
