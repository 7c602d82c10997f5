/- The model's LoopOf, SequenceOf, ChoiceOf. -/
import Derived.Test.YtemilnkglkpnjaaDoorQ15
namespace Go.Proofs.YtemilnkglkpnjaaDoor
open Go.ChangeShapes Go.WideShapes Go.ChangeAt Go.RowKit Go.Shelf
attribute [local go_sem] Oper.semAt_some
set_option maxRecDepth 100000

theorem made52one (out p : ByteArray) (ho : out.size ≤ 9000000) (hp : p.size ≤ 9000000) (W : World) (t : TypeId) :
    Calls Tryd.prog 52 #[.string out, .slice (some ⟨W.heap.size, 0, none⟩) 1 1] (W.alloc (.cells #[.string p] t)) fun e W' => e = .returned (madeV out [p]) ∧ Below W.heap.size W W' := by
  have hb : Below W.heap.size W (W.alloc (.cells #[.string p] t)) := (Below.refl _ _).alloc (Nat.le_refl _) _
  refine (made52 out ho [p] (by simp) (fun t ht => by simp at ht; subst ht; exact hp) _ W.heap.size 1 (by simp) (fun i u hu => ?_)).mono ?_
  · match i, hu with
    | 0, hu => cases hu; rw [cell_of_row _ W.heap.size 0 _ t (0, 0) (heap_alloc_new W _)]; rfl
    | i + 1, hu => simp at hu
  · rintro e W' ⟨he, hB⟩
    exact ⟨he, hb.trans (hB.mono hb.size)⟩

theorem made52two (out p q : ByteArray) (ho : out.size ≤ 9000000) (hp : p.size ≤ 9000000) (hq : q.size ≤ 9000000) (W : World) (t : TypeId) :
    Calls Tryd.prog 52 #[.string out, .slice (some ⟨W.heap.size, 0, none⟩) 2 2] (W.alloc (.cells #[.string p, .string q] t)) fun e W' => e = .returned (madeV out [p, q]) ∧ Below W.heap.size W W' := by
  have hb : Below W.heap.size W (W.alloc (.cells #[.string p, .string q] t)) := (Below.refl _ _).alloc (Nat.le_refl _) _
  refine (made52 out ho [p, q] (by simp) (fun t ht => by simp at ht; rcases ht with rfl | rfl; exact hp; exact hq) _ W.heap.size 2 (by simp) (fun i u hu => ?_)).mono ?_
  · match i, hu with
    | 0, hu => cases hu; rw [cell_of_row _ W.heap.size 0 _ t (0, 0) (heap_alloc_new W _)]; rfl
    | 1, hu => cases hu; rw [cell_of_row _ W.heap.size 1 _ t (0, 0) (heap_alloc_new W _)]; rfl
    | i + 2, hu => simp at hu
  · rintro e W' ⟨he, hB⟩
    exact ⟨he, hb.trans (hB.mono hb.size)⟩

theorem madeV_tuple (out : ByteArray) (ts : List ByteArray) : ∃ s b, madeV out ts = .tuple #[.string s, .bool b] := ⟨_, _, rfl⟩

/-- The whole of a loop, and of a pair. -/
def loopTx (p : ByteArray) : ByteArray := ⟨#[123]⟩ ++ p ++ ⟨#[125]⟩
def pairTx (sign : UInt8) (p q : ByteArray) : ByteArray := ⟨#[40]⟩ ++ p ++ ⟨#[sign]⟩ ++ q ++ ⟨#[41]⟩

theorem loop33 (p : ByteArray) (hp : p.size ≤ 2000000) (W : World) :
    Calls Tryd.prog 33 #[.string p] W fun e W' => e = .returned (madeV (loopTx p) [p]) ∧ Below W.heap.size W W' := by
  have ho : (loopTx p).size ≤ 9000000 := by
    have e : (loopTx p).size = 1 + p.size + 1 := by unfold loopTx; rw [ByteArray.size_append, ByteArray.size_append]; rfl
    omega
  have hm := made52one (loopTx p) p ho (by omega)
  obtain ⟨s, b, hv⟩ := madeV_tuple (loopTx p) [p]
  rw [hv]
  simp only [hv] at hm
  clear hv
  unfold loopTx at hm
  have HM := Lib.hid hm
  clear hm ho
  go_enter Tryd.func33, Tryd.ntmps33
  go_wp2_with (go_at_call 52; refine (HM.out _ _).mono ?_; rintro e W1 ⟨rfl, hb⟩)
  go_ret2
  refine ⟨rfl, hb⟩

theorem seq31 (p q : ByteArray) (hp : p.size ≤ 2000000) (hq : q.size ≤ 2000000) (W : World) :
    Calls Tryd.prog 31 #[.string p, .string q] W fun e W' => e = .returned (madeV (pairTx 59 p q) [p, q]) ∧ Below W.heap.size W W' := by
  have ho : (pairTx 59 p q).size ≤ 9000000 := by
    have e : (pairTx 59 p q).size = 1 + p.size + 1 + q.size + 1 := by unfold pairTx; simp only [ByteArray.size_append]; rfl
    omega
  have hm := made52two (pairTx 59 p q) p q ho (by omega) (by omega)
  obtain ⟨s, b, hv⟩ := madeV_tuple (pairTx 59 p q) [p, q]
  rw [hv]
  simp only [hv] at hm
  clear hv
  unfold pairTx at hm
  have HM := Lib.hid hm
  clear hm ho
  go_enter Tryd.func31, Tryd.ntmps31
  go_wp2_with (go_at_call 52; refine (HM.out _ _).mono ?_; rintro e W1 ⟨rfl, hb⟩)
  go_ret2
  refine ⟨rfl, hb⟩

theorem choice32 (p q : ByteArray) (hp : p.size ≤ 2000000) (hq : q.size ≤ 2000000) (W : World) :
    Calls Tryd.prog 32 #[.string p, .string q] W fun e W' => e = .returned (madeV (pairTx 124 p q) [p, q]) ∧ Below W.heap.size W W' := by
  have ho : (pairTx 124 p q).size ≤ 9000000 := by
    have e : (pairTx 124 p q).size = 1 + p.size + 1 + q.size + 1 := by unfold pairTx; simp only [ByteArray.size_append]; rfl
    omega
  have hm := made52two (pairTx 124 p q) p q ho (by omega) (by omega)
  obtain ⟨s, b, hv⟩ := madeV_tuple (pairTx 124 p q) [p, q]
  rw [hv]
  simp only [hv] at hm
  clear hv
  unfold pairTx at hm
  have HM := Lib.hid hm
  clear hm ho
  go_enter Tryd.func32, Tryd.ntmps32
  go_wp2_with (go_at_call 52; refine (HM.out _ _).mono ?_; rintro e W1 ⟨rfl, hb⟩)
  go_ret2
  refine ⟨rfl, hb⟩
end Go.Proofs.YtemilnkglkpnjaaDoor

