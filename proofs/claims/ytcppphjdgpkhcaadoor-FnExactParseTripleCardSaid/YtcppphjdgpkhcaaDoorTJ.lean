/- Chapter 5, the program: the words of a text, read one behind the other. -/
import Derived.Test.YtcppphjdgpkhcaaDoorTE
import Derived.Test.YtcppphjdgpkhcaaDoorTSet
namespace Go.Proofs.YtcppphjdgpkhcaaDoor
open Go.ChangeShapes Go.WideShapes Go.ChangeAt Go.RowKit Go.Shelf
attribute [local go_sem] Oper.semAt_some
set_option maxRecDepth 100000

theorem blank_at {r : ByteArray} {o : Nat} (h : Lib.indexByte r.data.toList 32 = (o : Int)) :
    o < r.size ∧ cutL r.data.toList = (r.extract 0 o).data.toList :: cutL (r.extract (o + 1) r.size).data.toList := by
  obtain ⟨h1, h2⟩ := Lib.indexByte_some h
  have hlt : o < r.data.toList.length := (List.getElem?_eq_some_iff.1 h1).1
  have hsz : o < r.size := by show o < r.data.size; rw [← Array.length_toList]; exact hlt
  refine ⟨hsz, ?_⟩
  have e0 : r.data.toList = r.data.toList.take o ++ 32 :: r.data.toList.drop (o + 1) := by
    have : r.data.toList.drop o = 32 :: r.data.toList.drop (o + 1) := by
      rw [List.drop_eq_getElem_cons hlt]
      have := (List.getElem?_eq_some_iff.1 h1).2
      rw [this]
    rw [← this, List.take_append_drop]
  have e1 : (r.extract 0 o).data.toList = r.data.toList.take o := by rw [Lib.extract_data]; simp
  have e2 : (r.extract (o + 1) r.size).data.toList = r.data.toList.drop (o + 1) := Lib.extract_to_end r (o + 1)
  rw [e1, e2]
  have hn : (32 : UInt8) ∉ r.data.toList.take o := by
    intro hm
    obtain ⟨k, hk, he⟩ := List.getElem_of_mem hm
    rw [List.getElem_take] at he
    have hk' : k < o := by simp at hk; omega
    exact h2 k hk' (by rw [List.getElem?_eq_getElem (by omega), he])
  conv => lhs; rw [e0]
  exact cutL_at _ _ hn
theorem blank_last {r : ByteArray} (h : Lib.indexByte r.data.toList 32 = -1) : cutL r.data.toList = [r.data.toList] := by
  refine cutL_none _ (fun hm => ?_)
  obtain ⟨k, hk, he⟩ := List.getElem_of_mem hm
  exact Lib.indexByte_none h k (by rw [List.getElem?_eq_getElem hk, he])

/-- What is cut off a text: its first word, what is left of it, whether there was a space. -/
def Cuts (t a r : ByteArray) (m : Bool) : Prop := a.size ≤ t.size ∧ r.size ≤ t.size ∧ ((m = false ∧ a = t ∧ r = ⟨#[]⟩ ∧ cutL t.data.toList = [t.data.toList]) ∨ (m = true ∧ cutL t.data.toList = a.data.toList :: cutL r.data.toList))

set_option maxHeartbeats 2000000 in
theorem scut (t : ByteArray) (ht : t.size ≤ 9000000) (w : World) :
    Calls Tryd.prog 71 #[.string t, .string ⟨#[32]⟩] w fun e w' => ∃ a r m, Cuts t a r m ∧ e = .returned (.tuple #[.string a, .string r, .bool m]) ∧ Below w.heap.size w w' := by
  by_cases hm : Lib.indexByte t.data.toList 32 = -1
  · have HM := Lib.hid (blank_last hm)
    go_enter Tryd.func71, Tryd.ntmps71
    go_wp2_with (go_at_call 88; refine (Tryd.stringslite_Index_one t 32 _).mono ?_; rintro e w' ⟨rfl, rfl⟩)
    exact bodyPost_ret (v := .tuple #[.string t, .string ⟨#[]⟩, .bool false]) (by simp [results, Tryd.results71, go_sem]) rfl ⟨t, ⟨#[]⟩, false, ⟨Nat.le_refl _, Nat.zero_le _, .inl ⟨rfl, rfl, rfl, HM.out⟩⟩, rfl, Below.refl _ _⟩
  · obtain ⟨o, ho⟩ : ∃ o : Nat, Lib.indexByte t.data.toList 32 = (o : Int) := ⟨(Lib.indexByte t.data.toList 32).toNat, by have := Lib.indexByte_ge t.data.toList 32; omega⟩
    have hpa := blank_at ho
    have ho1 : (o : Int) + 1 ≤ (t.size : Int) := by omega
    have ho0 : (0 : Int) ≤ (o : Int) := by omega
    have hts : (t.size : Int) ≤ 9000000 := by omega
    have HM := Lib.hid hpa.2
    clear hm hpa
    go_enter Tryd.func71, Tryd.ntmps71
    go_wp2_with (go_at_call 88; refine (Tryd.stringslite_Index_one t 32 _).mono ?_; rintro e w' ⟨rfl, rfl⟩)
    go_region
    go_wp2_with fail
    exact bodyPost_ret (v := .tuple #[.string (t.extract 0 o), .string (t.extract (o + 1) t.size), .bool true]) (by simp [results, Tryd.results71, go_sem]) rfl ⟨_, _, true, ⟨by rw [ByteArray.size_extract]; omega, by rw [ByteArray.size_extract]; omega, .inr ⟨rfl, HM.out⟩⟩, rfl, (Below.refl _ _).drew⟩
theorem scut0 (t : ByteArray) (ht : t.size ≤ 9000000) (w : World) :
    Calls Tryd.prog 61 #[.string t, .string ⟨#[32]⟩] w fun e w' => ∃ a r m, Cuts t a r m ∧ e = .returned (.tuple #[.string a, .string r, .bool m]) ∧ Below w.heap.size w w' := by
  go_enter Tryd.func61, Tryd.ntmps61
  go_wp2_with fail
  go_at_call 71
  refine (scut t ht _).mono ?_
  rintro e W1 ⟨a, r, m, hc, rfl, hb⟩
  go_wp2_with fail
  exact bodyPost_ret (v := .tuple #[.string a, .string r, .bool m]) (by simp [results, Tryd.results61, go_sem]) rfl ⟨a, r, m, hc, rfl, hb⟩
/-- Where a reader of words stands: what is left of the text, whether it has ended. -/
def WordAt (W : World) (g : Nat) (t : ByteArray) (e : Bool) : Prop := W.heap[g]? = some (.cells #[.string t, .bool e] 52 (0, 0))
theorem WordAt.new (W : World) (t : ByteArray) (e : Bool) : WordAt (W.alloc (.cells #[.string t, .bool e] 52)) W.heap.size t e := heap_alloc_new W _
theorem WordAt.lt {W : World} {g : Nat} {t : ByteArray} {e : Bool} (h : WordAt W g t e) : g < W.heap.size := (Array.getElem?_eq_some_iff.1 h).1
theorem WordAt.below {W W' : World} {g : Nat} {t : ByteArray} {e : Bool} (h : WordAt W g t e) {n : Nat} (hb : Below n W W') (hn : g < n) : WordAt W' g t e := (hb.block g hn).trans h
theorem WordAt.cells {W : World} {g : Nat} {t : ByteArray} {e : Bool} (h : WordAt W g t e) :
    (W.cell? ⟨g, 0, none⟩ = some (.string t) ∧ W.cell? ⟨g, 1, none⟩ = some (.bool e)) ∧ W.frozen? ⟨g, 0, none⟩ = false ∧ W.frozen? ⟨g, 1, none⟩ = false := by
  refine ⟨⟨by rw [cell_of_row _ g 0 _ _ (0, 0) h]; rfl, by rw [cell_of_row _ g 1 _ _ (0, 0) h]; rfl⟩, ?_⟩
  unfold WordAt at h
  constructor <;> (unfold World.frozen?; rw [h]; rfl)
theorem word_set {W : World} {g : Nat} {t : ByteArray} {e : Bool} (h : WordAt W g t e) (t' : ByteArray) (e' : Bool) : WordAt ((W.setCell ⟨g, 0, none⟩ (.string t')).setCell ⟨g, 1, none⟩ (.bool e')) g t' e' := by
  unfold WordAt at *
  have h1 := heap_setCell_same W g 0 _ 52 (.string t') h
  rw [heap_setCell_same _ g 1 _ 52 _ h1]
  rfl
theorem grown_cell {W X : World} {g o : Nat} (h : W.grownBy X (some g)) (v : Value) : W.grownBy (X.setCell ⟨g, o, none⟩ v) (some g) :=
  ⟨h.os, h.tape, h.output, by simpa using h.size, fun i hi hne => (heap_setCell_other X ⟨g, o, none⟩ i _ (by intro e; exact hne (by rw [e]))).trans (h.block i hi hne)⟩
set_option maxHeartbeats 1000000 in
theorem word103 {W : World} {g : Nat} {t : ByteArray} {e0 : Bool} (h : WordAt W g t e0) (ht : t.size ≤ 9000000) :
    Calls Tryd.prog 51 #[.pointer (some ⟨g, 0, none⟩)] W fun e w' => ∃ a r m, Cuts t a r m ∧ e = .returned (.string a) ∧ WordAt w' g r (!m) ∧ W.grownBy w' (some g) := by
  obtain ⟨⟨c0, c1⟩, f0, f1⟩ := h.cells
  go_enter Tryd.func51, Tryd.ntmps51
  go_wp2_with fail
  go_at_call 61
  refine (scut0 t ht _).mono ?_
  rintro e W1 ⟨a, r, m, hc, rfl, hb⟩
  have h1 := h.below hb h.lt
  have hG : W.grownBy W1 (some g) := ⟨hb.os, hb.tape, hb.output, hb.size, fun i hi _ => hb.block i hi⟩
  clear c0 c1 f0 f1 hb
  obtain ⟨⟨c0, c1⟩, f0, f1⟩ := h1.cells
  go_wp2_with fail
  have hF := word_set h1 r (!m)
  have hG2 := grown_cell (o := 1) (grown_cell (o := 0) hG (.string r)) (.bool (!m))
  exact bodyPost_ret (v := .string a) (by simp [results, Tryd.results51, go_sem]) rfl ⟨a, r, m, hc, rfl, hF, hG2⟩
end Go.Proofs.YtcppphjdgpkhcaaDoor

