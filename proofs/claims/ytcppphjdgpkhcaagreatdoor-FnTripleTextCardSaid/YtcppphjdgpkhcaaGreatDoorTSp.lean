/- The iterator over the pieces of a text between commas: its contract, for every loop body. -/
import Derived.Test.YtcppphjdgpkhcaaGreatDoorTC
import Derived.Test.YtcppphjdgpkhcaaGreatDoorLaw
import Derived.Test.YtcppphjdgpkhcaaGreatDoorShelf
namespace Go.Proofs.YtcppphjdgpkhcaaGreatDoor
open Go.ChangeShapes Go.WideShapes Go.ChangeAt Go.RowKit Go.Shelf

set_option maxRecDepth 100000
attribute [local go_sem] Oper.semAt_some

/-- A word: a text of at most 1048576 bytes. -/
abbrev Wd := { x : ByteArray // x.size ≤ 1048576 }
def bytesW (x : Wd) : List UInt8 := x.1.data.toList
def encW (x : Wd) : Array Value := #[.string x.1]

/-- The length of the text in a cell: for the loop's measure. -/
def lenAt (W : World) (b : Nat) : Nat := match W.cell? ⟨b, 0, none⟩ with
  | some (.string r) => r.size
  | _ => 0
theorem lenAt_eq {W : World} {b : Nat} {r : ByteArray} (h : W.cell? ⟨b, 0, none⟩ = some (.string r)) : lenAt W b = r.size := by unfold lenAt; rw [h]

theorem piece_at {r : ByteArray} {o : Nat} (h : Lib.indexByte r.data.toList 44 = (o : Int)) :
    o < r.size ∧ cutC r.data.toList = (r.extract 0 o).data.toList :: cutC (r.extract (o + 1) r.size).data.toList := by
  obtain ⟨h1, h2⟩ := Lib.indexByte_some h
  have hlt : o < r.data.toList.length := (List.getElem?_eq_some_iff.1 h1).1
  have hsz : o < r.size := by show o < r.data.size; rw [← Array.length_toList]; exact hlt
  refine ⟨hsz, ?_⟩
  have e0 : r.data.toList = r.data.toList.take o ++ 44 :: r.data.toList.drop (o + 1) := by
    have : r.data.toList.drop o = 44 :: r.data.toList.drop (o + 1) := by
      rw [List.drop_eq_getElem_cons hlt]
      have := (List.getElem?_eq_some_iff.1 h1).2
      rw [this]
    rw [← this, List.take_append_drop]
  have e1 : (r.extract 0 o).data.toList = r.data.toList.take o := by rw [Lib.extract_data]; simp
  have e2 : (r.extract (o + 1) r.size).data.toList = r.data.toList.drop (o + 1) := Lib.extract_to_end r (o + 1)
  rw [e1, e2]
  have hn : (44 : UInt8) ∉ r.data.toList.take o := by
    intro hm
    obtain ⟨k, hk, he⟩ := List.getElem_of_mem hm
    rw [List.getElem_take] at he
    have hk' : k < o := by simp at hk; omega
    exact h2 k hk' (by rw [List.getElem?_eq_getElem (by omega), he])
  conv => lhs; rw [e0]
  exact cutC_at _ _ hn
theorem piece_last {r : ByteArray} (h : Lib.indexByte r.data.toList 44 = -1) : cutC r.data.toList = [r.data.toList] := by
  refine cutC_none _ (fun hm => ?_)
  obtain ⟨k, hk, he⟩ := List.getElem_of_mem hm
  exact Lib.indexByte_none h k (by rw [List.getElem?_eq_getElem hk, he])

set_option maxHeartbeats 2000000 in
theorem split_in (n : Nat) (hn : 1 ≤ n) (l bp bs bv : Nat) (t : ByteArray) (ht : t.size ≤ 1048576) (hps : bp ≠ bs) (hvs : bv ≠ bs) (J Jx : List Wd → World → Prop)
    (hJw : ∀ pre W1 v, J pre W1 → J pre (W1.setCell ⟨bs, 0, none⟩ v))
    (hY : ∀ pre x W, J pre W → pre.length < t.size + 1 → YieldAt Fence.wide (n - 1) Tryz.prog l (encW x) W fun e W' =>
      (e = .returned (.bool true) ∧ J (pre ++ [x]) W' ∧ Caps [bp, bs, bv] W W') ∨ (e = .returned (.bool false) ∧ Jx (pre ++ [x]) W'))
    (W : World) (hp : W.cell? ⟨bp, 0, none⟩ = some (.string ⟨#[44]⟩)) (hs : Boxed W bs 9 (.string t)) (hv : W.cell? ⟨bv, 0, none⟩ = some (.int .i64 0)) (hJ0 : J [] W) :
    CallsIn Fence.wide n Tryz.prog 214 #[.func (.yield l) #[] #[], .pointer (some ⟨bp, 0, none⟩), .pointer (some ⟨bs, 0, none⟩), .pointer (some ⟨bv, 0, none⟩)] W fun e W' => (∃ v, e = .returned v) ∧
      ((∃ ys, ys.map bytesW = cutC t.data.toList ∧ J ys W') ∨ (∃ pre, pre.map bytesW <+: cutC t.data.toList ∧ Jx pre W')) := by
  refine callsIn_of_wp Tryz.func214 rfl trivial ?_ rfl
  simp only [Tryz.ntmps214, List.size_toArray, List.length_cons, List.length_nil, Nat.reduceAdd, Nat.reduceSub, Array.replicate_succ, Array.replicate_zero, List.push_toArray, List.append_toArray, List.nil_append, List.cons_append]
  have hs0 := hs.cell
  gi_wp2_with fail
  gi_loopw [7] (fun _ wr => ∃ (pre : List Wd) (r : ByteArray), r.size ≤ 1048576 ∧ pre.map bytesW ++ cutC r.data.toList = cutC t.data.toList ∧ wr.cell? ⟨bp, 0, none⟩ = some (.string ⟨#[44]⟩) ∧ Boxed wr bs 9 (.string r) ∧ wr.cell? ⟨bv, 0, none⟩ = some (.int .i64 0) ∧ J pre wr) (fun _ wr => lenAt wr bs)
  case atStart => exact ⟨[], t, ht, rfl, hp, hs, hv, hJ0⟩
  case round =>
    obtain ⟨pre, r, hr, hcut, hp1, hs1, hv1, hJ⟩ := hrel
    have hsc := hs1.cell
    have hsf := hs1.frozen
    have hr1 : (r.size : Int) ≤ 1048576 := by omega
    have hlen : pre.length + (cutC r.data.toList).length ≤ t.size + 1 := by
      have h1 := congrArg List.length hcut
      rw [List.length_append, List.length_map] at h1
      have h2 := cutC_len t.data.toList
      have h3 : t.data.toList.length = t.size := by rw [Array.length_toList]; rfl
      omega
    have hpos : 0 < (cutC r.data.toList).length := List.length_pos_iff.2 (cutC_ne _)
    have HL := Lib.hid hlen
    have HP := Lib.hid hpos
    have HC := Lib.hid hcut
    clear hlen hpos hcut
    by_cases hm : Lib.indexByte r.data.toList 44 = -1
    · have HM := Lib.hid (piece_last hm)
      obtain ⟨fn, tmps, assign, body, hy, hR⟩ := hY pre ⟨r, hr⟩ wr hJ (by have := HL.out; have := HP.out; omega)
      dsimp only [encW] at hy
      gi_wp2_with (refine ⟨trivial, ?_⟩; gi_at_call 216; refine (callsIn_wide.2 (Tryz.strings_Index_one r 44 _)).mono ?_; rintro e w' ⟨rfl, rfl⟩)
      refine hR.mono ?_
      rintro e W3 (⟨rfl, hJ3, hk3⟩ | ⟨rfl, hJx3⟩)
      · gi_wp2
        go_end0
        exact ⟨⟨_, rfl⟩, .inl ⟨pre ++ [⟨r, hr⟩], by rw [List.map_append, ← HC.out, HM.out]; rfl, hJ3⟩⟩
      · gi_wp2
        go_end0
        exact ⟨⟨_, rfl⟩, .inr ⟨pre ++ [⟨r, hr⟩], ⟨[], by rw [List.append_nil, List.map_append, ← HC.out, HM.out]; rfl⟩, hJx3⟩⟩
    · obtain ⟨o, ho⟩ : ∃ o : Nat, Lib.indexByte r.data.toList 44 = (o : Int) := ⟨(Lib.indexByte r.data.toList 44).toNat, by have := Lib.indexByte_ge r.data.toList 44; omega⟩
      have hpa := piece_at ho
      have ho1 : (o : Int) < (r.size : Int) := by omega
      have HM := Lib.hid hpa.2
      have hx : (r.extract 0 o).size ≤ 1048576 := by rw [ByteArray.size_extract]; omega
      obtain ⟨fn, tmps, assign, body, hy, hR⟩ := hY pre ⟨r.extract 0 o, hx⟩ wr hJ (by have := HL.out; have := HP.out; omega)
      dsimp only [encW] at hy
      clear hm hpa
      gi_wp2_with (refine ⟨trivial, ?_⟩; gi_at_call 216; refine (callsIn_wide.2 (Tryz.strings_Index_one r 44 _)).mono ?_; rintro e w' ⟨rfl, rfl⟩)
      refine hR.mono ?_
      rintro e W3 (⟨rfl, hJ3, hk3⟩ | ⟨rfl, hJx3⟩)
      · have hs3 : Boxed W3 bs 9 (.string r) := (hk3 bs (by simp)).trans hs1
        have hp3 : W3.cell? ⟨bp, 0, none⟩ = some (.string ⟨#[44]⟩) := (World.cell?_of_block (w' := W3) (a := ⟨bp, 0, none⟩) (hk3 bp (by simp))).trans hp1
        have hv3 : W3.cell? ⟨bv, 0, none⟩ = some (.int .i64 0) := (World.cell?_of_block (w' := W3) (a := ⟨bv, 0, none⟩) (hk3 bv (by simp))).trans hv1
        have hc3 := hs3.cell
        have hf3 := hs3.frozen
        have HK := Lib.hid hk3
        clear hk3
        gi_wp2
        go_roundw
        case rel =>
          refine ⟨pre ++ [⟨r.extract 0 o, hx⟩], r.extract (o + 1) r.size, by rw [ByteArray.size_extract]; omega, by rw [List.map_append, List.append_assoc, ← HC.out, HM.out]; rfl, (World.cell?_setCell_other _ _ _ _ (by simp)).trans hp3, hs3.set _, (World.cell?_setCell_other _ _ _ _ (by simp)).trans hv3, hJw _ _ _ hJ3⟩
        case measure => rw [lenAt_eq (hs3.set _).cell, lenAt_eq hsc, ByteArray.size_extract]; omega
      · gi_wp2
        refine bodyPost_ret (results_none rfl _ _ _) rfl ?_
        exact ⟨⟨_, rfl⟩, .inr ⟨pre ++ [⟨r.extract 0 o, hx⟩], ⟨cutC (r.extract (o + 1) r.size).data.toList, by rw [List.map_append, List.append_assoc, ← HC.out, HM.out]; rfl⟩, hJx3⟩⟩
end Go.Proofs.YtcppphjdgpkhcaaGreatDoor

