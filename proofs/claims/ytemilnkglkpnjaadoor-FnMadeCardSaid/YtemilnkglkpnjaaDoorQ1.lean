/- The model's reader of programs: taking bytes, the atoms of two bytes. -/
import Derived.Test.YtemilnkglkpnjaaDoorTree

namespace Go.Proofs.YtemilnkglkpnjaaDoor
open Go.ChangeShapes Go.WideShapes Go.ChangeAt Go.RowKit Go.Shelf
attribute [local go_sem] Oper.semAt_some
set_option maxRecDepth 100000

/-- Block rb is a reader of the text t, at byte i; b: something was wrong. -/
def Rdr (W : World) (rb : Nat) (t : ByteArray) (i : Nat) (b : Bool) : Prop := W.heap[rb]? = some (.cells #[.string t, .int .i64 (i : Int), .bool b] 84 (0, 0))
theorem Rdr.lt {W : World} {rb : Nat} {t : ByteArray} {i : Nat} {b : Bool} (h : Rdr W rb t i b) : rb < W.heap.size := (Array.getElem?_eq_some_iff.1 h).1
theorem Rdr.cells {W : World} {rb : Nat} {t : ByteArray} {i : Nat} {b : Bool} (h : Rdr W rb t i b) :
    W.cell? ⟨rb, 0, none⟩ = some (.string t) ∧ W.cell? ⟨rb, 1, none⟩ = some (.int .i64 (i : Int)) ∧ W.cell? ⟨rb, 2, none⟩ = some (.bool b) ∧ W.frozen? ⟨rb, 1, none⟩ = false ∧ W.frozen? ⟨rb, 2, none⟩ = false := by
  unfold Rdr at h
  exact ⟨by simp [World.cell?, h], by simp [World.cell?, h], by simp [World.cell?, h], by simp [World.frozen?, h], by simp [World.frozen?, h]⟩
theorem Rdr.at {W : World} {rb : Nat} {t : ByteArray} {i : Nat} {b : Bool} (h : Rdr W rb t i b) (j : Nat) :
    Rdr (W.setCell ⟨rb, 1, none⟩ (.int .i64 (j : Int))) rb t j b ∧ W.grownBy (W.setCell ⟨rb, 1, none⟩ (.int .i64 (j : Int))) (some rb) := by
  refine ⟨?_, ⟨rfl, rfl, rfl, by simp, fun k _ hk => heap_setCell_other W ⟨rb, 1, none⟩ k _ (fun e => hk (by simp [e]))⟩⟩
  unfold Rdr at *
  rw [heap_setCell_same W rb 1 _ 84 _ h]
  rfl
theorem Rdr.bad {W : World} {rb : Nat} {t : ByteArray} {i : Nat} {b : Bool} (h : Rdr W rb t i b) (c : Bool) :
    Rdr (W.setCell ⟨rb, 2, none⟩ (.bool c)) rb t i c ∧ W.grownBy (W.setCell ⟨rb, 2, none⟩ (.bool c)) (some rb) := by
  refine ⟨?_, ⟨rfl, rfl, rfl, by simp, fun k _ hk => heap_setCell_other W ⟨rb, 2, none⟩ k _ (fun e => hk (by simp [e]))⟩⟩
  unfold Rdr at *
  rw [heap_setCell_same W rb 2 _ 84 _ h]
  rfl
theorem Rdr.drew {W : World} {rb : Nat} {t : ByteArray} {i : Nat} {b : Bool} (h : Rdr W rb t i b) : Rdr W.drew rb t i b := h
theorem Rdr.step {W : World} {rb : Nat} {t : ByteArray} {i n : Nat} {b : Bool} (h : Rdr W rb t i b) :
    Rdr (W.setCell ⟨rb, 1, none⟩ (.int .i64 ((i : Int) + (n : Int)))) rb t (i + n) b ∧ W.grownBy (W.setCell ⟨rb, 1, none⟩ (.int .i64 ((i : Int) + (n : Int)))) (some rb) := by
  have := h.at (i + n)
  rw [Int.natCast_add] at this
  exact this
theorem drewN_grown (n : Nat) (W : World) (row : Option Nat) : W.grownBy (W.drewN n) row := ⟨rfl, rfl, rfl, Nat.le_refl _, fun _ _ _ => rfl⟩

set_option maxHeartbeats 1000000 in
theorem take_ok (t : ByteArray) (ht : t.size ≤ 9000000) (rb i n : Nat) (b : Bool) (hn : n ≤ 3) (hi : i + n ≤ t.size) (W : World) (h : Rdr W rb t i b) :
    Calls Tryd.prog 86 #[.pointer (some ⟨rb, 0, none⟩), .int .i64 (n : Int)] W fun e W' => e = .returned (.string (t.extract i (i + n))) ∧ Rdr W' rb t (i + n) b ∧ W.grownBy W' (some rb) := by
  obtain ⟨c0, c1, c2, f1, f2⟩ := h.cells
  have i1 : (i : Int) + (n : Int) ≤ (t.size : Int) := by omega
  have i2 : (t.size : Int) ≤ 9000000 := by omega
  have i0 : (0 : Int) ≤ (i : Int) := by omega
  have n0 : (0 : Int) ≤ (n : Int) := by omega
  have HR := Lib.hid h
  go_enter Tryd.func86, Tryd.ntmps86
  go_wp2_with fail
  go_quiet (fail)
  have HS := Lib.hid (Rdr.step (W := W.drewN nq) (n := n) (show Rdr (W.drewN nq) rb t i b from HR.out))
  go_wp2_with fail
  obtain ⟨U, hU⟩ : ∃ U, U = (W.drewN nq).setCell ⟨rb, 1, none⟩ (.int .i64 ((i : Int) + (n : Int))) := ⟨_, rfl⟩
  have HS1 := HS.out.1
  have HS2 := Lib.hid (grown_trans (drewN_grown nq W (some rb)) HS.out.2)
  rw [← hU] at HS1 HS2 ⊢
  clear HS hU c0 c1 c2 f1 f2
  obtain ⟨d0, d1, d2, g1, g2⟩ := HS1.cells
  rw [Int.natCast_add] at d1
  have i3 : (i : Int) ≤ (i : Int) + (n : Int) := by omega
  have i4 : (0 : Int) ≤ (i : Int) + (n : Int) := by omega
  have tn : ((i : Int) + (n : Int)).toNat = i + n := by omega
  have wi : IntKind.i64.wrap (i : Int) = (i : Int) := IntWalk.i64_in _ (by omega)
  have HS3 := Lib.hid HS1
  clear HS1
  go_quiet (fail)
  go_wp2
  go_ret
  exact ⟨rfl, HS3.out, grown_trans HS2.out (drewN_grown _ _ _)⟩

set_option maxHeartbeats 1000000 in
theorem take_bad (t : ByteArray) (ht : t.size ≤ 9000000) (rb i n : Nat) (b : Bool) (hn : n ≤ 3) (hle : i ≤ t.size) (hi : t.size < i + n) (W : World) (h : Rdr W rb t i b) :
    Calls Tryd.prog 86 #[.pointer (some ⟨rb, 0, none⟩), .int .i64 (n : Int)] W fun e W' => e = .returned (.string ⟨#[]⟩) ∧ Rdr W' rb t i true ∧ W.grownBy W' (some rb) := by
  obtain ⟨c0, c1, c2, f1, f2⟩ := h.cells
  have i1 : (t.size : Int) < (i : Int) + (n : Int) := by omega
  have i2 : (t.size : Int) ≤ 9000000 := by omega
  have i5 : (i : Int) ≤ (t.size : Int) := by omega
  have i0 : (0 : Int) ≤ (i : Int) := by omega
  have n0 : (0 : Int) ≤ (n : Int) := by omega
  have n3 : (n : Int) ≤ 3 := by omega
  have HR := Lib.hid h
  clear h
  go_enter Tryd.func86, Tryd.ntmps86
  go_wp2_with fail
  go_quiet (fail)
  have HS := Lib.hid (Rdr.bad (W := W.drewN nq) (show Rdr (W.drewN nq) rb t i b from HR.out) true)
  go_wp2
  go_ret
  exact ⟨rfl, HS.out.1, grown_trans (drewN_grown nq W (some rb)) HS.out.2⟩

def twosText : ByteArray := ⟨([120, 48, 32, 120, 49, 32, 120, 50, 32, 120, 121, 32, 120, 43, 32, 120, 63, 32, 121, 48, 32, 121, 49, 32, 121, 50, 32, 121, 120, 32, 121, 43, 32, 121, 63] : List UInt8).toArray⟩
theorem cut_twos : cutL twosText.data.toList = twos := by decide +kernel
theorem twos_len : twos.length = 12 := by decide
theorem twos_some (k : Nat) (hk : k < 12) : ∃ p, twos[k]? = some p := ⟨_, List.getElem?_eq_getElem (by rw [twos_len]; exact hk)⟩

set_option maxHeartbeats 1000000 in
theorem two79 (t : ByteArray) (w : World) :
    Calls Tryd.prog 87 #[.string t] w fun e w' => e = .returned (.bool (decide (t.toList ∈ twos))) ∧ Below w.heap.size w w' := by
  go_enter Tryd.func87, Tryd.ntmps87
  go_wp2_with (go_at_call 82; refine (cut23 twosText (by decide) _).mono ?_; rintro e W1 ⟨v, rfl, hown, hb⟩; rw [cut_twos] at hown; obtain ⟨g, cap, rfl, hgl, hcells⟩ := texts_at hown (by decide); have HC := Lib.hid hcells; clear hcells; rw [show twos.length = 12 from rfl])
  go_loopw [7] (fun i wr => ∃ k : Nat, k ≤ 12 ∧ i = .int .i64 k ∧ (∀ j p, j < k → twos[j]? = some p → p ≠ t.toList) ∧ wr = W1) (fun i _ => 12 - (intOf i).toNat)
  case atStart => exact ⟨0, by omega, rfl, fun j p hj => by omega, rfl⟩
  case round =>
    obtain ⟨k, hk, rfl, hno, rfl⟩ := hrel
    have HN := Lib.hid hno
    clear hno
    by_cases hlt : k < 12
    · obtain ⟨p, hp⟩ := twos_some k hlt
      have c1 := HC.out k p hp
      have HP := Lib.hid hp
      clear hp
      by_cases hq : p = t.toList
      · have he : (p == t.toList) = true := by simpa using hq
        have HQ := Lib.hid hq
        clear hq
        go_wp2
        go_ret
        exact ⟨by rw [show decide (t.toList ∈ twos) = true from decide_eq_true (by rw [← HQ.out]; exact List.mem_of_getElem? HP.out)]; rfl, hb⟩
      · have he : (p == t.toList) = false := by simpa using hq
        have HQ := Lib.hid hq
        clear hq
        go_wp2
        go_roundw
        case rel =>
          exact ⟨k + 1, by omega, by go_num, fun j q hj hjq => by
            by_cases e : j = k
            · subst e; rw [HP.out] at hjq; cases hjq; exact HQ.out
            · exact HN.out j q (by omega) hjq, trivial⟩
        case measure => simp [intOf]; omega
    · obtain rfl : k = 12 := by omega
      go_wp2
      go_ret
      exact ⟨by rw [show decide (t.toList ∈ twos) = false from decide_eq_false (fun hm => by
        obtain ⟨j, hj, e⟩ := List.getElem_of_mem hm
        exact HN.out j _ hj (by rw [List.getElem?_eq_getElem hj]) e)]; rfl, hb⟩
end Go.Proofs.YtemilnkglkpnjaaDoor

