/- The program's SequenceOf, ChoiceOf, LoopOf, IfOf. -/
import Derived.Test.YtemilnkglkpnjaaDoorN10
import Derived.Test.YtemilnkglkpnjaaDoorN11
import Derived.Test.YtemilnkglkpnjaaDoorT10

namespace Go.Proofs.YtemilnkglkpnjaaDoor
open Go.ChangeShapes Go.WideShapes Go.ChangeAt Go.RowKit Go.Shelf
attribute [local go_sem] Oper.semAt_some
set_option maxRecDepth 100000

theorem whole_pair (k : UInt8) (p q : ByteArray) : wholeT ⟨#[40]⟩ ⟨#[k]⟩ ⟨#[41]⟩ [p, q] = pairTx k p q := by
  apply list_inj
  unfold wholeT
  rw [pair_list, app_toList, app_toList, show (⟨#[40]⟩ : ByteArray).toList = [40] from ofL [40], show (⟨#[41]⟩ : ByteArray).toList = [41] from ofL [41], ofL, List.map_cons, Lib.join_cons]
  simp [Lib.joinTail, Lib.toList_data]
theorem whole_loop (p : ByteArray) : wholeT ⟨#[123]⟩ ⟨#[]⟩ ⟨#[125]⟩ [p] = loopTx p := by
  apply list_inj
  unfold wholeT
  rw [loop_list, app_toList, app_toList, show (⟨#[123]⟩ : ByteArray).toList = [123] from ofL [123], show (⟨#[125]⟩ : ByteArray).toList = [125] from ofL [125], ofL, List.map_cons, List.map_nil, Lib.join_one]
  simp [Lib.toList_data]

theorem pmade_two (k : UInt8) (p q : ByteArray) (W : World) {N : Nat} (hE : Laid3 N W) :
    Calls Tryd.prog 48 #[.string ⟨#[40]⟩, .string ⟨#[k]⟩, .string ⟨#[41]⟩, .slice (some ⟨W.heap.size, 0, none⟩) 2 2] (W.alloc (.cells #[.string p, .string q] 9)) fun e W' => e = .returned (madeV (pairTx k p q) [p, q]) ∧ Below W.heap.size W W' := by
  have hb : Below W.heap.size W (W.alloc (.cells #[.string p, .string q] 9)) := (Below.refl _ _).alloc (Nat.le_refl _) _
  have := pmade48 ⟨#[40]⟩ ⟨#[k]⟩ ⟨#[41]⟩ (by simp [ByteArray.size]) (by simp) (by simp [ByteArray.size]) [p, q] (by simp) (W.alloc (.cells #[.string p, .string q] 9)) W.heap.size 2 (by simp) (by simp) (fun i u hu => by
    match i, hu with
    | 0, hu => cases hu; rw [cell_of_row _ W.heap.size 0 _ 9 (0, 0) (heap_alloc_new W _)]; rfl
    | 1, hu => cases hu; rw [cell_of_row _ W.heap.size 1 _ 9 (0, 0) (heap_alloc_new W _)]; rfl
    | i + 2, hu => simp at hu) (hE.below hb hE.lt)
  rw [whole_pair] at this
  exact this.mono fun e W' ⟨h1, h2⟩ => ⟨h1, hb.trans (h2.mono hb.size)⟩
theorem pmade_one (p : ByteArray) (W : World) {N : Nat} (hE : Laid3 N W) :
    Calls Tryd.prog 48 #[.string ⟨#[123]⟩, .string ⟨#[]⟩, .string ⟨#[125]⟩, .slice (some ⟨W.heap.size, 0, none⟩) 1 1] (W.alloc (.cells #[.string p] 9)) fun e W' => e = .returned (madeV (loopTx p) [p]) ∧ Below W.heap.size W W' := by
  have hb : Below W.heap.size W (W.alloc (.cells #[.string p] 9)) := (Below.refl _ _).alloc (Nat.le_refl _) _
  have := pmade48 ⟨#[123]⟩ ⟨#[]⟩ ⟨#[125]⟩ (by simp [ByteArray.size]) (by simp) (by simp [ByteArray.size]) [p] (by simp) (W.alloc (.cells #[.string p] 9)) W.heap.size 1 (by simp) (by simp) (fun i u hu => by
    match i, hu with
    | 0, hu => cases hu; rw [cell_of_row _ W.heap.size 0 _ 9 (0, 0) (heap_alloc_new W _)]; rfl
    | i + 1, hu => simp at hu) (hE.below hb hE.lt)
  rw [whole_loop] at this
  exact this.mono fun e W' ⟨h1, h2⟩ => ⟨h1, hb.trans (h2.mono hb.size)⟩

theorem pseq26 (p q : ByteArray) (W : World) {N : Nat} (hE : Laid3 N W) :
    Calls Tryd.prog 26 #[.string p, .string q] W fun e W' => e = .returned (madeV (pairTx 59 p q) [p, q]) ∧ Below W.heap.size W W' := by
  have hm := pmade_two 59 p q W hE
  obtain ⟨s, b, hv⟩ := madeV_tuple (pairTx 59 p q) [p, q]
  rw [hv] at hm ⊢
  clear hv
  go_enter Tryd.func26, Tryd.ntmps26
  go_wp2_with (go_at_call 48; refine hm.mono ?_; rintro e W1 ⟨rfl, hb⟩)
  go_ret2
  exact ⟨rfl, hb⟩
theorem pchoice27 (p q : ByteArray) (W : World) {N : Nat} (hE : Laid3 N W) :
    Calls Tryd.prog 27 #[.string p, .string q] W fun e W' => e = .returned (madeV (pairTx 124 p q) [p, q]) ∧ Below W.heap.size W W' := by
  have hm := pmade_two 124 p q W hE
  obtain ⟨s, b, hv⟩ := madeV_tuple (pairTx 124 p q) [p, q]
  rw [hv] at hm ⊢
  clear hv
  go_enter Tryd.func27, Tryd.ntmps27
  go_wp2_with (go_at_call 48; refine hm.mono ?_; rintro e W1 ⟨rfl, hb⟩)
  go_ret2
  exact ⟨rfl, hb⟩
theorem ploop28 (p : ByteArray) (W : World) {N : Nat} (hE : Laid3 N W) :
    Calls Tryd.prog 28 #[.string p] W fun e W' => e = .returned (madeV (loopTx p) [p]) ∧ Below W.heap.size W W' := by
  have hm := pmade_one p W hE
  obtain ⟨s, b, hv⟩ := madeV_tuple (loopTx p) [p]
  rw [hv] at hm ⊢
  clear hv
  go_enter Tryd.func28, Tryd.ntmps28
  go_wp2_with (go_at_call 48; refine hm.mono ?_; rintro e W1 ⟨rfl, hb⟩)
  go_ret2
  exact ⟨rfl, hb⟩

theorem opp_nil {t : ByteArray} (h : isTest t = false) : oppL t = [] := by unfold oppL; rw [if_neg (by simp [h])]

set_option maxHeartbeats 2000000 in
theorem pif30 (t p q : ByteArray) (ht : t.size ≤ maxLen) (W : World) {N : Nat} (hE : Laid3 N W) :
    Calls Tryd.prog 30 #[.string t, .string p, .string q] W fun e W' => e = .returned (ifV t p q) ∧ Below W.heap.size W W' := by
  cases hO : oppL t with
  | nil =>
    have HO := Lib.hid hO
    rw [ifV_nil hO]
    clear hO
    go_enter Tryd.func30, Tryd.ntmps30
    go_wp2_with (go_at_call 51; refine (opp22 t ht _ hE.1).mono ?_; rintro e W1 ⟨v, rfl, ho, hb⟩; rw [HO.out] at ho; rcases ho.2 with ⟨rfl, _⟩ | ⟨g, cap, cur, rfl, _⟩ <;> clear ho)
    all_goals (go_ret2; exact ⟨rfl, hb⟩)
  | cons o r =>
    have hT : isTest t = true := by
      cases h : isTest t with
      | true => rfl
      | false => rw [opp_nil h] at hO; cases hO
    have htm : t.toList ∈ tests := mem_of hT
    have hmem : o ∈ tests := by
      have : o ∈ oppL t := by rw [hO]; exact List.mem_cons_self
      unfold oppL at this
      rw [if_pos hT] at this
      exact (List.mem_filter.1 this).1
    have hts : t.size = 3 := by
      have := tests_by3 _ htm
      rw [Lib.toList_data, Array.length_toList] at this; exact this
    have hos : (⟨o.toArray⟩ : ByteArray).size = 3 := by have := tests_by3 o hmem; simpa [ByteArray.size] using this
    have hol : o.length = 3 := tests_by3 o hmem
    have hlen : (oppL t).length ≤ 20 := by
      unfold oppL; rw [if_pos hT]; exact Nat.le_trans (List.length_filter_le _ _) (by rw [tests_len]; exact Nat.le_refl _)
    rw [hO] at hlen
    obtain ⟨n, hn⟩ : ∃ n, n = (o :: r).length := ⟨_, rfl⟩
    rw [← hn] at hlen
    have hn0 : 0 < n := by rw [hn]; simp
    have hnz : ¬ n = 0 := by omega
    have hw := if_made htm (show (⟨o.toArray⟩ : ByteArray).toList ∈ tests by rw [ofL]; exact hmem) p q
    rw [ifV_cons hO, ← hw]
    have h1 := fun (X : World) (hX : Laid3 N X) => pseq26 (⟨#[91]⟩ ++ t ++ ⟨#[93]⟩) p X hX
    have h2 := fun (X : World) (hX : Laid3 N X) => pseq26 (⟨#[91]⟩ ++ ⟨o.toArray⟩ ++ ⟨#[93]⟩) q X hX
    simp only [madeV_eq] at h1 h2
    obtain ⟨s1, hs1⟩ : ∃ s, s = madeT (pairTx 59 (⟨#[91]⟩ ++ t ++ ⟨#[93]⟩) p) [⟨#[91]⟩ ++ t ++ ⟨#[93]⟩, p] := ⟨_, rfl⟩
    obtain ⟨s2, hs2⟩ : ∃ s, s = madeT (pairTx 59 (⟨#[91]⟩ ++ ⟨o.toArray⟩ ++ ⟨#[93]⟩) q) [⟨#[91]⟩ ++ ⟨o.toArray⟩ ++ ⟨#[93]⟩, q] := ⟨_, rfl⟩
    rw [← hs1, ← hs2]
    simp only [← hs1] at h1
    simp only [← hs2] at h2
    obtain ⟨k1, hk1⟩ : ∃ k, k = madeOk (pairTx 59 (⟨#[91]⟩ ++ t ++ ⟨#[93]⟩) p) [⟨#[91]⟩ ++ t ++ ⟨#[93]⟩, p] := ⟨_, rfl⟩
    obtain ⟨k2, hk2⟩ : ∃ k, k = madeOk (pairTx 59 (⟨#[91]⟩ ++ ⟨o.toArray⟩ ++ ⟨#[93]⟩) q) [⟨#[91]⟩ ++ ⟨o.toArray⟩ ++ ⟨#[93]⟩, q] := ⟨_, rfl⟩
    simp only [← hk1] at h1
    simp only [← hk2] at h2
    have h3 := fun (X : World) (hX : Laid3 N X) => pchoice27 s1 s2 X hX
    obtain ⟨s, b, hv⟩ := madeV_tuple (pairTx 124 s1 s2) [s1, s2]
    rw [hv]
    simp only [hv] at h3
    have H := Lib.hid hT
    have HO := Lib.hid hO
    have HN := Lib.hid hn
    have H1 := Lib.hid h1
    have H2 := Lib.hid h2
    have H3 := Lib.hid h3
    have HE := Lib.hid hE
    have l1 : 1 + t.size ≤ 9223372036854775807 := by omega
    have l2 : 1 + t.size + 1 ≤ 9223372036854775807 := by omega
    have l3 : 1 + o.length ≤ 9223372036854775807 := by omega
    have l4 : 1 + o.length + 1 ≤ 9223372036854775807 := by omega
    clear hT hO hn h1 h2 h3 hw hs1 hs2 hk1 hk2 hv htm hmem hts hos hol hE
    go_enter Tryd.func30, Tryd.ntmps30
    go_wp2_with (first
      | (go_at_call 51; refine (opp22 t ht _ HE.out.1).mono ?_; rintro e W1 ⟨v, rfl, ho, hb⟩; rw [H.out]; rw [HO.out, ← HN.out] at ho; obtain ⟨g, cap, rfl, _, hgl, hcell⟩ := row_at ho hn0; have hc0 := hcell 0 _ rfl; have hE1 := Lib.hid (HE.out.below hb HE.out.lt); clear ho hcell)
      | (go_at_call_of 26 (Value.string p); refine (H1.out _ hE1.out).mono ?_; rintro e W2 ⟨rfl, hb2⟩; have hE2 := Lib.hid (hE1.out.below hb2 hE1.out.lt); have hc2 := (hb2.cell (p := ⟨g, 0, none⟩) hgl).trans hc0)
      | (go_at_call_of 26 (Value.string q); refine (H2.out _ hE2.out).mono ?_; rintro e W3 ⟨rfl, hb3⟩; have hE3 := Lib.hid (hE2.out.below hb3 hE2.out.lt))
      | (go_at_call 27; refine (H3.out _ hE3.out).mono ?_; rintro e W4 ⟨rfl, hb4⟩))
    go_ret2
    exact ⟨rfl, hb.trans ((hb2.trans ((hb3.trans (hb4.mono hb3.size)).mono hb2.size)).mono hb.size)⟩
end Go.Proofs.YtemilnkglkpnjaaDoor
