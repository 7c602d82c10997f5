/- The model's IfOf. -/
import Derived.Test.YtemilnkglkpnjaaDoorQ16
import Derived.Test.YtemilnkglkpnjaaDoorT7
namespace Go.Proofs.YtemilnkglkpnjaaDoor
open Go.ChangeShapes Go.WideShapes Go.ChangeAt Go.RowKit Go.Shelf
attribute [local go_sem] Oper.semAt_some
set_option maxRecDepth 100000

/-- The whole of a choice by a test and its opposite. -/
def ifTx (t o p q : ByteArray) : ByteArray := ⟨#[40, 40, 91]⟩ ++ t ++ ⟨#[93, 59]⟩ ++ p ++ ⟨#[41, 124, 40, 91]⟩ ++ o ++ ⟨#[93, 59]⟩ ++ q ++ ⟨#[41, 41]⟩
/-- What IfOf answers. -/
def ifV (t p q : ByteArray) : Value :=
  match oppL t with
  | [] => .tuple #[.string ⟨#[]⟩, .bool false]
  | o :: _ => madeV (ifTx t ⟨o.toArray⟩ p q) [p, q]

theorem ifV_nil {t : ByteArray} (h : oppL t = []) (p q : ByteArray) : ifV t p q = .tuple #[.string ⟨#[]⟩, .bool false] := by unfold ifV; rw [h]
theorem ifV_cons {t : ByteArray} {o : List UInt8} {r : List (List UInt8)} (h : oppL t = o :: r) (p q : ByteArray) : ifV t p q = madeV (ifTx t ⟨o.toArray⟩ p q) [p, q] := by unfold ifV; rw [h]
theorem tests_by3 : ∀ p ∈ tests, p.length = 3 := by decide

set_option maxHeartbeats 1000000 in
theorem if34 (t p q : ByteArray) (hp : p.size ≤ 2000000) (hq : q.size ≤ 2000000) (W : World) :
    Calls Tryd.prog 34 #[.string t, .string p, .string q] W fun e W' => e = .returned (ifV t p q) ∧ Below W.heap.size W W' := by
  cases h : isTest t with
  | false =>
    have hw : oppL t = [] := by unfold oppL; rw [if_neg (by simp [h])]
    rw [ifV_nil hw]
    have H := Lib.hid h
    clear h hw
    go_enter Tryd.func34, Tryd.ntmps34
    go_wp2_with (go_at_call 53; refine (opp23 t _).mono ?_; rintro e W1 ⟨v, rfl, ho, hb⟩; rw [H.out]; clear ho)
    go_ret2
    exact ⟨rfl, hb⟩
  | true =>
    cases hO : oppL t with
    | nil =>
      rw [ifV_nil hO]
      have H := Lib.hid h
      have HO := Lib.hid hO
      clear h hO
      go_enter Tryd.func34, Tryd.ntmps34
      go_wp2_with (go_at_call 53; refine (opp23 t _).mono ?_; rintro e W1 ⟨v, rfl, ho, hb⟩; rw [H.out]; rw [HO.out] at ho; rcases ho.2 with ⟨rfl, _⟩ | ⟨g, cap, cur, rfl, _⟩ <;> clear ho)
      all_goals (go_ret2; exact ⟨rfl, hb⟩)
    | cons o r =>
      have hmem : o ∈ tests := by
        have : o ∈ oppL t := by rw [hO]; exact List.mem_cons_self
        unfold oppL at this
        rw [if_pos h] at this
        exact (List.mem_filter.1 this).1
      have hol : (⟨o.toArray⟩ : ByteArray).size = 3 := by have := tests_by3 o hmem; simpa [ByteArray.size] using this
      have htl : t.size = 3 := by
        have := tests_by3 _ (mem_of h)
        rw [Lib.toList_data, Array.length_toList] at this; exact this
      have hlen : (oppL t).length ≤ 20 := by
        unfold oppL; rw [if_pos h]; exact Nat.le_trans (List.length_filter_le _ _) (by rw [tests_len]; exact Nat.le_refl _)
      rw [hO] at hlen
      obtain ⟨n, hn⟩ : ∃ n, n = (o :: r).length := ⟨_, rfl⟩
      rw [← hn] at hlen
      have hn0 : 0 < n := by rw [hn]; simp
      rw [ifV_cons hO]
      have hs : (ifTx t ⟨o.toArray⟩ p q).size ≤ 9000000 := by
        have e : (ifTx t ⟨o.toArray⟩ p q).size = 3 + t.size + 2 + p.size + 4 + (⟨o.toArray⟩ : ByteArray).size + 2 + q.size + 2 := by unfold ifTx; simp only [ByteArray.size_append]; rfl
        omega
      have hm := made52two (ifTx t ⟨o.toArray⟩ p q) p q hs (by omega) (by omega)
      obtain ⟨s, b, hv⟩ := madeV_tuple (ifTx t ⟨o.toArray⟩ p q) [p, q]
      rw [hv]
      simp only [hv] at hm
      clear hv hs hmem
      unfold ifTx at hm
      have HM := Lib.hid hm
      have H := Lib.hid h
      have HO := Lib.hid hO
      have HN := Lib.hid hn
      clear h hO hm hn
      go_enter Tryd.func34, Tryd.ntmps34
      go_wp2_with (first
        | (go_at_call 53; refine (opp23 t _).mono ?_; rintro e W1 ⟨v, rfl, ho, hb⟩; rw [H.out]; rw [HO.out, ← HN.out] at ho; obtain ⟨g, cap, rfl, _, _, hcell⟩ := row_at ho hn0; have hc0 := hcell 0 _ rfl; clear ho hcell)
        | (go_at_call 52; refine (HM.out _ _).mono ?_; rintro e W2 ⟨rfl, hb2⟩))
      go_ret2
      exact ⟨rfl, hb.trans (hb2.mono hb.size)⟩
end Go.Proofs.YtemilnkglkpnjaaDoor

