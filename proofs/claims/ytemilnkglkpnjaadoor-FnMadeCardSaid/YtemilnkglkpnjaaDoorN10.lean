/- The program's maker of programs: a program that is made of programs, with texts before, between and behind them. -/
import Derived.Test.YtemilnkglkpnjaaDoorN8
import Derived.Test.YtemilnkglkpnjaaDoorShelf
import Derived.Test.YtemilnkglkpnjaaDoorQ17
import Derived.Lib.Join

namespace Go.Proofs.YtemilnkglkpnjaaDoor
open Go.ChangeShapes Go.WideShapes Go.ChangeAt Go.RowKit Go.Shelf
attribute [local go_sem] Oper.semAt_some
set_option maxRecDepth 100000

/-- What is made: the parts with a text between them, and texts before and behind. -/
def wholeT (bf bt bh : ByteArray) (ts : List ByteArray) : ByteArray := bf ++ ⟨(Lib.join (ts.map (·.data.toList)) bt.data.toList).toArray⟩ ++ bh

theorem isP_len {t : ByteArray} (h : isP t.toList = true) : t.data.toList.length ≤ 60 := by
  unfold isP at h
  cases hP : readP t.toList with
  | none => rw [hP] at h; cases h
  | some nd =>
    have := (readP_iff.1 hP).2.2.1
    rw [Lib.toList_data] at this
    exact this
theorem join_len {bt : ByteArray} (hbt : bt.data.toList.length ≤ 1) {ts : List ByteArray} (hn : ts.length ≤ 2) (ha : (ts.all fun t => isP t.toList) = true) : (Lib.join (ts.map (·.data.toList)) bt.data.toList).length ≤ 200 := by
  match ts, hn, ha with
  | [], _, _ => simp [Lib.join_nil]
  | [a], _, ha =>
    have := isP_len (List.all_eq_true.1 ha a (by simp))
    rw [List.map_cons, List.map_nil, Lib.join_one]
    omega
  | [a, b], _, ha =>
    have h1 := isP_len (List.all_eq_true.1 ha a (by simp))
    have h2 := isP_len (List.all_eq_true.1 ha b (by simp))
    rw [List.map_cons, Lib.join_cons]
    simp only [List.length_append, Lib.joinTail, List.map_cons, List.map_nil, List.flatten_cons, List.flatten_nil, List.append_nil]
    omega
  | _ :: _ :: _ :: _, hn, _ => simp at hn

set_option maxHeartbeats 2000000 in
theorem pmade48 (bf bt bh : ByteArray) (hbf : bf.size ≤ 10) (hbt : bt.data.toList.length ≤ 1) (hbh : bh.size ≤ 10) (ts : List ByteArray) (hn : ts.length ≤ 2) (W : World) (g c : Nat) (hg : g < W.heap.size) (hcap : ts.length ≤ c)
    (hc : ∀ (i : Nat) t, ts[i]? = some t → W.cell? ⟨g, i, none⟩ = some (.string t)) {N : Nat} (hE : Laid3 N W) :
    Calls Tryd.prog 48 #[.string bf, .string bt, .string bh, .slice (some ⟨g, 0, none⟩) ts.length c] W fun e W' => e = .returned (madeV (wholeT bf bt bh ts) ts) ∧ Below W.heap.size W W' := by
  have HC := Lib.hid hc
  clear hc
  go_enter Tryd.func48, Tryd.ntmps48
  go_wp2
  go_loopw [15] (fun i wr => ∃ k : Nat, k ≤ ts.length ∧ i = .int .i64 k ∧ Below W.heap.size W wr ∧ ((ts.take k).all fun t => isP t.toList) = true) (fun i _ => ts.length - (intOf i).toNat)
  case atStart => exact ⟨0, by omega, rfl, Below.refl _ _, rfl⟩
  case round =>
    obtain ⟨k, hk, rfl, hB, ha⟩ := hrel
    have hEr := hE.below hB hE.lt
    by_cases hlt : k < ts.length
    · obtain ⟨p, hp⟩ : ∃ p, ts[k]? = some p := ⟨_, List.getElem?_eq_getElem hlt⟩
      have c1 : wr.cell? ⟨g, k, none⟩ = some (.string p) := (hB.cell (p := ⟨g, k, none⟩) hg).trans (HC.out k p hp)
      have HP := Lib.hid hp
      have HA := Lib.hid ha
      clear hp ha
      cases hv : isP p.toList with
      | true =>
        have HV := Lib.hid hv
        clear hv
        go_wp2_with (go_at_call 20; refine (pvalid20 p _ hEr).mono ?_; rintro e W1 ⟨rfl, hb⟩; rw [HV.out])
        go_roundw
        case rel => exact ⟨k + 1, by omega, by go_num, hB.trans (hb.mono hB.size), made_hit HP.out HV.out HA.out⟩
        case measure => simp [intOf]; omega
      | false =>
        have HV := Lib.hid hv
        clear hv
        have hm : madeV (wholeT bf bt bh ts) ts = .tuple #[.string ⟨#[]⟩, .bool false] := by unfold madeV; rw [made_miss HP.out HV.out]; rfl
        go_wp2_with (go_at_call 20; refine (pvalid20 p _ hEr).mono ?_; rintro e W1 ⟨rfl, hb⟩; rw [HV.out])
        go_ret2
        exact ⟨by rw [hm]; rfl, hB.trans (hb.mono hB.size)⟩
    · obtain rfl : k = ts.length := by omega
      rw [List.take_length] at ha
      have hjl := join_len hbt hn ha
      have HJ := Tryd.strings_Join g 0 c ts bt wr (fun j x hx => by rw [Nat.zero_add]; exact (hB.cell (p := ⟨g, j, none⟩) hg).trans (HC.out j x hx)) (Nat.lt_of_lt_of_le hg hB.size) (by omega) hcap (by omega)
      obtain ⟨J, hJ⟩ : ∃ J : List UInt8, J = Lib.join (ts.map (·.data.toList)) bt.data.toList := ⟨_, rfl⟩
      rw [← hJ] at hjl HJ
      have hwt : wholeT bf bt bh ts = bf ++ ⟨J.toArray⟩ ++ bh := by unfold wholeT; rw [hJ]
      have s1 : bf.size + J.length ≤ 9223372036854775807 := by omega
      have s2 : bf.size + J.length + bh.size ≤ 9223372036854775807 := by omega
      cases hv : isP (bf ++ ⟨J.toArray⟩ ++ bh : ByteArray).toList with
      | true =>
        have HV := Lib.hid hv
        have hm : madeV (wholeT bf bt bh ts) ts = .tuple #[.string (bf ++ ⟨J.toArray⟩ ++ bh), .bool true] := by
          have : madeOk (wholeT bf bt bh ts) ts = true := by unfold madeOk; rw [ha, hwt, hv]; rfl
          unfold madeV; rw [this, hwt]; rfl
        clear hv ha hJ hwt hjl
        go_wp2_with (first
          | (go_at_call 61; refine HJ.mono ?_; rintro e W1 ⟨rfl, hb⟩; have hEj := hEr.below hb hEr.lt)
          | (go_at_call 20; refine (pvalid20 _ _ hEj).mono ?_; rintro e W2 ⟨rfl, hb2⟩; rw [HV.out]))
        go_ret2
        exact ⟨by rw [hm]; rfl, hB.trans ((hb.trans (hb2.mono hb.size)).mono hB.size)⟩
      | false =>
        have HV := Lib.hid hv
        have hm : madeV (wholeT bf bt bh ts) ts = .tuple #[.string ⟨#[]⟩, .bool false] := by
          have : madeOk (wholeT bf bt bh ts) ts = false := by unfold madeOk; rw [hwt, hv]; simp
          unfold madeV; rw [this]; rfl
        clear hv ha hJ hwt hjl
        go_wp2_with (first
          | (go_at_call 61; refine HJ.mono ?_; rintro e W1 ⟨rfl, hb⟩; have hEj := hEr.below hb hEr.lt)
          | (go_at_call 20; refine (pvalid20 _ _ hEj).mono ?_; rintro e W2 ⟨rfl, hb2⟩; rw [HV.out]))
        go_ret2
        exact ⟨by rw [hm]; rfl, hB.trans ((hb.trans (hb2.mono hb.size)).mono hB.size)⟩
end Go.Proofs.YtemilnkglkpnjaaDoor
