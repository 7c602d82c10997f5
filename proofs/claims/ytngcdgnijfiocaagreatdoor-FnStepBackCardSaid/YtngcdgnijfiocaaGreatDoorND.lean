/- The program's maker of programs: a program that is made of programs, with texts before, between and behind them. Programs and their texts: a text is that of one program alone; what is made of programs. No program of Go in it. The program's SequenceOf, ChoiceOf, LoopOf, IfOf. -/
import Derived.Test.YtngcdgnijfiocaaGreatDoorNB
import Derived.Test.YtngcdgnijfiocaaGreatDoorShelf
import Derived.Test.YtngcdgnijfiocaaGreatDoorQC
import Derived.Test.YtngcdgnijfiocaaGreatDoorA3
import Derived.Lib.Join
namespace Go.Proofs.YtngcdgnijfiocaaGreatDoor
open Go.ChangeShapes Go.WideShapes Go.ChangeAt Go.RowKit Go.Shelf
attribute [local go_sem] Oper.semAt_some
set_option maxRecDepth 100000

/-- What is made: the parts with a text between them, and texts before and behind. -/
def wholeT (bf bt bh : ByteArray) (ts : List ByteArray) : ByteArray := bf ++ ⟨(Lib.join (ts.map (·.data.toList)) bt.data.toList).toArray⟩ ++ bh

theorem isP_len {t : ByteArray} (h : isP t.toList = true) : t.data.toList.length ≤ 60 := by
  unfold isP at h
  cases hP : readP t.toList with
  | none => rw [hP] at h; cases h
  | some nd =>
    have := (readP_iff.1 hP).2.2.1
    rw [Lib.toList_data] at this
    exact this
theorem join_len {bt : ByteArray} (hbt : bt.data.toList.length ≤ 1) {ts : List ByteArray} (hn : ts.length ≤ 2) (ha : (ts.all fun t => isP t.toList) = true) : (Lib.join (ts.map (·.data.toList)) bt.data.toList).length ≤ 200 := by
  match ts, hn, ha with
  | [], _, _ => simp [Lib.join_nil]
  | [a], _, ha =>
    have := isP_len (List.all_eq_true.1 ha a (by simp))
    rw [List.map_cons, List.map_nil, Lib.join_one]
    omega
  | [a, b], _, ha =>
    have h1 := isP_len (List.all_eq_true.1 ha a (by simp))
    have h2 := isP_len (List.all_eq_true.1 ha b (by simp))
    rw [List.map_cons, Lib.join_cons]
    simp only [List.length_append, Lib.joinTail, List.map_cons, List.map_nil, List.flatten_cons, List.flatten_nil, List.append_nil]
    omega
  | _ :: _ :: _ :: _, hn, _ => simp at hn

set_option maxHeartbeats 2000000 in
theorem pmade48 (bf bt bh : ByteArray) (hbf : bf.size ≤ 10) (hbt : bt.data.toList.length ≤ 1) (hbh : bh.size ≤ 10) (ts : List ByteArray) (hn : ts.length ≤ 2) (W : World) (g c : Nat) (hg : g < W.heap.size) (hcap : ts.length ≤ c)
    (hc : ∀ (i : Nat) t, ts[i]? = some t → W.cell? ⟨g, i, none⟩ = some (.string t)) {N : Nat} (hE : Laid3 N W) :
    Calls Tryz.prog 66 #[.string bf, .string bt, .string bh, .slice (some ⟨g, 0, none⟩) ts.length c] W fun e W' => e = .returned (madeV (wholeT bf bt bh ts) ts) ∧ Below W.heap.size W W' := by
  have HC := Lib.hid hc
  clear hc
  go_enter Tryz.func66, Tryz.ntmps66
  go_wp2
  go_loopw [15] (fun i wr => ∃ k : Nat, k ≤ ts.length ∧ i = .int .i64 k ∧ Below W.heap.size W wr ∧ ((ts.take k).all fun t => isP t.toList) = true) (fun i _ => ts.length - (intOf i).toNat)
  case atStart => exact ⟨0, by omega, rfl, Below.refl _ _, rfl⟩
  case round =>
    obtain ⟨k, hk, rfl, hB, ha⟩ := hrel
    have hEr := hE.below hB hE.lt
    by_cases hlt : k < ts.length
    · obtain ⟨p, hp⟩ : ∃ p, ts[k]? = some p := ⟨_, List.getElem?_eq_getElem hlt⟩
      have c1 : wr.cell? ⟨g, k, none⟩ = some (.string p) := (hB.cell (p := ⟨g, k, none⟩) hg).trans (HC.out k p hp)
      have HP := Lib.hid hp
      have HA := Lib.hid ha
      clear hp ha
      cases hv : isP p.toList with
      | true =>
        have HV := Lib.hid hv
        clear hv
        go_wp2_with (go_at_call 54; refine (pvalid20 p _ hEr).mono ?_; rintro e W1 ⟨rfl, hb⟩; rw [HV.out])
        go_roundw
        case rel => exact ⟨k + 1, by omega, by go_num, hB.trans (hb.mono hB.size), made_hit HP.out HV.out HA.out⟩
        case measure => simp [intOf]; omega
      | false =>
        have HV := Lib.hid hv
        clear hv
        have hm : madeV (wholeT bf bt bh ts) ts = .tuple #[.string ⟨#[]⟩, .bool false] := by unfold madeV; rw [made_miss HP.out HV.out]; rfl
        go_wp2_with (go_at_call 54; refine (pvalid20 p _ hEr).mono ?_; rintro e W1 ⟨rfl, hb⟩; rw [HV.out])
        go_ret2
        exact ⟨by rw [hm]; rfl, hB.trans (hb.mono hB.size)⟩
    · obtain rfl : k = ts.length := by omega
      rw [List.take_length] at ha
      have hjl := join_len hbt hn ha
      have HJ := Tryz.strings_Join g 0 c ts bt wr (fun j x hx => by rw [Nat.zero_add]; exact (hB.cell (p := ⟨g, j, none⟩) hg).trans (HC.out j x hx)) (Nat.lt_of_lt_of_le hg hB.size) (by omega) hcap (by omega)
      obtain ⟨J, hJ⟩ : ∃ J : List UInt8, J = Lib.join (ts.map (·.data.toList)) bt.data.toList := ⟨_, rfl⟩
      rw [← hJ] at hjl HJ
      have hwt : wholeT bf bt bh ts = bf ++ ⟨J.toArray⟩ ++ bh := by unfold wholeT; rw [hJ]
      have s1 : bf.size + J.length ≤ 9223372036854775807 := by omega
      have s2 : bf.size + J.length + bh.size ≤ 9223372036854775807 := by omega
      cases hv : isP (bf ++ ⟨J.toArray⟩ ++ bh : ByteArray).toList with
      | true =>
        have HV := Lib.hid hv
        have hm : madeV (wholeT bf bt bh ts) ts = .tuple #[.string (bf ++ ⟨J.toArray⟩ ++ bh), .bool true] := by
          have : madeOk (wholeT bf bt bh ts) ts = true := by unfold madeOk; rw [ha, hwt, hv]; rfl
          unfold madeV; rw [this, hwt]; rfl
        clear hv ha hJ hwt hjl
        go_wp2_with (first
          | (go_at_call 95; refine HJ.mono ?_; rintro e W1 ⟨rfl, hb⟩; have hEj := hEr.below hb hEr.lt)
          | (go_at_call 54; refine (pvalid20 _ _ hEj).mono ?_; rintro e W2 ⟨rfl, hb2⟩; rw [HV.out]))
        go_ret2
        exact ⟨by rw [hm]; rfl, hB.trans ((hb.trans (hb2.mono hb.size)).mono hB.size)⟩
      | false =>
        have HV := Lib.hid hv
        have hm : madeV (wholeT bf bt bh ts) ts = .tuple #[.string ⟨#[]⟩, .bool false] := by
          have : madeOk (wholeT bf bt bh ts) ts = false := by unfold madeOk; rw [hwt, hv]; simp
          unfold madeV; rw [this]; rfl
        clear hv ha hJ hwt hjl
        go_wp2_with (first
          | (go_at_call 95; refine HJ.mono ?_; rintro e W1 ⟨rfl, hb⟩; have hEj := hEr.below hb hEr.lt)
          | (go_at_call 54; refine (pvalid20 _ _ hEj).mono ?_; rintro e W2 ⟨rfl, hb2⟩; rw [HV.out]))
        go_ret2
        exact ⟨by rw [hm]; rfl, hB.trans ((hb.trans (hb2.mono hb.size)).mono hB.size)⟩
end Go.Proofs.YtngcdgnijfiocaaGreatDoor

namespace Go.Proofs.YtngcdgnijfiocaaGreatDoor
set_option maxRecDepth 100000

theorem text_inj {a b : Node} (ha : a.ok) (hb : b.ok) (h : a.text = b.text) : a = b := by
  have h1 := rd_ok a ha a.text.length [] (Nat.le_refl _)
  have h2 := rd_ok b hb a.text.length [] (by rw [h]; exact Nat.le_refl _)
  rw [List.append_nil] at h1 h2
  rw [h] at h1
  rw [h] at h2
  rw [h1] at h2
  cases h2
  rfl
theorem isP_iff {l : List UInt8} : isP l = true ↔ ∃ nd : Node, nd.ok ∧ l = nd.text ∧ l.length ≤ 60 ∧ nd.loops ≤ 6 := by
  unfold isP
  constructor
  · intro h
    cases hP : readP l with
    | none => rw [hP] at h; cases h
    | some nd => exact ⟨nd, readP_iff.1 hP⟩
  · rintro ⟨nd, h⟩
    rw [readP_iff.2 h]
    rfl
theorem isP_text {nd : Node} (hok : nd.ok) : isP nd.text = true ↔ nd.text.length ≤ 60 ∧ nd.loops ≤ 6 := by
  rw [isP_iff]
  constructor
  · rintro ⟨b, hb, ht, h1, h2⟩
    rw [text_inj hok hb ht]
    rw [text_inj hok hb ht] at h1
    exact ⟨h1, h2⟩
  · rintro ⟨h1, h2⟩
    exact ⟨nd, hok, rfl, h1, h2⟩
theorem isP_nil : isP [] = false := by
  cases h : isP [] with
  | false => rfl
  | true =>
    obtain ⟨nd, hok, ht, _⟩ := isP_iff.1 h
    have := text_pos nd hok
    rw [← ht] at this
    simp at this
theorem test_ok {t : List UInt8} (h : t ∈ tests) : (Node.atom (91 :: (t ++ [93]))).ok := .inr (.inr (.inr ⟨t, h, rfl⟩))

/-- A text and its list of bytes. -/
theorem ofL (l : List UInt8) : (⟨l.toArray⟩ : ByteArray).toList = l := by rw [Lib.toList_data]
theorem list_inj {a b : ByteArray} (h : a.toList = b.toList) : a = b := by
  rw [Lib.toList_data, Lib.toList_data] at h
  apply ByteArray.ext
  exact Array.toList_inj.1 h
theorem app_toList (a b : ByteArray) : (a ++ b).toList = a.toList ++ b.toList := by
  rw [Lib.toList_data, Lib.toList_data, Lib.toList_data, ByteArray.data_append, Array.toList_append]
theorem pair_list (k : UInt8) (p q : ByteArray) : (pairTx k p q).toList = 40 :: (p.toList ++ k :: (q.toList ++ [41])) := by
  unfold pairTx
  simp only [app_toList]
  rw [show (⟨#[40]⟩ : ByteArray).toList = [40] from ofL [40], show (⟨#[k]⟩ : ByteArray).toList = [k] from ofL [k], show (⟨#[41]⟩ : ByteArray).toList = [41] from ofL [41]]
  simp
theorem loop_list (p : ByteArray) : (loopTx p).toList = 123 :: (p.toList ++ [125]) := by
  unfold loopTx
  simp only [app_toList]
  rw [show (⟨#[123]⟩ : ByteArray).toList = [123] from ofL [123], show (⟨#[125]⟩ : ByteArray).toList = [125] from ofL [125]]
  simp
theorem if_list (t o p q : ByteArray) : (ifTx t o p q).toList = 40 :: ((40 :: ((91 :: (t.toList ++ [93])) ++ 59 :: (p.toList ++ [41]))) ++ 124 :: ((40 :: ((91 :: (o.toList ++ [93])) ++ 59 :: (q.toList ++ [41]))) ++ [41])) := by
  unfold ifTx
  simp only [app_toList]
  rw [show (⟨#[40, 40, 91]⟩ : ByteArray).toList = [40, 40, 91] from ofL _, show (⟨#[93, 59]⟩ : ByteArray).toList = [93, 59] from ofL _, show (⟨#[41, 124, 40, 91]⟩ : ByteArray).toList = [41, 124, 40, 91] from ofL _, show (⟨#[41, 41]⟩ : ByteArray).toList = [41, 41] from ofL _]
  simp
theorem sq_list (t : ByteArray) : (⟨#[91]⟩ ++ t ++ ⟨#[93]⟩ : ByteArray).toList = 91 :: (t.toList ++ [93]) := by
  simp only [app_toList]
  rw [show (⟨#[91]⟩ : ByteArray).toList = [91] from ofL _, show (⟨#[93]⟩ : ByteArray).toList = [93] from ofL _]
  simp

/-- What a maker answers: the text, or none. -/
def madeT (out : ByteArray) (ts : List ByteArray) : ByteArray := if madeOk out ts then out else ⟨#[]⟩
theorem madeV_eq (out : ByteArray) (ts : List ByteArray) : madeV out ts = .tuple #[.string (madeT out ts), .bool (madeOk out ts)] := rfl
theorem madeOk_two {out p q : ByteArray} : madeOk out [p, q] = (isP p.toList && isP q.toList && isP out.toList) := by
  unfold madeOk
  simp [Bool.and_assoc]

/-- A choice of two sequences that begin with tests is a program just where what comes behind the tests, and the whole, are such. -/
theorem if_made {t o : ByteArray} (ht : t.toList ∈ tests) (ho : o.toList ∈ tests) (p q : ByteArray) :
    madeV (pairTx 124 (madeT (pairTx 59 (⟨#[91]⟩ ++ t ++ ⟨#[93]⟩) p) [⟨#[91]⟩ ++ t ++ ⟨#[93]⟩, p]) (madeT (pairTx 59 (⟨#[91]⟩ ++ o ++ ⟨#[93]⟩) q) [⟨#[91]⟩ ++ o ++ ⟨#[93]⟩, q])) [madeT (pairTx 59 (⟨#[91]⟩ ++ t ++ ⟨#[93]⟩) p) [⟨#[91]⟩ ++ t ++ ⟨#[93]⟩, p], madeT (pairTx 59 (⟨#[91]⟩ ++ o ++ ⟨#[93]⟩) q) [⟨#[91]⟩ ++ o ++ ⟨#[93]⟩, q]]
      = madeV (ifTx t o p q) [p, q] := by
  have hnil : (⟨#[]⟩ : ByteArray).toList = [] := ofL []
  have ha := test_ok ht
  have hb := test_ok ho
  obtain ⟨a1, a2, a3, hta⟩ := test_three ht
  obtain ⟨b1, b2, b3, htb⟩ := test_three ho
  by_cases hp : isP p.toList = true
  · by_cases hq : isP q.toList = true
    · obtain ⟨np, hnp, htp, hlp, hop⟩ := isP_iff.1 hp
      obtain ⟨nq, hnq, htq, hlq, hoq⟩ := isP_iff.1 hq
      have hs1 : (pairTx 59 (⟨#[91]⟩ ++ t ++ ⟨#[93]⟩) p).toList = (Node.pair 59 (.atom (91 :: (t.toList ++ [93]))) np).text := by
        rw [pair_list, sq_list, htp]; rfl
      have hs2 : (pairTx 59 (⟨#[91]⟩ ++ o ++ ⟨#[93]⟩) q).toList = (Node.pair 59 (.atom (91 :: (o.toList ++ [93]))) nq).text := by
        rw [pair_list, sq_list, htq]; rfl
      have hok1 : (Node.pair 59 (.atom (91 :: (t.toList ++ [93]))) np).ok := ⟨.inl rfl, ha, hnp⟩
      have hok2 : (Node.pair 59 (.atom (91 :: (o.toList ++ [93]))) nq).ok := ⟨.inl rfl, hb, hnq⟩
      have hw : (ifTx t o p q).toList = (Node.pair 124 (.pair 59 (.atom (91 :: (t.toList ++ [93]))) np) (.pair 59 (.atom (91 :: (o.toList ++ [93]))) nq)).text := by
        rw [if_list, htp, htq]; rfl
      have hokw : (Node.pair 124 (.pair 59 (.atom (91 :: (t.toList ++ [93]))) np) (.pair 59 (.atom (91 :: (o.toList ++ [93]))) nq)).ok := ⟨.inr rfl, hok1, hok2⟩
      have hc1 : isP (⟨#[91]⟩ ++ t ++ ⟨#[93]⟩ : ByteArray).toList = true := by
        rw [sq_list]
        exact (isP_text ha).2 ⟨by rw [hta]; simp [Node.text], by simp [Node.loops]⟩
      have hc2 : isP (⟨#[91]⟩ ++ o ++ ⟨#[93]⟩ : ByteArray).toList = true := by
        rw [sq_list]
        exact (isP_text hb).2 ⟨by rw [htb]; simp [Node.text], by simp [Node.loops]⟩
      have hm1 : madeOk (pairTx 59 (⟨#[91]⟩ ++ t ++ ⟨#[93]⟩) p) [⟨#[91]⟩ ++ t ++ ⟨#[93]⟩, p] = isP (pairTx 59 (⟨#[91]⟩ ++ t ++ ⟨#[93]⟩) p).toList := by rw [madeOk_two, hc1, hp]; simp
      have hm2 : madeOk (pairTx 59 (⟨#[91]⟩ ++ o ++ ⟨#[93]⟩) q) [⟨#[91]⟩ ++ o ++ ⟨#[93]⟩, q] = isP (pairTx 59 (⟨#[91]⟩ ++ o ++ ⟨#[93]⟩) q).toList := by rw [madeOk_two, hc2, hq]; simp
      have hmw : madeOk (ifTx t o p q) [p, q] = isP (ifTx t o p q).toList := by rw [madeOk_two, hp, hq]; simp
      by_cases hW : isP (ifTx t o p q).toList = true
      · rw [hw] at hW
        obtain ⟨hl, hlo⟩ := (isP_text hokw).1 hW
        have e1 : isP (pairTx 59 (⟨#[91]⟩ ++ t ++ ⟨#[93]⟩) p).toList = true := by
          rw [hs1]
          refine (isP_text hok1).2 ⟨?_, ?_⟩
          · simp [Node.text] at hl ⊢; omega
          · simp [Node.loops] at hlo ⊢; omega
        have e2 : isP (pairTx 59 (⟨#[91]⟩ ++ o ++ ⟨#[93]⟩) q).toList = true := by
          rw [hs2]
          refine (isP_text hok2).2 ⟨?_, ?_⟩
          · simp [Node.text] at hl ⊢; omega
          · simp [Node.loops] at hlo ⊢; omega
        have ht1 : madeT (pairTx 59 (⟨#[91]⟩ ++ t ++ ⟨#[93]⟩) p) [⟨#[91]⟩ ++ t ++ ⟨#[93]⟩, p] = pairTx 59 (⟨#[91]⟩ ++ t ++ ⟨#[93]⟩) p := by unfold madeT; rw [hm1, e1]; rfl
        have ht2 : madeT (pairTx 59 (⟨#[91]⟩ ++ o ++ ⟨#[93]⟩) q) [⟨#[91]⟩ ++ o ++ ⟨#[93]⟩, q] = pairTx 59 (⟨#[91]⟩ ++ o ++ ⟨#[93]⟩) q := by unfold madeT; rw [hm2, e2]; rfl
        have hsame : pairTx 124 (pairTx 59 (⟨#[91]⟩ ++ t ++ ⟨#[93]⟩) p) (pairTx 59 (⟨#[91]⟩ ++ o ++ ⟨#[93]⟩) q) = ifTx t o p q := by
          apply list_inj
          rw [pair_list, hs1, hs2, hw]; rfl
        rw [ht1, ht2, hsame]
        have k1 : madeOk (ifTx t o p q) [pairTx 59 (⟨#[91]⟩ ++ t ++ ⟨#[93]⟩) p, pairTx 59 (⟨#[91]⟩ ++ o ++ ⟨#[93]⟩) q] = true := by rw [madeOk_two, e1, e2, hw, hW]; rfl
        have k2 : madeOk (ifTx t o p q) [p, q] = true := by rw [hmw, hw, hW]
        unfold madeV
        rw [k1, k2]
      · have hWf : isP (ifTx t o p q).toList = false := by simpa using hW
        have k2 : madeOk (ifTx t o p q) [p, q] = false := by rw [hmw, hWf]
        have k1 : madeOk (pairTx 124 (madeT (pairTx 59 (⟨#[91]⟩ ++ t ++ ⟨#[93]⟩) p) [⟨#[91]⟩ ++ t ++ ⟨#[93]⟩, p]) (madeT (pairTx 59 (⟨#[91]⟩ ++ o ++ ⟨#[93]⟩) q) [⟨#[91]⟩ ++ o ++ ⟨#[93]⟩, q])) [madeT (pairTx 59 (⟨#[91]⟩ ++ t ++ ⟨#[93]⟩) p) [⟨#[91]⟩ ++ t ++ ⟨#[93]⟩, p], madeT (pairTx 59 (⟨#[91]⟩ ++ o ++ ⟨#[93]⟩) q) [⟨#[91]⟩ ++ o ++ ⟨#[93]⟩, q]] = false := by
          rw [madeOk_two]
          cases e1 : isP (pairTx 59 (⟨#[91]⟩ ++ t ++ ⟨#[93]⟩) p).toList with
          | false =>
            have : madeT (pairTx 59 (⟨#[91]⟩ ++ t ++ ⟨#[93]⟩) p) [⟨#[91]⟩ ++ t ++ ⟨#[93]⟩, p] = ⟨#[]⟩ := by unfold madeT; rw [hm1, e1]; rfl
            rw [this, hnil, isP_nil]; rfl
          | true =>
            cases e2 : isP (pairTx 59 (⟨#[91]⟩ ++ o ++ ⟨#[93]⟩) q).toList with
            | false =>
              have : madeT (pairTx 59 (⟨#[91]⟩ ++ o ++ ⟨#[93]⟩) q) [⟨#[91]⟩ ++ o ++ ⟨#[93]⟩, q] = ⟨#[]⟩ := by unfold madeT; rw [hm2, e2]; rfl
              rw [this, hnil, isP_nil]; simp
            | true =>
              have ht1 : madeT (pairTx 59 (⟨#[91]⟩ ++ t ++ ⟨#[93]⟩) p) [⟨#[91]⟩ ++ t ++ ⟨#[93]⟩, p] = pairTx 59 (⟨#[91]⟩ ++ t ++ ⟨#[93]⟩) p := by unfold madeT; rw [hm1, e1]; rfl
              have ht2 : madeT (pairTx 59 (⟨#[91]⟩ ++ o ++ ⟨#[93]⟩) q) [⟨#[91]⟩ ++ o ++ ⟨#[93]⟩, q] = pairTx 59 (⟨#[91]⟩ ++ o ++ ⟨#[93]⟩) q := by unfold madeT; rw [hm2, e2]; rfl
              have hsame : pairTx 124 (pairTx 59 (⟨#[91]⟩ ++ t ++ ⟨#[93]⟩) p) (pairTx 59 (⟨#[91]⟩ ++ o ++ ⟨#[93]⟩) q) = ifTx t o p q := by
                apply list_inj
                rw [pair_list, hs1, hs2, hw]; rfl
              rw [ht1, ht2, hsame, hWf]; simp
        unfold madeV
        rw [k1, k2]; rfl
    · have hqf : isP q.toList = false := by simpa using hq
      have k2 : madeOk (ifTx t o p q) [p, q] = false := by rw [madeOk_two, hqf]; simp
      have : madeT (pairTx 59 (⟨#[91]⟩ ++ o ++ ⟨#[93]⟩) q) [⟨#[91]⟩ ++ o ++ ⟨#[93]⟩, q] = ⟨#[]⟩ := by unfold madeT; rw [madeOk_two, hqf]; simp
      rw [this]
      unfold madeV
      rw [k2, madeOk_two, hnil, isP_nil]; simp
  · have hpf : isP p.toList = false := by simpa using hp
    have k2 : madeOk (ifTx t o p q) [p, q] = false := by rw [madeOk_two, hpf]; simp
    have : madeT (pairTx 59 (⟨#[91]⟩ ++ t ++ ⟨#[93]⟩) p) [⟨#[91]⟩ ++ t ++ ⟨#[93]⟩, p] = ⟨#[]⟩ := by unfold madeT; rw [madeOk_two, hpf]; simp
    rw [this]
    unfold madeV
    rw [k2, madeOk_two, hnil, isP_nil]; simp
end Go.Proofs.YtngcdgnijfiocaaGreatDoor

namespace Go.Proofs.YtngcdgnijfiocaaGreatDoor
open Go.ChangeShapes Go.WideShapes Go.ChangeAt Go.RowKit Go.Shelf
attribute [local go_sem] Oper.semAt_some
set_option maxRecDepth 100000

theorem whole_pair (k : UInt8) (p q : ByteArray) : wholeT ⟨#[40]⟩ ⟨#[k]⟩ ⟨#[41]⟩ [p, q] = pairTx k p q := by
  apply list_inj
  unfold wholeT
  rw [pair_list, app_toList, app_toList, show (⟨#[40]⟩ : ByteArray).toList = [40] from ofL [40], show (⟨#[41]⟩ : ByteArray).toList = [41] from ofL [41], ofL, List.map_cons, Lib.join_cons]
  simp [Lib.joinTail, Lib.toList_data]
theorem whole_loop (p : ByteArray) : wholeT ⟨#[123]⟩ ⟨#[]⟩ ⟨#[125]⟩ [p] = loopTx p := by
  apply list_inj
  unfold wholeT
  rw [loop_list, app_toList, app_toList, show (⟨#[123]⟩ : ByteArray).toList = [123] from ofL [123], show (⟨#[125]⟩ : ByteArray).toList = [125] from ofL [125], ofL, List.map_cons, List.map_nil, Lib.join_one]
  simp [Lib.toList_data]

theorem pmade_two (k : UInt8) (p q : ByteArray) (W : World) {N : Nat} (hE : Laid3 N W) :
    Calls Tryz.prog 66 #[.string ⟨#[40]⟩, .string ⟨#[k]⟩, .string ⟨#[41]⟩, .slice (some ⟨W.heap.size, 0, none⟩) 2 2] (W.alloc (.cells #[.string p, .string q] 9)) fun e W' => e = .returned (madeV (pairTx k p q) [p, q]) ∧ Below W.heap.size W W' := by
  have hb : Below W.heap.size W (W.alloc (.cells #[.string p, .string q] 9)) := (Below.refl _ _).alloc (Nat.le_refl _) _
  have := pmade48 ⟨#[40]⟩ ⟨#[k]⟩ ⟨#[41]⟩ (by simp [ByteArray.size]) (by simp) (by simp [ByteArray.size]) [p, q] (by simp) (W.alloc (.cells #[.string p, .string q] 9)) W.heap.size 2 (by simp) (by simp) (fun i u hu => by
    match i, hu with
    | 0, hu => cases hu; rw [cell_of_row _ W.heap.size 0 _ 9 (0, 0) (heap_alloc_new W _)]; rfl
    | 1, hu => cases hu; rw [cell_of_row _ W.heap.size 1 _ 9 (0, 0) (heap_alloc_new W _)]; rfl
    | i + 2, hu => simp at hu) (hE.below hb hE.lt)
  rw [whole_pair] at this
  exact this.mono fun e W' ⟨h1, h2⟩ => ⟨h1, hb.trans (h2.mono hb.size)⟩
theorem pmade_one (p : ByteArray) (W : World) {N : Nat} (hE : Laid3 N W) :
    Calls Tryz.prog 66 #[.string ⟨#[123]⟩, .string ⟨#[]⟩, .string ⟨#[125]⟩, .slice (some ⟨W.heap.size, 0, none⟩) 1 1] (W.alloc (.cells #[.string p] 9)) fun e W' => e = .returned (madeV (loopTx p) [p]) ∧ Below W.heap.size W W' := by
  have hb : Below W.heap.size W (W.alloc (.cells #[.string p] 9)) := (Below.refl _ _).alloc (Nat.le_refl _) _
  have := pmade48 ⟨#[123]⟩ ⟨#[]⟩ ⟨#[125]⟩ (by simp [ByteArray.size]) (by simp) (by simp [ByteArray.size]) [p] (by simp) (W.alloc (.cells #[.string p] 9)) W.heap.size 1 (by simp) (by simp) (fun i u hu => by
    match i, hu with
    | 0, hu => cases hu; rw [cell_of_row _ W.heap.size 0 _ 9 (0, 0) (heap_alloc_new W _)]; rfl
    | i + 1, hu => simp at hu) (hE.below hb hE.lt)
  rw [whole_loop] at this
  exact this.mono fun e W' ⟨h1, h2⟩ => ⟨h1, hb.trans (h2.mono hb.size)⟩

theorem pseq26 (p q : ByteArray) (W : World) {N : Nat} (hE : Laid3 N W) :
    Calls Tryz.prog 30 #[.string p, .string q] W fun e W' => e = .returned (madeV (pairTx 59 p q) [p, q]) ∧ Below W.heap.size W W' := by
  have hm := pmade_two 59 p q W hE
  obtain ⟨s, b, hv⟩ := madeV_tuple (pairTx 59 p q) [p, q]
  rw [hv] at hm ⊢
  clear hv
  go_enter Tryz.func30, Tryz.ntmps30
  go_wp2_with (go_at_call 66; refine hm.mono ?_; rintro e W1 ⟨rfl, hb⟩)
  go_ret2
  exact ⟨rfl, hb⟩

theorem opp_nil {t : ByteArray} (h : isTest t = false) : oppL t = [] := by unfold oppL; rw [if_neg (by simp [h])]

end Go.Proofs.YtngcdgnijfiocaaGreatDoor

