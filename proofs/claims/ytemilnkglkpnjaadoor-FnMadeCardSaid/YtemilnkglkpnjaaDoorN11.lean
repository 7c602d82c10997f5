/- Programs and their texts: a text is that of one program alone; what is made of programs. No program of Go in it. -/
import Derived.Test.YtemilnkglkpnjaaDoorQ17
namespace Go.Proofs.YtemilnkglkpnjaaDoor
set_option maxRecDepth 100000

theorem text_inj {a b : Node} (ha : a.ok) (hb : b.ok) (h : a.text = b.text) : a = b := by
  have h1 := rd_ok a ha a.text.length [] (Nat.le_refl _)
  have h2 := rd_ok b hb a.text.length [] (by rw [h]; exact Nat.le_refl _)
  rw [List.append_nil] at h1 h2
  rw [h] at h1
  rw [h] at h2
  rw [h1] at h2
  cases h2
  rfl
theorem isP_iff {l : List UInt8} : isP l = true ↔ ∃ nd : Node, nd.ok ∧ l = nd.text ∧ l.length ≤ 60 ∧ nd.loops ≤ 6 := by
  unfold isP
  constructor
  · intro h
    cases hP : readP l with
    | none => rw [hP] at h; cases h
    | some nd => exact ⟨nd, readP_iff.1 hP⟩
  · rintro ⟨nd, h⟩
    rw [readP_iff.2 h]
    rfl
theorem isP_text {nd : Node} (hok : nd.ok) : isP nd.text = true ↔ nd.text.length ≤ 60 ∧ nd.loops ≤ 6 := by
  rw [isP_iff]
  constructor
  · rintro ⟨b, hb, ht, h1, h2⟩
    rw [text_inj hok hb ht]
    rw [text_inj hok hb ht] at h1
    exact ⟨h1, h2⟩
  · rintro ⟨h1, h2⟩
    exact ⟨nd, hok, rfl, h1, h2⟩
theorem isP_nil : isP [] = false := by
  cases h : isP [] with
  | false => rfl
  | true =>
    obtain ⟨nd, hok, ht, _⟩ := isP_iff.1 h
    have := text_pos nd hok
    rw [← ht] at this
    simp at this
theorem test_ok {t : List UInt8} (h : t ∈ tests) : (Node.atom (91 :: (t ++ [93]))).ok := .inr (.inr (.inr ⟨t, h, rfl⟩))

/-- A text and its list of bytes. -/
theorem ofL (l : List UInt8) : (⟨l.toArray⟩ : ByteArray).toList = l := by rw [Lib.toList_data]
theorem list_inj {a b : ByteArray} (h : a.toList = b.toList) : a = b := by
  rw [Lib.toList_data, Lib.toList_data] at h
  apply ByteArray.ext
  exact Array.toList_inj.1 h
theorem app_toList (a b : ByteArray) : (a ++ b).toList = a.toList ++ b.toList := by
  rw [Lib.toList_data, Lib.toList_data, Lib.toList_data, ByteArray.data_append, Array.toList_append]
theorem pair_list (k : UInt8) (p q : ByteArray) : (pairTx k p q).toList = 40 :: (p.toList ++ k :: (q.toList ++ [41])) := by
  unfold pairTx
  simp only [app_toList]
  rw [show (⟨#[40]⟩ : ByteArray).toList = [40] from ofL [40], show (⟨#[k]⟩ : ByteArray).toList = [k] from ofL [k], show (⟨#[41]⟩ : ByteArray).toList = [41] from ofL [41]]
  simp
theorem loop_list (p : ByteArray) : (loopTx p).toList = 123 :: (p.toList ++ [125]) := by
  unfold loopTx
  simp only [app_toList]
  rw [show (⟨#[123]⟩ : ByteArray).toList = [123] from ofL [123], show (⟨#[125]⟩ : ByteArray).toList = [125] from ofL [125]]
  simp
theorem if_list (t o p q : ByteArray) : (ifTx t o p q).toList = 40 :: ((40 :: ((91 :: (t.toList ++ [93])) ++ 59 :: (p.toList ++ [41]))) ++ 124 :: ((40 :: ((91 :: (o.toList ++ [93])) ++ 59 :: (q.toList ++ [41]))) ++ [41])) := by
  unfold ifTx
  simp only [app_toList]
  rw [show (⟨#[40, 40, 91]⟩ : ByteArray).toList = [40, 40, 91] from ofL _, show (⟨#[93, 59]⟩ : ByteArray).toList = [93, 59] from ofL _, show (⟨#[41, 124, 40, 91]⟩ : ByteArray).toList = [41, 124, 40, 91] from ofL _, show (⟨#[41, 41]⟩ : ByteArray).toList = [41, 41] from ofL _]
  simp
theorem sq_list (t : ByteArray) : (⟨#[91]⟩ ++ t ++ ⟨#[93]⟩ : ByteArray).toList = 91 :: (t.toList ++ [93]) := by
  simp only [app_toList]
  rw [show (⟨#[91]⟩ : ByteArray).toList = [91] from ofL _, show (⟨#[93]⟩ : ByteArray).toList = [93] from ofL _]
  simp

/-- What a maker answers: the text, or none. -/
def madeT (out : ByteArray) (ts : List ByteArray) : ByteArray := if madeOk out ts then out else ⟨#[]⟩
theorem madeV_eq (out : ByteArray) (ts : List ByteArray) : madeV out ts = .tuple #[.string (madeT out ts), .bool (madeOk out ts)] := rfl
theorem madeOk_two {out p q : ByteArray} : madeOk out [p, q] = (isP p.toList && isP q.toList && isP out.toList) := by
  unfold madeOk
  simp [Bool.and_assoc]

/-- A choice of two sequences that begin with tests is a program just where what comes behind the tests, and the whole, are such. -/
theorem if_made {t o : ByteArray} (ht : t.toList ∈ tests) (ho : o.toList ∈ tests) (p q : ByteArray) :
    madeV (pairTx 124 (madeT (pairTx 59 (⟨#[91]⟩ ++ t ++ ⟨#[93]⟩) p) [⟨#[91]⟩ ++ t ++ ⟨#[93]⟩, p]) (madeT (pairTx 59 (⟨#[91]⟩ ++ o ++ ⟨#[93]⟩) q) [⟨#[91]⟩ ++ o ++ ⟨#[93]⟩, q])) [madeT (pairTx 59 (⟨#[91]⟩ ++ t ++ ⟨#[93]⟩) p) [⟨#[91]⟩ ++ t ++ ⟨#[93]⟩, p], madeT (pairTx 59 (⟨#[91]⟩ ++ o ++ ⟨#[93]⟩) q) [⟨#[91]⟩ ++ o ++ ⟨#[93]⟩, q]]
      = madeV (ifTx t o p q) [p, q] := by
  have hnil : (⟨#[]⟩ : ByteArray).toList = [] := ofL []
  have ha := test_ok ht
  have hb := test_ok ho
  obtain ⟨a1, a2, a3, hta⟩ := test_three ht
  obtain ⟨b1, b2, b3, htb⟩ := test_three ho
  by_cases hp : isP p.toList = true
  · by_cases hq : isP q.toList = true
    · obtain ⟨np, hnp, htp, hlp, hop⟩ := isP_iff.1 hp
      obtain ⟨nq, hnq, htq, hlq, hoq⟩ := isP_iff.1 hq
      have hs1 : (pairTx 59 (⟨#[91]⟩ ++ t ++ ⟨#[93]⟩) p).toList = (Node.pair 59 (.atom (91 :: (t.toList ++ [93]))) np).text := by
        rw [pair_list, sq_list, htp]; rfl
      have hs2 : (pairTx 59 (⟨#[91]⟩ ++ o ++ ⟨#[93]⟩) q).toList = (Node.pair 59 (.atom (91 :: (o.toList ++ [93]))) nq).text := by
        rw [pair_list, sq_list, htq]; rfl
      have hok1 : (Node.pair 59 (.atom (91 :: (t.toList ++ [93]))) np).ok := ⟨.inl rfl, ha, hnp⟩
      have hok2 : (Node.pair 59 (.atom (91 :: (o.toList ++ [93]))) nq).ok := ⟨.inl rfl, hb, hnq⟩
      have hw : (ifTx t o p q).toList = (Node.pair 124 (.pair 59 (.atom (91 :: (t.toList ++ [93]))) np) (.pair 59 (.atom (91 :: (o.toList ++ [93]))) nq)).text := by
        rw [if_list, htp, htq]; rfl
      have hokw : (Node.pair 124 (.pair 59 (.atom (91 :: (t.toList ++ [93]))) np) (.pair 59 (.atom (91 :: (o.toList ++ [93]))) nq)).ok := ⟨.inr rfl, hok1, hok2⟩
      have hc1 : isP (⟨#[91]⟩ ++ t ++ ⟨#[93]⟩ : ByteArray).toList = true := by
        rw [sq_list]
        exact (isP_text ha).2 ⟨by rw [hta]; simp [Node.text], by simp [Node.loops]⟩
      have hc2 : isP (⟨#[91]⟩ ++ o ++ ⟨#[93]⟩ : ByteArray).toList = true := by
        rw [sq_list]
        exact (isP_text hb).2 ⟨by rw [htb]; simp [Node.text], by simp [Node.loops]⟩
      have hm1 : madeOk (pairTx 59 (⟨#[91]⟩ ++ t ++ ⟨#[93]⟩) p) [⟨#[91]⟩ ++ t ++ ⟨#[93]⟩, p] = isP (pairTx 59 (⟨#[91]⟩ ++ t ++ ⟨#[93]⟩) p).toList := by rw [madeOk_two, hc1, hp]; simp
      have hm2 : madeOk (pairTx 59 (⟨#[91]⟩ ++ o ++ ⟨#[93]⟩) q) [⟨#[91]⟩ ++ o ++ ⟨#[93]⟩, q] = isP (pairTx 59 (⟨#[91]⟩ ++ o ++ ⟨#[93]⟩) q).toList := by rw [madeOk_two, hc2, hq]; simp
      have hmw : madeOk (ifTx t o p q) [p, q] = isP (ifTx t o p q).toList := by rw [madeOk_two, hp, hq]; simp
      by_cases hW : isP (ifTx t o p q).toList = true
      · rw [hw] at hW
        obtain ⟨hl, hlo⟩ := (isP_text hokw).1 hW
        have e1 : isP (pairTx 59 (⟨#[91]⟩ ++ t ++ ⟨#[93]⟩) p).toList = true := by
          rw [hs1]
          refine (isP_text hok1).2 ⟨?_, ?_⟩
          · simp [Node.text] at hl ⊢; omega
          · simp [Node.loops] at hlo ⊢; omega
        have e2 : isP (pairTx 59 (⟨#[91]⟩ ++ o ++ ⟨#[93]⟩) q).toList = true := by
          rw [hs2]
          refine (isP_text hok2).2 ⟨?_, ?_⟩
          · simp [Node.text] at hl ⊢; omega
          · simp [Node.loops] at hlo ⊢; omega
        have ht1 : madeT (pairTx 59 (⟨#[91]⟩ ++ t ++ ⟨#[93]⟩) p) [⟨#[91]⟩ ++ t ++ ⟨#[93]⟩, p] = pairTx 59 (⟨#[91]⟩ ++ t ++ ⟨#[93]⟩) p := by unfold madeT; rw [hm1, e1]; rfl
        have ht2 : madeT (pairTx 59 (⟨#[91]⟩ ++ o ++ ⟨#[93]⟩) q) [⟨#[91]⟩ ++ o ++ ⟨#[93]⟩, q] = pairTx 59 (⟨#[91]⟩ ++ o ++ ⟨#[93]⟩) q := by unfold madeT; rw [hm2, e2]; rfl
        have hsame : pairTx 124 (pairTx 59 (⟨#[91]⟩ ++ t ++ ⟨#[93]⟩) p) (pairTx 59 (⟨#[91]⟩ ++ o ++ ⟨#[93]⟩) q) = ifTx t o p q := by
          apply list_inj
          rw [pair_list, hs1, hs2, hw]; rfl
        rw [ht1, ht2, hsame]
        have k1 : madeOk (ifTx t o p q) [pairTx 59 (⟨#[91]⟩ ++ t ++ ⟨#[93]⟩) p, pairTx 59 (⟨#[91]⟩ ++ o ++ ⟨#[93]⟩) q] = true := by rw [madeOk_two, e1, e2, hw, hW]; rfl
        have k2 : madeOk (ifTx t o p q) [p, q] = true := by rw [hmw, hw, hW]
        unfold madeV
        rw [k1, k2]
      · have hWf : isP (ifTx t o p q).toList = false := by simpa using hW
        have k2 : madeOk (ifTx t o p q) [p, q] = false := by rw [hmw, hWf]
        have k1 : madeOk (pairTx 124 (madeT (pairTx 59 (⟨#[91]⟩ ++ t ++ ⟨#[93]⟩) p) [⟨#[91]⟩ ++ t ++ ⟨#[93]⟩, p]) (madeT (pairTx 59 (⟨#[91]⟩ ++ o ++ ⟨#[93]⟩) q) [⟨#[91]⟩ ++ o ++ ⟨#[93]⟩, q])) [madeT (pairTx 59 (⟨#[91]⟩ ++ t ++ ⟨#[93]⟩) p) [⟨#[91]⟩ ++ t ++ ⟨#[93]⟩, p], madeT (pairTx 59 (⟨#[91]⟩ ++ o ++ ⟨#[93]⟩) q) [⟨#[91]⟩ ++ o ++ ⟨#[93]⟩, q]] = false := by
          rw [madeOk_two]
          cases e1 : isP (pairTx 59 (⟨#[91]⟩ ++ t ++ ⟨#[93]⟩) p).toList with
          | false =>
            have : madeT (pairTx 59 (⟨#[91]⟩ ++ t ++ ⟨#[93]⟩) p) [⟨#[91]⟩ ++ t ++ ⟨#[93]⟩, p] = ⟨#[]⟩ := by unfold madeT; rw [hm1, e1]; rfl
            rw [this, hnil, isP_nil]; rfl
          | true =>
            cases e2 : isP (pairTx 59 (⟨#[91]⟩ ++ o ++ ⟨#[93]⟩) q).toList with
            | false =>
              have : madeT (pairTx 59 (⟨#[91]⟩ ++ o ++ ⟨#[93]⟩) q) [⟨#[91]⟩ ++ o ++ ⟨#[93]⟩, q] = ⟨#[]⟩ := by unfold madeT; rw [hm2, e2]; rfl
              rw [this, hnil, isP_nil]; simp
            | true =>
              have ht1 : madeT (pairTx 59 (⟨#[91]⟩ ++ t ++ ⟨#[93]⟩) p) [⟨#[91]⟩ ++ t ++ ⟨#[93]⟩, p] = pairTx 59 (⟨#[91]⟩ ++ t ++ ⟨#[93]⟩) p := by unfold madeT; rw [hm1, e1]; rfl
              have ht2 : madeT (pairTx 59 (⟨#[91]⟩ ++ o ++ ⟨#[93]⟩) q) [⟨#[91]⟩ ++ o ++ ⟨#[93]⟩, q] = pairTx 59 (⟨#[91]⟩ ++ o ++ ⟨#[93]⟩) q := by unfold madeT; rw [hm2, e2]; rfl
              have hsame : pairTx 124 (pairTx 59 (⟨#[91]⟩ ++ t ++ ⟨#[93]⟩) p) (pairTx 59 (⟨#[91]⟩ ++ o ++ ⟨#[93]⟩) q) = ifTx t o p q := by
                apply list_inj
                rw [pair_list, hs1, hs2, hw]; rfl
              rw [ht1, ht2, hsame, hWf]; simp
        unfold madeV
        rw [k1, k2]; rfl
    · have hqf : isP q.toList = false := by simpa using hq
      have k2 : madeOk (ifTx t o p q) [p, q] = false := by rw [madeOk_two, hqf]; simp
      have : madeT (pairTx 59 (⟨#[91]⟩ ++ o ++ ⟨#[93]⟩) q) [⟨#[91]⟩ ++ o ++ ⟨#[93]⟩, q] = ⟨#[]⟩ := by unfold madeT; rw [madeOk_two, hqf]; simp
      rw [this]
      unfold madeV
      rw [k2, madeOk_two, hnil, isP_nil]; simp
  · have hpf : isP p.toList = false := by simpa using hp
    have k2 : madeOk (ifTx t o p q) [p, q] = false := by rw [madeOk_two, hpf]; simp
    have : madeT (pairTx 59 (⟨#[91]⟩ ++ t ++ ⟨#[93]⟩) p) [⟨#[91]⟩ ++ t ++ ⟨#[93]⟩, p] = ⟨#[]⟩ := by unfold madeT; rw [madeOk_two, hpf]; simp
    rw [this]
    unfold madeV
    rw [k2, madeOk_two, hnil, isP_nil]; simp
end Go.Proofs.YtemilnkglkpnjaaDoor
