/- The law on what is made of programs: its walk. -/
import Derived.Test.YtemilnkglkpnjaaDoorD4
import Derived.Test.YtemilnkglkpnjaaDoorG3
import Derived.Test.YtemilnkglkpnjaaDoorQ18
import Derived.Test.YtemilnkglkpnjaaDoorN12
namespace Go.Proofs.YtemilnkglkpnjaaDoor
open Go.ChangeShapes Go.WideShapes Go.ChangeAt Go.RowKit Go.Shelf
attribute [local go_sem] Oper.semAt_some
set_option maxRecDepth 100000

theorem pair_read {k : UInt8} {s : List UInt8} {np nq : Node} (hk : k = 59 ∨ k = 124) (hp : np.ok) (hq : nq.ok) (hs : s = (Node.pair k np nq).text) (h : isP s = true) :
    partsP s = [np.text, nq.text] ∧ kindP s = [k] := by
  subst hs
  have hok : (Node.pair k np nq).ok := ⟨hk, hp, hq⟩
  obtain ⟨h1, h2⟩ := (isP_text hok).1 h
  have hr : readP (Node.pair k np nq).text = some (.pair k np nq) := readP_iff.2 ⟨hok, rfl, h1, h2⟩
  exact ⟨by unfold partsP; rw [hr], by unfold kindP; rw [hr]⟩
theorem made_told {k : UInt8} (hk : k = 59 ∨ k = 124) (p q : ByteArray) : ∃ s b, madeV (pairTx k p q) [p, q] = .tuple #[.string s, .bool b] ∧ (b = true → partsP s.toList = [p.toList, q.toList] ∧ kindP s.toList = [k]) := by
  cases h : madeOk (pairTx k p q) [p, q] with
  | false => exact ⟨⟨#[]⟩, false, by unfold madeV; rw [h]; rfl, fun h => by cases h⟩
  | true =>
    refine ⟨pairTx k p q, true, by unfold madeV; rw [h]; rfl, fun _ => ?_⟩
    rw [madeOk_two] at h
    simp only [Bool.and_eq_true] at h
    obtain ⟨⟨h1, h2⟩, h3⟩ := h
    obtain ⟨np, hnp, htp, _⟩ := isP_iff.1 h1
    obtain ⟨nq, hnq, htq, _⟩ := isP_iff.1 h2
    rw [htp, htq]
    exact pair_read hk hnp hnq (by rw [pair_list, htp, htq]; rfl) h3
theorem loop_told (p : ByteArray) : ∃ s b, madeV (loopTx p) [p] = .tuple #[.string s, .bool b] ∧ (b = true → partsP s.toList = [p.toList] ∧ kindP s.toList = [123]) := by
  cases h : madeOk (loopTx p) [p] with
  | false => exact ⟨⟨#[]⟩, false, by unfold madeV; rw [h]; rfl, fun h => by cases h⟩
  | true =>
    refine ⟨loopTx p, true, by unfold madeV; rw [h]; rfl, fun _ => ?_⟩
    unfold madeOk at h
    simp only [List.all_cons, List.all_nil, Bool.and_true, Bool.and_eq_true] at h
    obtain ⟨np, hnp, htp, _⟩ := isP_iff.1 h.1
    have hs : (loopTx p).toList = (Node.loop np).text := by rw [loop_list, htp]; rfl
    have hok : (Node.loop np).ok := hnp
    have h3 := h.2
    rw [hs] at h3 ⊢
    obtain ⟨a1, a2⟩ := (isP_text hok).1 h3
    have hr : readP (Node.loop np).text = some (.loop np) := readP_iff.2 ⟨hok, rfl, a1, a2⟩
    rw [htp]
    exact ⟨by unfold partsP; rw [hr], by unfold kindP; rw [hr]⟩
theorem if_told (t p q : ByteArray) : ∃ s b, ifV t p q = .tuple #[.string s, .bool b] ∧ (b = true → ∃ s1 s2 o, partsP s.toList = [s1, s2] ∧ kindP s.toList = [124] ∧ partsP s1 = [91 :: (t.toList ++ [93]), p.toList] ∧ partsP s2 = [o, q.toList] ∧ t.size = 3) := by
  cases hO : oppL t with
  | nil => exact ⟨⟨#[]⟩, false, ifV_nil hO p q, fun h => by cases h⟩
  | cons o r =>
    have hT : isTest t = true := by
      cases h : isTest t with
      | true => rfl
      | false => rw [opp_nil h] at hO; cases hO
    have htm : t.toList ∈ tests := mem_of hT
    have hmem : o ∈ tests := by
      have : o ∈ oppL t := by rw [hO]; exact List.mem_cons_self
      unfold oppL at this
      rw [if_pos hT] at this
      exact (List.mem_filter.1 this).1
    have hts : t.size = 3 := by
      have := tests_by3 _ htm
      rw [Lib.toList_data, Array.length_toList] at this; exact this
    rw [ifV_cons hO]
    cases h : madeOk (ifTx t ⟨o.toArray⟩ p q) [p, q] with
    | false => exact ⟨⟨#[]⟩, false, by unfold madeV; rw [h]; rfl, fun h => by cases h⟩
    | true =>
      refine ⟨ifTx t ⟨o.toArray⟩ p q, true, by unfold madeV; rw [h]; rfl, fun _ => ?_⟩
      rw [madeOk_two] at h
      simp only [Bool.and_eq_true] at h
      obtain ⟨⟨h1, h2⟩, h3⟩ := h
      obtain ⟨np, hnp, htp, _⟩ := isP_iff.1 h1
      obtain ⟨nq, hnq, htq, _⟩ := isP_iff.1 h2
      have ha := test_ok htm
      have hb := test_ok hmem
      have hok1 : (Node.pair 59 (.atom (91 :: (t.toList ++ [93]))) np).ok := ⟨.inl rfl, ha, hnp⟩
      have hok2 : (Node.pair 59 (.atom (91 :: (o ++ [93]))) nq).ok := ⟨.inl rfl, hb, hnq⟩
      have hw : (ifTx t ⟨o.toArray⟩ p q).toList = (Node.pair 124 (.pair 59 (.atom (91 :: (t.toList ++ [93]))) np) (.pair 59 (.atom (91 :: (o ++ [93]))) nq)).text := by
        rw [if_list, htp, htq, ofL o]; rfl
      have hokw : (Node.pair 124 (.pair 59 (.atom (91 :: (t.toList ++ [93]))) np) (.pair 59 (.atom (91 :: (o ++ [93]))) nq)).ok := ⟨.inr rfl, hok1, hok2⟩
      obtain ⟨k1, k2⟩ := pair_read (.inr rfl) hok1 hok2 hw h3
      rw [hw] at h3
      obtain ⟨hl, hlo⟩ := (isP_text hokw).1 h3
      have e1 : isP (Node.pair 59 (.atom (91 :: (t.toList ++ [93]))) np).text = true := (isP_text hok1).2 ⟨by simp [Node.text] at hl ⊢; omega, by simp [Node.loops] at hlo ⊢; omega⟩
      have e2 : isP (Node.pair 59 (.atom (91 :: (o ++ [93]))) nq).text = true := (isP_text hok2).2 ⟨by simp [Node.text] at hl ⊢; omega, by simp [Node.loops] at hlo ⊢; omega⟩
      refine ⟨_, _, 91 :: (o ++ [93]), k1, k2, ?_, ?_, hts⟩
      · rw [(pair_read (.inl rfl) ha hnp rfl e1).1, htp]; rfl
      · rw [(pair_read (.inl rfl) hb hnq rfl e2).1, htq]; rfl

theorem lit_row (X : World) (p q : ByteArray) : TRow (X.alloc (.cells #[.string p, .string q] 9)) X.heap.size (.slice (some ⟨X.heap.size, 0, none⟩) 2 2) [p.toList, q.toList] := by
  refine ⟨by simp [texts], .inr ⟨X.heap.size, 2, #[.string p, .string q], rfl, Nat.le_refl _, heap_alloc_new X _, Nat.le_refl _, by unfold maxLen; omega, rfl, ?_⟩⟩
  simp [texts, bytes_eta]
theorem lit_row1 (X : World) (p : ByteArray) : TRow (X.alloc (.cells #[.string p] 9)) X.heap.size (.slice (some ⟨X.heap.size, 0, none⟩) 1 1) [p.toList] := by
  refine ⟨by simp [texts], .inr ⟨X.heap.size, 1, #[.string p], rfl, Nat.le_refl _, heap_alloc_new X _, Nat.le_refl _, by unfold maxLen; omega, rfl, ?_⟩⟩
  simp [texts, bytes_eta]

set_option maxHeartbeats 8000000 in
theorem made_walk (w : World) (a : Option Addr) (len cap : Nat) (hc : Code w.heap.size w a len cap) (hl : len ≤ 1048576) {N : Nat} (hL : Laid3 N w) :
    Calls Tryd.prog 4 #[.slice a len cap] w fun e w' => e = .returned (.bool true) ∧ Below w.heap.size w w' := by
  have l1 : (len : Int) ≤ 1048576 := by omega
  have HC := Lib.hid hc
  clear hc
  go_enter Tryd.func4, Tryd.ntmps4
  go_wp2_with fail
  go_at_call 29
  refine (drawI29 HC.out).mono ?_
  rintro e W0 ⟨t, p, q, ht, hp, hq, rfl, hcur⟩
  obtain ⟨sa, one, hva, fa⟩ := made_told (.inl rfl) p q
  obtain ⟨sb, two, hvb, fb⟩ := made_told (.inr rfl) p q
  obtain ⟨sc, three, hvc, fc⟩ := loop_told p
  obtain ⟨sd, four, hvd, fd⟩ := if_told t p q
  have c26 := fun (X : World) (hX : Below w.heap.size w X) => pseq26 p q X (hL.below hX hL.lt)
  have c27 := fun (X : World) (hX : Below w.heap.size w X) => pchoice27 p q X (hL.below hX hL.lt)
  have c28 := fun (X : World) (hX : Below w.heap.size w X) => ploop28 p X (hL.below hX hL.lt)
  have c30 := fun (X : World) (hX : Below w.heap.size w X) => pif30 t p q (by unfold maxLen; omega) X (hL.below hX hL.lt)
  have c31 := fun (X : World) => seq31 p q (by omega) (by omega) X
  have c32 := fun (X : World) => choice32 p q (by omega) (by omega) X
  have c33 := fun (X : World) => loop33 p (by omega) X
  have c34 := fun (X : World) => if34 t p q (by omega) (by omega) X
  simp only [hva] at c26 c31
  simp only [hvb] at c27 c32
  simp only [hvc] at c28 c33
  simp only [hvd] at c30 c34
  have cP := fun (s : ByteArray) (X : World) (hX : Below w.heap.size w X) => pparts15 s X (hL.below hX hL.lt)
  have cK := fun (s : ByteArray) (X : World) (hX : Below w.heap.size w X) => pkind16 s X (hL.below hX hL.lt)
  have HT := Lib.hid (And.intro ht (And.intro hp hq))
  have FA := Lib.hid fa
  have FB := Lib.hid fb
  have FC := Lib.hid fc
  have FD := Lib.hid fd
  clear hva hvb hvc hvd fa fb fc fd ht hp hq
  go_wp2_with fail
  go_at_call 26
  refine (c26 _ hcur).mono ?_
  rintro e Y26 ⟨rfl, hb⟩
  replace hcur := hcur.trans (hb.mono hcur.size)
  clear hb
  go_wp2_with fail
  go_at_call 27
  refine (c27 _ hcur).mono ?_
  rintro e Y27 ⟨rfl, hb⟩
  replace hcur := hcur.trans (hb.mono hcur.size)
  clear hb
  go_wp2_with fail
  go_at_call 28
  refine (c28 _ hcur).mono ?_
  rintro e Y28 ⟨rfl, hb⟩
  replace hcur := hcur.trans (hb.mono hcur.size)
  clear hb
  go_wp2_with fail
  go_at_call 30
  refine (c30 _ hcur).mono ?_
  rintro e Y30 ⟨rfl, hb⟩
  replace hcur := hcur.trans (hb.mono hcur.size)
  clear hb
  go_wp2_with fail
  go_at_call 31
  refine (c31 _).mono ?_
  rintro e Y31 ⟨rfl, hb⟩
  replace hcur := hcur.trans (hb.mono hcur.size)
  clear hb
  go_wp2_with fail
  go_at_call 32
  refine (c32 _).mono ?_
  rintro e Y32 ⟨rfl, hb⟩
  replace hcur := hcur.trans (hb.mono hcur.size)
  clear hb
  go_wp2_with fail
  go_at_call 33
  refine (c33 _).mono ?_
  rintro e Y33 ⟨rfl, hb⟩
  replace hcur := hcur.trans (hb.mono hcur.size)
  clear hb
  go_wp2_with fail
  go_at_call 34
  refine (c34 _).mono ?_
  rintro e Y34 ⟨rfl, hb⟩
  replace hcur := hcur.trans (hb.mono hcur.size)
  clear hb
  clear c26 c27 c28 c30 c31 c32 c33 c34
  cases four with
  | false =>
    cases one with
    | false =>
      cases two with
      | false =>
        cases three with
        | false =>
          go_wp2_with fail
          go_ret
          exact ⟨rfl, hcur⟩
        | true =>
          go_wp2_with fail
          go_at_call 15
          refine (cP sc _ hcur).mono ?_
          rintro e X1c ⟨rc, rfl, hrc, hb⟩
          rw [(FC.out (by trivial)).1] at hrc
          replace hrc : TRow X1c _ rc _ := hrc
          replace hcur := hcur.trans (hb.mono hcur.size)
          clear hb
          go_wp2_with fail
          go_at_call 17
          refine (sw17 (hrc.below ((Below.refl _ _).alloc (Nat.le_refl _) _)) (lit_row1 X1c p)).mono ?_
          rintro e X2c ⟨rfl, hb⟩
          replace hcur := (hcur.alloc hcur.size _).trans (hb.mono (Nat.le_trans hcur.size (by simp)))
          clear hb hrc
          go_wp2_with fail
          go_at_call 16
          refine (cK sc _ hcur).mono ?_
          rintro e X3c ⟨rfl, hb⟩
          rw [(FC.out (by trivial)).2]
          replace hcur := hcur.trans (hb.mono hcur.size)
          clear hb
          go_wp2_with fail
          go_ret
          exact ⟨rfl, hcur⟩
      | true =>
        go_wp2_with fail
        go_at_call 15
        refine (cP sb _ hcur).mono ?_
        rintro e X1b ⟨rb, rfl, hrb, hb⟩
        rw [(FB.out (by trivial)).1] at hrb
        replace hrb : TRow X1b _ rb _ := hrb
        replace hcur := hcur.trans (hb.mono hcur.size)
        clear hb
        go_wp2_with fail
        go_at_call 17
        refine (sw17 (hrb.below ((Below.refl _ _).alloc (Nat.le_refl _) _)) (lit_row X1b p q)).mono ?_
        rintro e X2b ⟨rfl, hb⟩
        replace hcur := (hcur.alloc hcur.size _).trans (hb.mono (Nat.le_trans hcur.size (by simp)))
        clear hb hrb
        go_wp2_with fail
        go_at_call 16
        refine (cK sb _ hcur).mono ?_
        rintro e X3b ⟨rfl, hb⟩
        rw [(FB.out (by trivial)).2]
        replace hcur := hcur.trans (hb.mono hcur.size)
        clear hb
        cases three with
        | false =>
          go_wp2_with fail
          go_ret
          exact ⟨rfl, hcur⟩
        | true =>
          go_wp2_with fail
          go_at_call 15
          refine (cP sc _ hcur).mono ?_
          rintro e X1c ⟨rc, rfl, hrc, hb⟩
          rw [(FC.out (by trivial)).1] at hrc
          replace hrc : TRow X1c _ rc _ := hrc
          replace hcur := hcur.trans (hb.mono hcur.size)
          clear hb
          go_wp2_with fail
          go_at_call 17
          refine (sw17 (hrc.below ((Below.refl _ _).alloc (Nat.le_refl _) _)) (lit_row1 X1c p)).mono ?_
          rintro e X2c ⟨rfl, hb⟩
          replace hcur := (hcur.alloc hcur.size _).trans (hb.mono (Nat.le_trans hcur.size (by simp)))
          clear hb hrc
          go_wp2_with fail
          go_at_call 16
          refine (cK sc _ hcur).mono ?_
          rintro e X3c ⟨rfl, hb⟩
          rw [(FC.out (by trivial)).2]
          replace hcur := hcur.trans (hb.mono hcur.size)
          clear hb
          go_wp2_with fail
          go_ret
          exact ⟨rfl, hcur⟩
    | true =>
      go_wp2_with fail
      go_at_call 15
      refine (cP sa _ hcur).mono ?_
      rintro e X1a ⟨ra, rfl, hra, hb⟩
      rw [(FA.out (by trivial)).1] at hra
      replace hra : TRow X1a _ ra _ := hra
      replace hcur := hcur.trans (hb.mono hcur.size)
      clear hb
      go_wp2_with fail
      go_at_call 17
      refine (sw17 (hra.below ((Below.refl _ _).alloc (Nat.le_refl _) _)) (lit_row X1a p q)).mono ?_
      rintro e X2a ⟨rfl, hb⟩
      replace hcur := (hcur.alloc hcur.size _).trans (hb.mono (Nat.le_trans hcur.size (by simp)))
      clear hb hra
      go_wp2_with fail
      go_at_call 16
      refine (cK sa _ hcur).mono ?_
      rintro e X3a ⟨rfl, hb⟩
      rw [(FA.out (by trivial)).2]
      replace hcur := hcur.trans (hb.mono hcur.size)
      clear hb
      cases two with
      | false =>
        cases three with
        | false =>
          go_wp2_with fail
          go_ret
          exact ⟨rfl, hcur⟩
        | true =>
          go_wp2_with fail
          go_at_call 15
          refine (cP sc _ hcur).mono ?_
          rintro e X1c ⟨rc, rfl, hrc, hb⟩
          rw [(FC.out (by trivial)).1] at hrc
          replace hrc : TRow X1c _ rc _ := hrc
          replace hcur := hcur.trans (hb.mono hcur.size)
          clear hb
          go_wp2_with fail
          go_at_call 17
          refine (sw17 (hrc.below ((Below.refl _ _).alloc (Nat.le_refl _) _)) (lit_row1 X1c p)).mono ?_
          rintro e X2c ⟨rfl, hb⟩
          replace hcur := (hcur.alloc hcur.size _).trans (hb.mono (Nat.le_trans hcur.size (by simp)))
          clear hb hrc
          go_wp2_with fail
          go_at_call 16
          refine (cK sc _ hcur).mono ?_
          rintro e X3c ⟨rfl, hb⟩
          rw [(FC.out (by trivial)).2]
          replace hcur := hcur.trans (hb.mono hcur.size)
          clear hb
          go_wp2_with fail
          go_ret
          exact ⟨rfl, hcur⟩
      | true =>
        go_wp2_with fail
        go_at_call 15
        refine (cP sb _ hcur).mono ?_
        rintro e X1b ⟨rb, rfl, hrb, hb⟩
        rw [(FB.out (by trivial)).1] at hrb
        replace hrb : TRow X1b _ rb _ := hrb
        replace hcur := hcur.trans (hb.mono hcur.size)
        clear hb
        go_wp2_with fail
        go_at_call 17
        refine (sw17 (hrb.below ((Below.refl _ _).alloc (Nat.le_refl _) _)) (lit_row X1b p q)).mono ?_
        rintro e X2b ⟨rfl, hb⟩
        replace hcur := (hcur.alloc hcur.size _).trans (hb.mono (Nat.le_trans hcur.size (by simp)))
        clear hb hrb
        go_wp2_with fail
        go_at_call 16
        refine (cK sb _ hcur).mono ?_
        rintro e X3b ⟨rfl, hb⟩
        rw [(FB.out (by trivial)).2]
        replace hcur := hcur.trans (hb.mono hcur.size)
        clear hb
        cases three with
        | false =>
          go_wp2_with fail
          go_ret
          exact ⟨rfl, hcur⟩
        | true =>
          go_wp2_with fail
          go_at_call 15
          refine (cP sc _ hcur).mono ?_
          rintro e X1c ⟨rc, rfl, hrc, hb⟩
          rw [(FC.out (by trivial)).1] at hrc
          replace hrc : TRow X1c _ rc _ := hrc
          replace hcur := hcur.trans (hb.mono hcur.size)
          clear hb
          go_wp2_with fail
          go_at_call 17
          refine (sw17 (hrc.below ((Below.refl _ _).alloc (Nat.le_refl _) _)) (lit_row1 X1c p)).mono ?_
          rintro e X2c ⟨rfl, hb⟩
          replace hcur := (hcur.alloc hcur.size _).trans (hb.mono (Nat.le_trans hcur.size (by simp)))
          clear hb hrc
          go_wp2_with fail
          go_at_call 16
          refine (cK sc _ hcur).mono ?_
          rintro e X3c ⟨rfl, hb⟩
          rw [(FC.out (by trivial)).2]
          replace hcur := hcur.trans (hb.mono hcur.size)
          clear hb
          go_wp2_with fail
          go_ret
          exact ⟨rfl, hcur⟩
  | true =>
    obtain ⟨s1, s2, o, k1, k2, k3, k4, hts⟩ := FD.out (by trivial)
    have l2 : 1 + t.size ≤ 9223372036854775807 := by omega
    have l3 : 1 + t.size + 1 ≤ 9223372036854775807 := by omega
    have c1P := fun (X : World) (hX : Below w.heap.size w X) => cP ⟨s1.toArray⟩ X hX
    have c2P := fun (X : World) (hX : Below w.heap.size w X) => cP ⟨s2.toArray⟩ X hX
    simp only [ofL, k3] at c1P
    simp only [ofL, k4] at c2P
    go_wp2_with fail
    go_at_call 15
    refine (cP sd _ hcur).mono ?_
    rintro e Z1 ⟨r, rfl, hr, hb⟩
    rw [k1] at hr
    replace hr : TRow Z1 _ r _ := hr
    replace hcur := hcur.trans (hb.mono hcur.size)
    clear hb
    rcases hr.cases with ⟨_, h0⟩ | ⟨g, cap', rfl, _, hg2, _⟩
    · exact absurd h0 (by simp)
    have z0 : Z1.cell? ⟨g, 0, none⟩ = some (.string ⟨s1.toArray⟩) := hr.cell rfl 0 (by simp)
    have z1 : Z1.cell? ⟨g, 1, none⟩ = some (.string ⟨s2.toArray⟩) := hr.cell rfl 1 (by simp)
    have K2 := Lib.hid k2
    clear k1 k2 k3 k4 hr
    go_wp2_with fail
    have hq1 : Below w.heap.size w Z1 := hcur
    go_region_held (fun w' => w'.cell? ⟨g, 0, none⟩ = some (.string ⟨s1.toArray⟩) ∧ w'.cell? ⟨g, 1, none⟩ = some (.string ⟨s2.toArray⟩))
      (first | exact ⟨z0, z1⟩ | exact ⟨y0, y1⟩ | exact ⟨x0, x1⟩ | go_keep)
      (first
        | (go_at_call_of 15 (Value.string ⟨s1.toArray⟩); refine Calls.mono (c1P _ ?_) ?_; (first | exact hq1 | exact hq1.drew | exact hq1.drew.drew); rintro e Z2 ⟨rl, rfl, hrl, hb2⟩; replace hrl : TRow Z2 _ rl _ := hrl; have hq2 : Below w.heap.size w Z2 := (by first | exact hq1.trans (hb2.mono hq1.size) | exact hq1.drew.trans (hb2.mono hq1.size) | exact hq1.drew.drew.trans (hb2.mono hq1.size)); have y0 := (hb2.cell (p := ⟨g, 0, none⟩) hg2).trans z0; have y1 := (hb2.cell (p := ⟨g, 1, none⟩) hg2).trans z1)
        | (go_at_call_of 15 (Value.string ⟨s2.toArray⟩); refine Calls.mono (c2P _ ?_) ?_; (first | exact hq2 | exact hq2.drew | exact hq2.drew.drew); rintro e Z3 ⟨rr, rfl, hrr, hb3⟩; replace hrr : TRow Z3 _ rr _ := hrr; have hq3 : Below w.heap.size w Z3 := (by first | exact hq2.trans (hb3.mono hq2.size) | exact hq2.drew.trans (hb3.mono hq2.size) | exact hq2.drew.drew.trans (hb3.mono hq2.size)); have hrl3 : TRow Z3 _ rl _ := (by first | exact hrl.below hb3 | exact TRow.below (W := Z2.drew) hrl hb3 | exact TRow.below (W := Z2.drew.drew) hrl hb3); have x0 := (hb3.cell (p := ⟨g, 0, none⟩) (Nat.lt_of_lt_of_le hg2 hb2.size)).trans y0; have x1 := (hb3.cell (p := ⟨g, 1, none⟩) (Nat.lt_of_lt_of_le hg2 hb2.size)).trans y1))
    rcases hrl3.cases with ⟨_, h0⟩ | ⟨gl, capl, rfl, _, hgl, _⟩
    · exact absurd h0 (by simp)
    rcases hrr.cases with ⟨_, h0⟩ | ⟨gr, capr, rfl, _, hgr, _⟩
    · exact absurd h0 (by simp)
    have u0 : Z3.cell? ⟨gl, 0, none⟩ = some (.string (⟨#[91]⟩ ++ t ++ ⟨#[93]⟩)) := by
      rw [show (⟨#[91]⟩ ++ t ++ ⟨#[93]⟩ : ByteArray) = ⟨(91 :: (t.toList ++ [93])).toArray⟩ from list_inj (by rw [sq_list, ofL (91 :: (t.toList ++ [93]))])]
      exact hrl3.cell rfl 0 (by simp)
    have u1 : Z3.cell? ⟨gl, 1, none⟩ = some (.string p) := by
      have := hrl3.cell rfl 1 (by simp)
      rw [← bytes_eta p]
      exact this
    have v1 : Z3.cell? ⟨gr, 1, none⟩ = some (.string q) := by
      have := hrr.cell rfl 1 (by simp)
      rw [← bytes_eta q]
      exact this
    clear hrl3 hrr hrl x0 x1 y0 y1 z0 z1
    go_wp2_with fail
    go_at_call 16
    refine (cK sd _ hq3).mono ?_
    rintro e Z4 ⟨rfl, hb⟩
    rw [K2.out]
    replace hcur := hq3.trans (hb.mono hq3.size)
    clear hb u0 u1 v1 hq1 hq2 hq3 hb2 hb3
    cases one with
    | false =>
      cases two with
      | false =>
        cases three with
        | false =>
          go_wp2_with fail
          go_ret
          exact ⟨rfl, hcur⟩
        | true =>
          go_wp2_with fail
          go_at_call 15
          refine (cP sc _ hcur).mono ?_
          rintro e X1c ⟨rc, rfl, hrc, hb⟩
          rw [(FC.out (by trivial)).1] at hrc
          replace hrc : TRow X1c _ rc _ := hrc
          replace hcur := hcur.trans (hb.mono hcur.size)
          clear hb
          go_wp2_with fail
          go_at_call 17
          refine (sw17 (hrc.below ((Below.refl _ _).alloc (Nat.le_refl _) _)) (lit_row1 X1c p)).mono ?_
          rintro e X2c ⟨rfl, hb⟩
          replace hcur := (hcur.alloc hcur.size _).trans (hb.mono (Nat.le_trans hcur.size (by simp)))
          clear hb hrc
          go_wp2_with fail
          go_at_call 16
          refine (cK sc _ hcur).mono ?_
          rintro e X3c ⟨rfl, hb⟩
          rw [(FC.out (by trivial)).2]
          replace hcur := hcur.trans (hb.mono hcur.size)
          clear hb
          go_wp2_with fail
          go_ret
          exact ⟨rfl, hcur⟩
      | true =>
        go_wp2_with fail
        go_at_call 15
        refine (cP sb _ hcur).mono ?_
        rintro e X1b ⟨rb, rfl, hrb, hb⟩
        rw [(FB.out (by trivial)).1] at hrb
        replace hrb : TRow X1b _ rb _ := hrb
        replace hcur := hcur.trans (hb.mono hcur.size)
        clear hb
        go_wp2_with fail
        go_at_call 17
        refine (sw17 (hrb.below ((Below.refl _ _).alloc (Nat.le_refl _) _)) (lit_row X1b p q)).mono ?_
        rintro e X2b ⟨rfl, hb⟩
        replace hcur := (hcur.alloc hcur.size _).trans (hb.mono (Nat.le_trans hcur.size (by simp)))
        clear hb hrb
        go_wp2_with fail
        go_at_call 16
        refine (cK sb _ hcur).mono ?_
        rintro e X3b ⟨rfl, hb⟩
        rw [(FB.out (by trivial)).2]
        replace hcur := hcur.trans (hb.mono hcur.size)
        clear hb
        cases three with
        | false =>
          go_wp2_with fail
          go_ret
          exact ⟨rfl, hcur⟩
        | true =>
          go_wp2_with fail
          go_at_call 15
          refine (cP sc _ hcur).mono ?_
          rintro e X1c ⟨rc, rfl, hrc, hb⟩
          rw [(FC.out (by trivial)).1] at hrc
          replace hrc : TRow X1c _ rc _ := hrc
          replace hcur := hcur.trans (hb.mono hcur.size)
          clear hb
          go_wp2_with fail
          go_at_call 17
          refine (sw17 (hrc.below ((Below.refl _ _).alloc (Nat.le_refl _) _)) (lit_row1 X1c p)).mono ?_
          rintro e X2c ⟨rfl, hb⟩
          replace hcur := (hcur.alloc hcur.size _).trans (hb.mono (Nat.le_trans hcur.size (by simp)))
          clear hb hrc
          go_wp2_with fail
          go_at_call 16
          refine (cK sc _ hcur).mono ?_
          rintro e X3c ⟨rfl, hb⟩
          rw [(FC.out (by trivial)).2]
          replace hcur := hcur.trans (hb.mono hcur.size)
          clear hb
          go_wp2_with fail
          go_ret
          exact ⟨rfl, hcur⟩
    | true =>
      go_wp2_with fail
      go_at_call 15
      refine (cP sa _ hcur).mono ?_
      rintro e X1a ⟨ra, rfl, hra, hb⟩
      rw [(FA.out (by trivial)).1] at hra
      replace hra : TRow X1a _ ra _ := hra
      replace hcur := hcur.trans (hb.mono hcur.size)
      clear hb
      go_wp2_with fail
      go_at_call 17
      refine (sw17 (hra.below ((Below.refl _ _).alloc (Nat.le_refl _) _)) (lit_row X1a p q)).mono ?_
      rintro e X2a ⟨rfl, hb⟩
      replace hcur := (hcur.alloc hcur.size _).trans (hb.mono (Nat.le_trans hcur.size (by simp)))
      clear hb hra
      go_wp2_with fail
      go_at_call 16
      refine (cK sa _ hcur).mono ?_
      rintro e X3a ⟨rfl, hb⟩
      rw [(FA.out (by trivial)).2]
      replace hcur := hcur.trans (hb.mono hcur.size)
      clear hb
      cases two with
      | false =>
        cases three with
        | false =>
          go_wp2_with fail
          go_ret
          exact ⟨rfl, hcur⟩
        | true =>
          go_wp2_with fail
          go_at_call 15
          refine (cP sc _ hcur).mono ?_
          rintro e X1c ⟨rc, rfl, hrc, hb⟩
          rw [(FC.out (by trivial)).1] at hrc
          replace hrc : TRow X1c _ rc _ := hrc
          replace hcur := hcur.trans (hb.mono hcur.size)
          clear hb
          go_wp2_with fail
          go_at_call 17
          refine (sw17 (hrc.below ((Below.refl _ _).alloc (Nat.le_refl _) _)) (lit_row1 X1c p)).mono ?_
          rintro e X2c ⟨rfl, hb⟩
          replace hcur := (hcur.alloc hcur.size _).trans (hb.mono (Nat.le_trans hcur.size (by simp)))
          clear hb hrc
          go_wp2_with fail
          go_at_call 16
          refine (cK sc _ hcur).mono ?_
          rintro e X3c ⟨rfl, hb⟩
          rw [(FC.out (by trivial)).2]
          replace hcur := hcur.trans (hb.mono hcur.size)
          clear hb
          go_wp2_with fail
          go_ret
          exact ⟨rfl, hcur⟩
      | true =>
        go_wp2_with fail
        go_at_call 15
        refine (cP sb _ hcur).mono ?_
        rintro e X1b ⟨rb, rfl, hrb, hb⟩
        rw [(FB.out (by trivial)).1] at hrb
        replace hrb : TRow X1b _ rb _ := hrb
        replace hcur := hcur.trans (hb.mono hcur.size)
        clear hb
        go_wp2_with fail
        go_at_call 17
        refine (sw17 (hrb.below ((Below.refl _ _).alloc (Nat.le_refl _) _)) (lit_row X1b p q)).mono ?_
        rintro e X2b ⟨rfl, hb⟩
        replace hcur := (hcur.alloc hcur.size _).trans (hb.mono (Nat.le_trans hcur.size (by simp)))
        clear hb hrb
        go_wp2_with fail
        go_at_call 16
        refine (cK sb _ hcur).mono ?_
        rintro e X3b ⟨rfl, hb⟩
        rw [(FB.out (by trivial)).2]
        replace hcur := hcur.trans (hb.mono hcur.size)
        clear hb
        cases three with
        | false =>
          go_wp2_with fail
          go_ret
          exact ⟨rfl, hcur⟩
        | true =>
          go_wp2_with fail
          go_at_call 15
          refine (cP sc _ hcur).mono ?_
          rintro e X1c ⟨rc, rfl, hrc, hb⟩
          rw [(FC.out (by trivial)).1] at hrc
          replace hrc : TRow X1c _ rc _ := hrc
          replace hcur := hcur.trans (hb.mono hcur.size)
          clear hb
          go_wp2_with fail
          go_at_call 17
          refine (sw17 (hrc.below ((Below.refl _ _).alloc (Nat.le_refl _) _)) (lit_row1 X1c p)).mono ?_
          rintro e X2c ⟨rfl, hb⟩
          replace hcur := (hcur.alloc hcur.size _).trans (hb.mono (Nat.le_trans hcur.size (by simp)))
          clear hb hrc
          go_wp2_with fail
          go_at_call 16
          refine (cK sc _ hcur).mono ?_
          rintro e X3c ⟨rfl, hb⟩
          rw [(FC.out (by trivial)).2]
          replace hcur := hcur.trans (hb.mono hcur.size)
          clear hb
          go_wp2_with fail
          go_ret
          exact ⟨rfl, hcur⟩

theorem long_made (w : World) (a : Option Addr) (len cap : Nat) (h : 1048576 < len) :
    Calls Tryd.prog 4 #[.slice a len cap] w fun e w' => e = .returned (.bool true) ∧ Below w.heap.size w w' := by
  have h1 : (1048576 : Int) < (len : Int) := by omega
  go_enter Tryd.func4, Tryd.ntmps4
  go_wp2
  go_ret
  exact ⟨rfl, Below.refl _ _⟩

theorem walkFnMade (a0 : Option Addr) (len0 cap0 : Nat) (z0 : List Int) (w : World) (w0 : IsRow .u8 w a0 len0 cap0 z0) {N : Nat} (hL : Laid3 N w) :
    Calls Tryd.prog 4 #[.slice a0 len0 cap0] w fun e w' => e = .returned (.bool true) ∧ Below w.heap.size w w' := by
  by_cases h : len0 ≤ 1048576
  · exact made_walk w a0 len0 cap0 (Code.ofRow w0) h hL
  · exact long_made w a0 len0 cap0 (by omega)
end Go.Proofs.YtemilnkglkpnjaaDoor
