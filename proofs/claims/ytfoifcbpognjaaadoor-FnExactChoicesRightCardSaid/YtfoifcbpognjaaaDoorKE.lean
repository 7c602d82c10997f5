/- Chapter 10, the program: a run of a program. -/
import Derived.Test.YtfoifcbpognjaaaDoorKD
import Derived.Test.YtfoifcbpognjaaaDoorR4
namespace Go.Proofs.YtfoifcbpognjaaaDoor
open Go.ChangeShapes Go.WideShapes Go.ChangeAt Go.RowKit Go.Shelf
attribute [local go_sem] Oper.semAt_some
set_option maxRecDepth 100000

def PGo (cs : List UInt8) (nd : Node) : Prop := ∀ (W : World) (N rb B : Nat) (r : R10) (tv : Value), NotRight N W → N ≤ rb → N ≤ B → B ≤ W.heap.size → PR W rb r.st (cs.drop r.pos) tv → IRow W B tv r.tr → r.ends = false → r.pos ≤ cs.length → r.st < 9 → (go10 cs nd r).tr.length ≤ 1000000 →
  Calls Tryd.prog 23 #[.pointer (some ⟨rb, 0, none⟩), nodeV nd] W (PRan cs rb B tv.ownBlock (go10 cs nd r) W)
/-- A part's run is the whole's, behind what was done ahead of it. -/
theorem pran_then {cs : List UInt8} {rb B : Nat} {o o1 : Option Nat} {x : R10} {W V W' : World} {e : Ending} (hF : Foot rb o o1 W V) (h : PRan cs rb B o1 x V e W') : PRan cs rb B o x W e W' := by
  obtain ⟨o', hf, hm⟩ := h
  exact ⟨o', hF.trans hf, hm⟩
set_option maxHeartbeats 4000000 in
theorem do_atom (cs : List UInt8) (a : List UInt8) (hok : (Node.atom a).ok) : PGo cs (.atom a) := by
  intro W N rb B r tv hE hN hNB hB hR hI he hpl hst htr
  have hg : go10 cs (.atom a) r = atom10 cs a r := by rw [go10, if_neg (by simp [he])]
  have hw := went_atom cs a r
  rw [hg] at htr ⊢
  have hm1 := meth_text (.atom a) hok
  have hcf := call_text (.atom a) hok
  unfold nodeT nodeX textFn at hm1
  unfold textFn nodeX at hcf
  unfold nodeV
  have t1 := as93_77 ⟨a.toArray⟩
  have t2 := as93_79 ⟨a.toArray⟩
  have t3 := as93_81 ⟨a.toArray⟩
  have htq := hw.tr
  clear hg hw
  go_enter Tryd.func23, Tryd.ntmps23
  go_wp2_with ((go_at_call 106; refine (text129 _ _).mono ?_; rintro e W1 ⟨rfl, rfl⟩))
  go_at_call 35
  have hA := patom10 cs a hok W rb B N r tv hE hN hNB hB hR hI he hpl hst (Nat.le_trans htq htr)
  refine hA.mono ?_
  rintro e W1 ⟨o1, hF1, hm⟩
  cases hxe : (atom10 cs a r).ends with
  | true =>
    rw [if_pos hxe] at hm
    obtain ⟨T, v, rfl, hh⟩ := hm
    exact ⟨rfl, o1, hF1, by rw [if_pos hxe]; exact ⟨T, v, rfl, hh⟩⟩
  | false =>
    rw [if_neg (by rw [hxe]; simp)] at hm
    obtain ⟨rfl, tv1, rfl, hR1, hI1⟩ := hm
    go_wp2_with fail
    go_end0
    exact pran_go hxe hF1 hR1 hI1
set_option maxHeartbeats 4000000 in
theorem do_seq (cs : List UInt8) (p q : Node) (hp : p.ok) (hq : q.ok) (IH1 : PGo cs p) (IH2 : PGo cs q) : PGo cs (.pair 59 p q) := by
  intro W N rb B r tv hE hN hNB hB hR hI he hpl hst htr
  have hg : go10 cs (.pair 59 p q) r = go10 cs q (go10 cs p r) := by rw [go10, if_neg (by simp [he]), if_pos rfl]
  have hwp := went_go cs p r
  have hwq := went_go cs q (go10 cs p r)
  rw [hg] at htr ⊢
  have htp : (go10 cs p r).tr.length ≤ 1000000 := Nat.le_trans hwq.tr htr
  have hA : Below W.heap.size W (W.alloc (.cells #[.iface (nodeT p) (nodeX p), .iface (nodeT q) (nodeX q)] 72)) := (Below.refl _ _).alloc (Nat.le_refl _) _
  have L0 := Lies.new W #[.iface (nodeT p) (nodeX p), .iface (nodeT q) (nodeX q)] 72
  have H1 := IH1 (W.alloc (.cells #[.iface (nodeT p) (nodeX p), .iface (nodeT q) (nodeX q)] 72)) N rb B r tv (hE.below hA (by omega)) hN hNB (by simp; omega) (hR.kept hA) (hI.below hA) he hpl hst htp
  have H2 := fun X tvx => IH2 X N rb B (go10 cs p r) tvx
  rw [nodeV_seq]
  rw [nodeV_eq p hp] at H1 ⊢
  rw [nodeV_eq q hq] at H2 ⊢
  have t1 := as77_77 (.iface (nodeT p) (nodeX p)) (.iface (nodeT q) (nodeX q))
  have hx1 := hwp.le hpl
  have hx2 := hwp.st hst
  have hFA := foot_below rb tv.ownBlock hA
  have hrl := hR.lt
  have hown := fun k e => (hI.own k e)
  have hqe := fun h => go10_ends (cs := cs) (r := go10 cs p r) h q
  generalize go10 cs q (go10 cs p r) = y at *
  generalize go10 cs p r = x at *
  have HO := Lib.hid hown
  have HE := Lib.hid (hE.below hA (by omega))
  clear hwp hwq hown hA IH1 IH2 hg
  cases hxe : x.ends with
  | true =>
    have hxy := hqe hxe
    subst hxy
    clear hqe
    go_enter Tryd.func23, Tryd.ntmps23
    go_wp2_with (go_at_call 23; refine H1.mono ?_; rintro e W1 ⟨o1, hF1, hm⟩; rw [if_pos hxe] at hm; obtain ⟨T, v, rfl, hh⟩ := hm)
    exact ⟨rfl, pran_then hFA ⟨o1, hF1, by rw [if_pos hxe]; exact ⟨T, v, rfl, hh⟩⟩⟩
  | false =>
    clear hqe
    go_enter Tryd.func23, Tryd.ntmps23
    go_wp2_with fail
    generalize (W.alloc (.cells #[.iface (nodeT p) (nodeX p), .iface (nodeT q) (nodeX q)] 72)) = V at *
    go_at_call 23
    refine H1.mono ?_
    rintro e W1 ⟨o1, hF1, hm⟩
    rw [if_neg (by rw [hxe]; simp)] at hm
    obtain ⟨rfl, tv1, rfl, hR1, hI1⟩ := hm
    obtain ⟨z0, z1, _, _⟩ := (L0.foot hF1 (by omega) (fun e => by have := (HO.out _ e.symm).2; omega)).cells
    have hE1 := HE.out.foot hF1 hN (fun k e => by have := (HO.out k e).1; omega)
    have H3 := H2 W1 tv1 hE1 hN hNB (by have := hFA.size; have := hF1.size; omega) hR1 hI1 hxe hx1 hx2 htr
    cases hye : y.ends with
    | true =>
      go_wp2_with (go_at_call 23; refine H3.mono ?_; rintro e W2 ⟨o2, hF2, hm⟩; rw [if_pos hye] at hm; obtain ⟨T, v, rfl, hh⟩ := hm)
      exact ⟨rfl, pran_then (hFA.trans hF1) ⟨o2, hF2, by rw [if_pos hye]; exact ⟨T, v, rfl, hh⟩⟩⟩
    | false =>
      go_wp2_with (go_at_call 23; refine H3.mono ?_; rintro e W2 ⟨o2, hF2, hm⟩; rw [if_neg (by rw [hye]; simp)] at hm; obtain ⟨rfl, tv2, rfl, hR2, hI2⟩ := hm)
      go_end0
      exact pran_go hye ((hFA.trans hF1).trans hF2) hR2 hI2
set_option maxHeartbeats 4000000 in
theorem do_choice (cs : List UInt8) (p q : Node) (hp : p.ok) (hq : q.ok) (IH1 : PGo cs p) (IH2 : PGo cs q) : PGo cs (.pair 124 p q) := by
  intro W N rb B r tv hE hN hNB hB hR hI he hpl hst htr
  have hg : go10 cs (.pair 124 p q) r = (if (took cs [108, 114] r).2 = 108 then go10 cs p (took cs [108, 114] r).1 else if (took cs [108, 114] r).2 = 114 then go10 cs q (took cs [108, 114] r).1 else (took cs [108, 114] r).1) := by rw [go10, if_neg (by simp [he]), if_neg (by decide)]
  rw [hg] at htr ⊢
  have hA : Below W.heap.size W (W.alloc (.cells #[.iface (nodeT p) (nodeX p), .iface (nodeT q) (nodeX q)] 74)) := (Below.refl _ _).alloc (Nat.le_refl _) _
  have L0 := Lies.new W #[.iface (nodeT p) (nodeX p), .iface (nodeT q) (nodeX q)] 74
  have hFA := foot_below rb tv.ownBlock hA
  have hR0 := hR.kept hA
  have hI0 := hI.below hA
  have hE0 := hE.below hA (by omega)
  have hB0 : B ≤ (W.alloc (.cells #[.iface (nodeT p) (nodeX p), .iface (nodeT q) (nodeX q)] 74)).heap.size := by simp; omega
  rw [nodeV_choice, nodeV_eq p hp, nodeV_eq q hq]
  have t1 := as79_77 (.iface (nodeT p) (nodeX p)) (.iface (nodeT q) (nodeX q))
  have t2 := as79_79 (.iface (nodeT p) (nodeX p)) (.iface (nodeT q) (nodeX q))
  have hst2 : r.stuck = false ∧ r.err = false := by
    unfold R10.ends at he
    rw [Bool.or_eq_false_iff] at he
    exact he
  have hown := fun k e => (hI.own k e)
  have HO := Lib.hid hown
  clear hg hown hA
  obtain ⟨V, hV⟩ : ∃ V, V = W.alloc (.cells #[.iface (nodeT p) (nodeX p), .iface (nodeT q) (nodeX q)] 74) := ⟨_, rfl⟩
  rw [← hV] at hFA hR0 hI0 hE0 hB0 L0
  have HV := Lib.hid hV
  have hap0 := hR0.apart hI0
  clear hV
  cases hgt : cs[r.pos]? with
  | none =>
    rw [drop_none hgt] at hR0
    rw [took_none hgt]
    have H1 := ppart_none (x := nodeX p) (y := nodeX q) (T1 := nodeT p) (T2 := nodeT q) hR0 hE0 hN
    go_enter Tryd.func23, Tryd.ntmps23
    go_wp2_with fail
    rw [← HV.out]
    go_at_call 33
    refine H1.mono ?_
    rintro e W1 ⟨⟨v, rfl⟩, hG⟩
    exact ⟨rfl, pran_bad (by simp [R10.ends]) (by simp) (hFA.trans (foot_grown _ hG)) ⟨v, rfl⟩⟩
  | some c =>
    by_cases h1 : c = 108
    · subst h1
      rw [drop_some hgt] at hR0
      rw [took_in hgt (by simp)] at htr ⊢
      simp only [if_true] at htr ⊢
      have H1 := ppart_l (x := nodeX p) (y := nodeX q) (T1 := nodeT p) (T2 := nodeT q) hR0
      have hlt := (List.getElem?_eq_some_iff.1 hgt).1
      have H2 := fun X => IH1 X N rb B ⟨r.pos + 1, r.st, r.err, r.stuck, r.tr⟩ tv
      rw [nodeV_eq p hp] at H2
      generalize go10 cs p ⟨r.pos + 1, r.st, r.err, r.stuck, r.tr⟩ = y at *
      have HT := Lib.hid htr
      have HG := Lib.hid hgt
      clear htr hgt
      go_enter Tryd.func23, Tryd.ntmps23
      go_wp2_with fail
      rw [← HV.out]
      go_at_call 33
      refine H1.mono ?_
      rintro e W1 ⟨rfl, hR1, hG⟩
      have hI1 := hI0.kept hG (.inr hap0)
      have hF1 := hFA.trans (foot_grown tv.ownBlock hG)
      have H3 := H2 W1 (hE0.grown hG hN) hN hNB (by have := hG.size; omega) hR1 hI1 he hlt hst HT.out
      go_wp2_with fail
      go_at_call 23
      refine H3.mono ?_
      rintro e W2 ⟨o2, hF2, hm⟩
      cases hye : y.ends with
      | true =>
        rw [if_pos hye] at hm
        obtain ⟨T, v, rfl, hh⟩ := hm
        exact ⟨rfl, pran_then hF1 ⟨o2, hF2, by rw [if_pos hye]; exact ⟨T, v, rfl, hh⟩⟩⟩
      | false =>
        rw [if_neg (by rw [hye]; simp)] at hm
        obtain ⟨rfl, tv2, rfl, hR2, hI2⟩ := hm
        go_wp2_with fail
        go_end0
        exact pran_go hye (hF1.trans hF2) hR2 hI2
    by_cases h2 : c = 114
    · subst h2
      rw [drop_some hgt] at hR0
      rw [took_in hgt (by simp)] at htr ⊢
      simp only [show ¬ ((114 : UInt8) = 108) by decide, if_true, if_false] at htr ⊢
      have H1 := ppart_r (x := nodeX p) (y := nodeX q) (T1 := nodeT p) (T2 := nodeT q) hR0
      have hlt := (List.getElem?_eq_some_iff.1 hgt).1
      have H2 := fun X => IH2 X N rb B ⟨r.pos + 1, r.st, r.err, r.stuck, r.tr⟩ tv
      rw [nodeV_eq q hq] at H2
      generalize go10 cs q ⟨r.pos + 1, r.st, r.err, r.stuck, r.tr⟩ = y at *
      have HT := Lib.hid htr
      have HG := Lib.hid hgt
      clear htr hgt
      go_enter Tryd.func23, Tryd.ntmps23
      go_wp2_with fail
      rw [← HV.out]
      go_at_call 33
      refine H1.mono ?_
      rintro e W1 ⟨rfl, hR1, hG⟩
      have hI1 := hI0.kept hG (.inr hap0)
      have hF1 := hFA.trans (foot_grown tv.ownBlock hG)
      have H3 := H2 W1 (hE0.grown hG hN) hN hNB (by have := hG.size; omega) hR1 hI1 he hlt hst HT.out
      go_wp2_with fail
      go_at_call 23
      refine H3.mono ?_
      rintro e W2 ⟨o2, hF2, hm⟩
      cases hye : y.ends with
      | true =>
        rw [if_pos hye] at hm
        obtain ⟨T, v, rfl, hh⟩ := hm
        exact ⟨rfl, pran_then hF1 ⟨o2, hF2, by rw [if_pos hye]; exact ⟨T, v, rfl, hh⟩⟩⟩
      | false =>
        rw [if_neg (by rw [hye]; simp)] at hm
        obtain ⟨rfl, tv2, rfl, hR2, hI2⟩ := hm
        go_wp2_with fail
        go_end0
        exact pran_go hye (hF1.trans hF2) hR2 hI2
    rw [drop_some hgt] at hR0
    rw [took_out hgt (by simp [h1, h2])]
    have H1 := ppart_miss (x := nodeX p) (y := nodeX q) (T1 := nodeT p) (T2 := nodeT q) h1 h2 hR0 hE0 hN
    go_enter Tryd.func23, Tryd.ntmps23
    go_wp2_with fail
    rw [← HV.out]
    go_at_call 33
    refine H1.mono ?_
    rintro e W1 ⟨⟨v, rfl⟩, hG⟩
    exact ⟨rfl, pran_bad (by simp [R10.ends]) (by simp) (hFA.trans (foot_grown _ hG)) ⟨v, rfl⟩⟩
end Go.Proofs.YtfoifcbpognjaaaDoor

