/- Chapter 10, the program: a run of a loop, of every program. -/
import Derived.Test.YtfoifcbpognjaaaDoorKE
namespace Go.Proofs.YtfoifcbpognjaaaDoor
open Go.ChangeShapes Go.WideShapes Go.ChangeAt Go.RowKit Go.Shelf
attribute [local go_sem] Oper.semAt_some
set_option maxRecDepth 100000

/-- How many choices are left. -/
def leftP (rb : Nat) (W : World) : Nat := match W.cell? ⟨rb, 1, none⟩ with | some (.string s) => s.size | _ => 0
theorem leftP_at {rb s : Nat} {W : World} {l : List UInt8} {tv : Value} (h : PR W rb s l tv) : leftP rb W = l.length := by
  unfold leftP
  rw [h.cells.2.1]
  show l.toArray.size = _
  simp
set_option maxHeartbeats 4000000 in
theorem do_loop (cs : List UInt8) (p : Node) (hp : p.ok) (IH : PGo cs p) : PGo cs (.loop p) := by
  intro W N rb B r tv hE hN hNB hB hR hI he hpl hst htr
  have hA : Below W.heap.size W (W.alloc (.cells #[.iface (nodeT p) (nodeX p)] 77)) := (Below.refl _ _).alloc (Nat.le_refl _) _
  have L0 := Boxed.new W 77 (.iface (nodeT p) (nodeX p))
  have hFA := foot_below rb tv.ownBlock hA
  have hR0 := hR.kept hA
  have hI0 := hI.below hA
  have hE0 := hE.below hA (by omega)
  have hB0 : B ≤ (W.alloc (.cells #[.iface (nodeT p) (nodeX p)] 77)).heap.size := by simp; omega
  rw [show nodeV (.loop p) = .iface 77 (.agg #[nodeV p]) from rfl, nodeV_eq p hp]
  have t1 := as81_77 (.iface (nodeT p) (nodeX p))
  have t2 := as81_79 (.iface (nodeT p) (nodeX p))
  have t3 := as81_81 (.iface (nodeT p) (nodeX p))
  have hrl := hR.lt
  have hown := fun k e => (hI.own k e)
  have HO := Lib.hid hown
  obtain ⟨V, hV⟩ : ∃ V, V = W.alloc (.cells #[.iface (nodeT p) (nodeX p)] 77) := ⟨_, rfl⟩
  rw [← hV] at hFA hR0 hI0 hE0 hB0 L0
  have HV := Lib.hid hV
  clear hV hown hA
  generalize hres : go10 cs (.loop p) r = y at htr ⊢
  have H2 := fun X x tvx => IH X N rb B x tvx
  rw [nodeV_eq p hp] at H2
  clear IH
  go_enter Tryd.func23, Tryd.ntmps23
  go_wp2_with fail
  rw [← HV.out]
  go_loopw [] (fun wr => ∃ (x : R10) (tvx : Value), PR wr rb x.st (cs.drop x.pos) tvx ∧ IRow wr B tvx x.tr ∧ Foot rb tv.ownBlock tvx.ownBlock V wr ∧ go10 cs (.loop p) x = y ∧ x.ends = false ∧ x.pos ≤ cs.length ∧ x.st < 9) (fun wr => leftP rb wr)
  case atStart => exact ⟨r, tv, hR0, hI0, Foot.refl _ _ _, hres, he, hpl, hst⟩
  case round =>
    obtain ⟨x, tvx, hRx, hIx, hFx, hyx, hex, hpx, hsx⟩ := hrel
    rw [go10_loop hpx hex] at hyx
    have hEx := hE0.foot hFx hN (fun k e => by have := (HO.out k e).1; omega)
    have hst2 : x.stuck = false ∧ x.err = false := by
      unfold R10.ends at hex
      rw [Bool.or_eq_false_iff] at hex
      exact hex
    cases hgt : cs[x.pos]? with
    | none =>
      rw [took_none hgt, if_neg (show ¬ ((0 : UInt8) = 109) by decide)] at hyx
      subst hyx
      have H1 := pagain_none (by rw [← drop_none hgt]; exact hRx) hEx
      go_wp2_with (go_at_call 34; refine H1.mono ?_; rintro e W1 ⟨⟨v, rfl⟩, hG⟩)
      exact ⟨rfl, pran_bad (by simp [R10.ends]) (by simp) ((hFA.trans hFx).trans (foot_grown _ hG)) ⟨v, rfl⟩⟩
    | some c =>
      have hdr := drop_some hgt
      rw [hdr] at hRx
      have hlt := (List.getElem?_eq_some_iff.1 hgt).1
      have hap := hRx.apart hIx
      by_cases h1 : c = 101
      · subst h1
        rw [took_in hgt (by simp), if_neg (show ¬ ((101 : UInt8) = 109) by decide)] at hyx
        subst hyx
        have H1 := pagain_hit (.inr rfl) hRx
        go_wp2_with (go_at_call 34; refine H1.mono ?_; rintro e W1 ⟨rfl, hR1, hG⟩)
        go_end0
        exact pran_go (by simp [R10.ends, hst2.1, hst2.2]) ((hFA.trans hFx).trans (foot_grown _ hG)) hR1 (hIx.kept hG (.inr hap))
      by_cases h2 : c = 109
      · subst h2
        rw [took_in hgt (by simp), if_pos rfl] at hyx
        have H1 := pagain_hit (.inl rfl) hRx
        have hwb := went_go cs p ⟨x.pos + 1, x.st, x.err, x.stuck, x.tr⟩
        have hwl := went_go cs (.loop p) (go10 cs p ⟨x.pos + 1, x.st, x.err, x.stuck, x.tr⟩)
        rw [hyx] at hwl
        have hbd := Nat.le_trans hwl.tr htr
        have hpos := hwb.pos
        have hple := hwb.le hlt
        have hpst := hwb.st hsx
        have H3 := fun X => H2 X ⟨x.pos + 1, x.st, x.err, x.stuck, x.tr⟩ tvx
        have hend := fun h => go10_loop_end (cs := cs) (p := p) (r := go10 cs p ⟨x.pos + 1, x.st, x.err, x.stuck, x.tr⟩) h
        have HY := Lib.hid hyx
        generalize go10 cs p ⟨x.pos + 1, x.st, x.err, x.stuck, x.tr⟩ = z at *
        have HEND := Lib.hid hend
        clear hyx hwl hwb H2 hend
        cases hze : z.ends with
        | true =>
          have hzy : z = y := (HEND.out hze).symm.trans HY.out
          subst hzy
          go_wp2_with (first
            | (go_at_call 34; refine H1.mono ?_; rintro e W1 ⟨rfl, hR1, hG⟩; have hF1 := hFx.trans (foot_grown tvx.ownBlock hG); have hz0 := (show Boxed W1 _ _ _ from (hF1.block _ L0.lt (by omega) (fun e => by have := (HO.out _ e.symm).2; omega)).trans L0).cell; have H4 := H3 W1 (hE0.foot hF1 hN (fun k e => by have := (HO.out k e).1; omega)) hN hNB (by have := hF1.size; omega) hR1 (hIx.kept hG (.inr hap)) hex hlt hsx hbd)
            | (go_at_call 23; refine H4.mono ?_; rintro e W2 ⟨o2, hF2, hm⟩; rw [if_pos hze] at hm; obtain ⟨T, v, rfl, hh⟩ := hm))
          exact ⟨rfl, pran_then (hFA.trans hF1) ⟨o2, hF2, by rw [if_pos hze]; exact ⟨T, v, rfl, hh⟩⟩⟩
        | false =>
          go_wp2_with (first
            | (go_at_call 34; refine H1.mono ?_; rintro e W1 ⟨rfl, hR1, hG⟩; have hF1 := hFx.trans (foot_grown tvx.ownBlock hG); have hz0 := (show Boxed W1 _ _ _ from (hF1.block _ L0.lt (by omega) (fun e => by have := (HO.out _ e.symm).2; omega)).trans L0).cell; have H4 := H3 W1 (hE0.foot hF1 hN (fun k e => by have := (HO.out k e).1; omega)) hN hNB (by have := hF1.size; omega) hR1 (hIx.kept hG (.inr hap)) hex hlt hsx hbd)
            | (go_at_call 23; refine H4.mono ?_; rintro e W2 ⟨o2, hF2, hm⟩; rw [if_neg (by rw [hze]; simp)] at hm; obtain ⟨rfl, tv2, rfl, hR2, hI2⟩ := hm))
          go_roundw
          case rel => exact ⟨z, tv2, hR2, hI2, hF1.trans hF2, HY.out, hze, hple, hpst⟩
          case measure =>
            rw [leftP_at hR2, leftP_at hRx]
            simp only [List.length_drop, List.length_cons]
            omega
      rw [took_out hgt (by simp [h1, h2]), if_neg (show ¬ ((0 : UInt8) = 109) by decide)] at hyx
      subst hyx
      have H1 := pagain_miss h2 h1 hRx hEx hN
      go_wp2_with (go_at_call 34; refine H1.mono ?_; rintro e W1 ⟨⟨v, rfl⟩, hG⟩)
      exact ⟨rfl, pran_bad (by simp [R10.ends]) (by simp) ((hFA.trans hFx).trans (foot_grown _ hG)) ⟨v, rfl⟩⟩
/-- **A RUN BY CHOICES, FOR EVERY PROGRAM.** -/
theorem pgo10 (cs : List UInt8) : ∀ nd : Node, nd.ok → PGo cs nd
  | .atom a, h => do_atom cs a h
  | .loop p, h => do_loop cs p h (pgo10 cs p h)
  | .pair k p q, h => by
    rcases h.1 with rfl | rfl
    · exact do_seq cs p q h.2.1 h.2.2 (pgo10 cs p h.2.1) (pgo10 cs q h.2.2)
    · exact do_choice cs p q h.2.1 h.2.2 (pgo10 cs p h.2.1) (pgo10 cs q h.2.2)
end Go.Proofs.YtfoifcbpognjaaaDoor

