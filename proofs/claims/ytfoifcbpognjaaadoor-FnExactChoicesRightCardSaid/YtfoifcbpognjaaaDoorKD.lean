/- Chapter 10, the program: every atom of a run. -/
import Derived.Test.YtfoifcbpognjaaaDoorKC
import Derived.Test.YtfoifcbpognjaaaDoorJI
namespace Go.Proofs.YtfoifcbpognjaaaDoor
open Go.ChangeShapes Go.WideShapes Go.ChangeAt Go.RowKit Go.Shelf
set_option maxRecDepth 100000

/-- The panic that ends a run: of an end, where the choices are used up; of the error, else. -/
def HaltV (cs : List UInt8) (B : Nat) (x : R10) (T : TypeId) (v : Value) (W' : World) : Prop :=
  (x.stuck = false ∧ x.pos = cs.length ∧ T = 36 ∧ ∃ tv, v = .agg #[.int .i64 1, .int .i64 (x.st : Int), tv] ∧ IRow W' B tv x.tr) ∨ (¬ (x.stuck = false ∧ x.pos = cs.length) ∧ T = 128)
/-- What a part of the program's run leaves. -/
def PRan (cs : List UInt8) (rb B : Nat) (o : Option Nat) (x : R10) (W : World) (e : Ending) (W' : World) : Prop :=
  ∃ o', Foot rb o o' W W' ∧ if x.ends = true then ∃ T v, e = .panicked [{ v := .iface T v, recovered := false }] ∧ HaltV cs B x T v W'
    else e = .returned (.tuple #[]) ∧ ∃ tv', o' = tv'.ownBlock ∧ PR W' rb x.st (cs.drop x.pos) tv' ∧ IRow W' B tv' x.tr
theorem pran_go {cs : List UInt8} {rb B : Nat} {o : Option Nat} {x : R10} {W W' : World} {tv' : Value} (he : x.ends = false) (hf : Foot rb o tv'.ownBlock W W') (hR : PR W' rb x.st (cs.drop x.pos) tv') (hI : IRow W' B tv' x.tr) : PRan cs rb B o x W (.returned (.tuple #[])) W' := by
  refine ⟨_, hf, ?_⟩
  rw [if_neg (by rw [he]; simp)]
  exact ⟨rfl, tv', rfl, hR, hI⟩
theorem pran_bad {cs : List UInt8} {rb B : Nat} {o o' : Option Nat} {x : R10} {W W' : World} {e : Ending} (he : x.ends = true) (hn : ¬ (x.stuck = false ∧ x.pos = cs.length)) (hf : Foot rb o o' W W') (hb : Bad e) : PRan cs rb B o x W e W' := by
  refine ⟨_, hf, ?_⟩
  rw [if_pos he]
  obtain ⟨v, rfl⟩ := hb
  exact ⟨_, v, rfl, .inr ⟨hn, rfl⟩⟩
theorem drop_none {cs : List UInt8} {p : Nat} (h : cs[p]? = none) : cs.drop p = [] := List.drop_eq_nil_iff.2 (List.getElem?_eq_none_iff.1 h)
theorem drop_some {cs : List UInt8} {p : Nat} {c : UInt8} (h : cs[p]? = some c) : cs.drop p = c :: cs.drop (p + 1) := by
  obtain ⟨hl, he⟩ := List.getElem?_eq_some_iff.1 h
  rw [List.drop_eq_getElem_cons hl, he]
/-- '?' by a value: one of three states. -/
theorem any_digit : ∀ s : Fin 9, ∀ v ∈ ([120, 121] : List UInt8), ∀ c ∈ ([48, 49, 50] : List UInt8), upTo ((atomR [v, c] (2 ^ s.val)).1 : Int) 9 = [((lst10 [v, 63] s.val)[c.toNat - 48]?).getD 0] ∧ (atomR [v, c] (2 ^ s.val)).2 = 0 ∧ (atomR [v, c] (2 ^ s.val)).1 < 512 ∧ [v, c] ∈ twos := by decide +kernel
theorem three_of {l : List (Fin 9)} (h : l.length = 3) : ∃ a b c, l = [a, b, c] := by
  match l, h with
  | [a, b, c], _ => exact ⟨a, b, c, rfl⟩
theorem any_get : ∀ s : Fin 9, ∀ v ∈ ([120, 121] : List UInt8), ∀ c ∈ ([48, 49, 50] : List UInt8), ∀ f ss, lst10 [v, 63] s.val = f :: ss → ((f :: ss)[c.toNat - 48]?).getD f = ((lst10 [v, 63] s.val)[c.toNat - 48]?).getD 0 := by
  intro s v hv c hc f ss h
  have h3 := any_three s
  have hl : (lst10 [v, 63] s.val).length = 3 := by
    simp only [List.mem_cons, List.not_mem_nil, or_false] at hv
    rcases hv with rfl | rfl
    · exact h3.1
    · exact h3.2
  obtain ⟨x, y, z, e⟩ := three_of hl
  rw [h]
  rw [e] at h
  cases h
  simp only [List.mem_cons, List.not_mem_nil, or_false] at hc
  rcases hc with rfl | rfl | rfl <;> rfl
theorem last_no {a : List UInt8} (h : (Node.atom a).ok) (hq : ¬ a.drop 1 = [63]) : (((⟨a.toArray⟩ : ByteArray).extract ((⟨a.toArray⟩ : ByteArray).size - 1) (⟨a.toArray⟩ : ByteArray).size).toList == [63]) = false := by
  have hs : (⟨a.toArray⟩ : ByteArray).size = a.length := by show a.toArray.size = _; simp
  rw [hs, ext_drop a (a.length - 1), Lib.toList_data]
  simp only [beq_eq_false_iff_ne, ne_eq]
  rcases h with rfl | rfl | h | ⟨t, ht, rfl⟩
  · decide
  · decide
  · obtain ⟨c, d, rfl, hc⟩ := twos_shape h
    simpa using hq
  · obtain ⟨x, y, z, rfl⟩ := test_three ht
    intro e
    simp at e
theorem ok_size {a : List UInt8} (h : (Node.atom a).ok) : 1 ≤ a.length ∧ a.length ≤ 5 := by
  rcases h with rfl | rfl | h | ⟨t, ht, rfl⟩
  · decide
  · decide
  · obtain ⟨c, d, rfl, hc⟩ := twos_shape h
    simp
  · obtain ⟨x, y, z, rfl⟩ := test_three ht
    simp
theorem head_cons {m : Int} {f : Fin 9} {ss : List (Fin 9)} (h : upTo m 9 = f :: ss) : headI m = ((f.val : Nat) : Int) ∧ someI m = true := by
  unfold headI someI
  rw [h]
  exact ⟨rfl, rfl⟩
theorem patom10 (cs : List UInt8) (a : List UInt8) (hok : (Node.atom a).ok) (W : World) (rb B N : Nat) (r : R10) (tv : Value) (hE : NotRight N W) (hN : N ≤ rb) (hNB : N ≤ B) (hB : B ≤ W.heap.size) (hR : PR W rb r.st (cs.drop r.pos) tv) (hI : IRow W B tv r.tr) (he : r.ends = false) (hp : r.pos ≤ cs.length) (hst9 : r.st < 9) (hlen : r.tr.length ≤ 1000000) :
    Calls Tryd.prog 35 #[.pointer (some ⟨rb, 0, none⟩), .string ⟨a.toArray⟩] W (PRan cs rb B tv.ownBlock (atom10 cs a r) W) := by
  have hst : r.stuck = false ∧ r.err = false := by
    unfold R10.ends at he
    rw [Bool.or_eq_false_iff] at he
    exact he
  have hn8 : ((r.st : Nat) : Int) ≤ 8 := by omega
  have hm := pow_lt r.st (by omega)
  have hNW : N ≤ W.heap.size := Nat.le_trans hNB hB
  have hs : (⟨a.toArray⟩ : ByteArray).size = a.length := by show a.toArray.size = _; simp
  obtain ⟨hz1, hz5⟩ := ok_size hok
  have HA0 := fun w => ra47 a hok (2 ^ r.st) hm w
  have eR : runR (.atom a) (2 ^ r.st) = atomR a (2 ^ r.st) := by unfold runR; rfl
  rw [eR] at HA0
  by_cases hb : a = [33]
  · subst hb
    have ha : atom10 cs [33] r = ⟨r.pos, r.st, true, r.stuck, r.tr ++ [(r.st : Int)]⟩ := by unfold atom10; rw [if_pos rfl]
    rw [ha]
    have HA : ∀ w, Calls Tryd.prog 49 #[.string ⟨#[33]⟩, .int .i64 ((2 ^ r.st : Nat) : Int)] w fun e w' => e = .returned (outV (0, 2 ^ r.st)) ∧ Below w.heap.size w w' := HA0
    cases hd : cs.drop r.pos with
    | nil =>
      rw [hd] at hR
      have hpl : r.pos = cs.length := by have := List.drop_eq_nil_iff.1 hd; omega
      refine (patom_bang_ok hn8 HA hR hI hB hlen).mono ?_
      rintro e W' ⟨tv', rfl, hI', hF⟩
      refine ⟨_, hF, ?_⟩
      rw [if_pos (by unfold R10.ends; simp)]
      exact ⟨_, _, rfl, .inl ⟨hst.1, hpl, rfl, tv', rfl, hI'⟩⟩
    | cons c l =>
      rw [hd] at hR
      have hpl : ¬ r.pos = cs.length := fun e => by rw [e, List.drop_length] at hd; cases hd
      refine (patom_bang_left hn8 HA hR hI hB hlen hE hNW hN (fun k e => Nat.le_trans hNB (hI.own k e).1)).mono ?_
      rintro e W' ⟨hbad, o', hF⟩
      exact pran_bad (by unfold R10.ends; simp) (fun h => hpl h.2) hF hbad
  · obtain ⟨h2, _⟩ := atom_noerr hok hb (2 ^ r.st)
    have hx9 : (atomR a (2 ^ r.st)).1 < 512 := (atom_lt hok hm).1
    have ha : atom10 cs a r = (match lst10 a r.st with
      | [] => ⟨r.pos, r.st, r.err, true, r.tr⟩
      | s :: ss => if a.drop 1 = [63] then
          if (took cs [48, 49, 50] r).1.stuck then (took cs [48, 49, 50] r).1
          else (took cs [48, 49, 50] r).1.goto (((s :: ss)[(took cs [48, 49, 50] r).2.toNat - 48]?.getD s).val)
        else r.goto s.val) := by unfold atom10; rw [if_neg hb]; cases lst10 a r.st <;> rfl
    rw [ha]
    by_cases hq : a.drop 1 = [63]
    · obtain ⟨v, hv, rfl⟩ : ∃ v : UInt8, v ∈ ([120, 121] : List UInt8) ∧ a = [v, 63] := by
        rcases any_shape hok hq with rfl | rfl
        · exact ⟨120, by simp, rfl⟩
        · exact ⟨121, by simp, rfl⟩
      have h3 := any_three ⟨r.st, hst9⟩
      have hl3 : (lst10 [v, 63] r.st).length = 3 := by
        simp only [List.mem_cons, List.not_mem_nil, or_false] at hv
        rcases hv with rfl | rfl
        · exact h3.1
        · exact h3.2
      cases hl : lst10 [v, 63] r.st with
      | nil => rw [hl] at hl3; cases hl3
      | cons s ss =>
        simp only [hq, if_true]
        cases hg : cs[r.pos]? with
        | none =>
          rw [drop_none hg] at hR
          rw [took_none hg]
          refine (patom_any_none hR hE).mono ?_
          rintro e W' ⟨hbad, hF⟩
          exact pran_bad (by simp [R10.ends]) (by simp) hF hbad
        | some c =>
          rw [drop_some hg] at hR
          by_cases hc : c ∈ ([48, 49, 50] : List UInt8)
          · rw [took_in hg hc]
            obtain ⟨d1, d2, d3, d4⟩ := any_digit ⟨r.st, hst9⟩ v hv c hc
            have hgt := any_get ⟨r.st, hst9⟩ v hv c hc s ss hl
            simp only at d1 d2 d3 hgt
            obtain ⟨g1, g2⟩ := head_cons d1
            rw [← hgt] at g1
            have HA : ∀ w, Calls Tryd.prog 49 #[.string ⟨#[v, c]⟩, .int .i64 ((2 ^ r.st : Nat) : Int)] w fun e w' => e = .returned (outV ((atomR [v, c] (2 ^ r.st)).1, 0)) ∧ Below w.heap.size w w' := fun w => by
              refine (ra47 [v, c] (.inr (.inr (.inl d4))) (2 ^ r.st) hm w).mono ?_
              rintro e w' ⟨rfl, hbw⟩
              refine ⟨?_, hbw⟩
              show Ending.returned (.agg #[.int .i64 ((atomR [v, c] (2 ^ r.st)).1 : Int), .int .i64 ((atomR [v, c] (2 ^ r.st)).2 : Int)]) = _
              rw [d2]
              rfl
            simp only [hst.1, Bool.false_eq_true, if_false]
            refine (patom_any hn8 (by simpa using hc) HA d3 g1 g2 hR hI hB hlen).mono ?_
            rintro e W' ⟨rfl, tv', hR', hI', hF⟩
            exact pran_go (by simp [R10.ends, R10.goto, hst.2]) hF hR' hI'
          · rw [took_out hg hc]
            have hc' : c ≠ 48 ∧ c ≠ 49 ∧ c ≠ 50 := by simpa using hc
            refine (patom_any_miss hc'.1 hc'.2.1 hc'.2.2 hR hE hN).mono ?_
            rintro e W' ⟨hbad, hF⟩
            exact pran_bad (by simp [R10.ends]) (by simp) hF hbad
    · have hla := last_no hok hq
      simp only [hq, if_false]
      have HA : ∀ w, Calls Tryd.prog 49 #[.string ⟨a.toArray⟩, .int .i64 ((2 ^ r.st : Nat) : Int)] w fun e w' => e = .returned (outV ((atomR a (2 ^ r.st)).1, 0)) ∧ Below w.heap.size w w' := fun w => by
        refine (HA0 w).mono ?_
        rintro e w' ⟨rfl, hbw⟩
        refine ⟨?_, hbw⟩
        show Ending.returned (.agg #[.int .i64 ((atomR a (2 ^ r.st)).1 : Int), .int .i64 ((atomR a (2 ^ r.st)).2 : Int)]) = _
        rw [h2]
        rfl
      cases hl : lst10 a r.st with
      | nil =>
        have h0 : (atomR a (2 ^ r.st)).1 = 0 := up_nil ⟨_, hx9⟩ hl
        rw [h0] at HA
        refine (patom_stick hn8 (by rw [hs]; omega) (by rw [hs]; omega) hla HA hR hI hE hNW).mono ?_
        rintro e W' ⟨hbad, hF⟩
        exact pran_bad (by simp [R10.ends]) (by simp) hF hbad
      | cons s ss =>
        obtain ⟨g1, g2⟩ := head_cons (show upTo ((atomR a (2 ^ r.st)).1 : Int) 9 = s :: ss from hl)
        refine (patom_go hn8 (by rw [hs]; omega) (by rw [hs]; omega) hla HA hx9 g1 g2 hR hI hB hlen).mono ?_
        rintro e W' ⟨rfl, tv', hR', hI', hF⟩
        exact pran_go (by simp [R10.ends, R10.goto, hst.1, hst.2]) hF hR' hI'
end Go.Proofs.YtfoifcbpognjaaaDoor

