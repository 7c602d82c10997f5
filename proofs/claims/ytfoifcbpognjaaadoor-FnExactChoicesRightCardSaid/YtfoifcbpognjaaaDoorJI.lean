/- Chapter 10, the model: every atom, every program. -/
import Derived.Test.YtfoifcbpognjaaaDoorJG
import Derived.Test.YtfoifcbpognjaaaDoorJH
namespace Go.Proofs.YtfoifcbpognjaaaDoor
open Go.ChangeShapes Go.WideShapes Go.ChangeAt Go.RowKit Go.Shelf
set_option maxRecDepth 100000

theorem up_nil : ∀ m : Fin 512, upTo (m.val : Int) 9 = [] → m.val = 0 := by decide +kernel
theorem up_zero : upTo 0 9 = [] := by decide +kernel
/-- '?' reaches three states. -/
theorem any_three : ∀ s : Fin 9, (lst10 [120, 63] s.val).length = 3 ∧ (lst10 [121, 63] s.val).length = 3 := by decide +kernel
theorem toL (a : List UInt8) : (⟨a.toArray⟩ : ByteArray).toList = a := by rw [Lib.toList_data]
theorem extL (a : List UInt8) : ((⟨a.toArray⟩ : ByteArray).extract 1 (⟨a.toArray⟩ : ByteArray).size).toList = a.drop 1 := by
  have hs : (⟨a.toArray⟩ : ByteArray).size = a.length := by show a.toArray.size = _; simp
  rw [Lib.toList_data, Lib.extract_data, hs]
  show (a.toArray.toList.drop 1).take _ = _
  rw [List.toList_toArray, List.take_of_length_le (by rw [List.length_drop]; exact Nat.le_refl _)]
/-- Only '!' fails. -/
theorem atom_noerr {a : List UInt8} (h : (Node.atom a).ok) (hb : a ≠ [33]) (m : Nat) : (atomR a m).2 = 0 ∧ 1 ≤ a.length := by
  rcases h with rfl | rfl | h | ⟨t, ht, rfl⟩
  · exact ⟨rfl, by decide⟩
  · exact absurd rfl hb
  · obtain ⟨c, d, rfl, hc⟩ := twos_shape h
    rcases hc with rfl | rfl <;> exact ⟨rfl, by simp⟩
  · obtain ⟨x, y, z, rfl⟩ := test_three ht
    exact ⟨rfl, by simp⟩
theorem any_shape {a : List UInt8} (h : (Node.atom a).ok) (hq : a.drop 1 = [63]) : a = [120, 63] ∨ a = [121, 63] := by
  rcases h with rfl | rfl | h | ⟨t, ht, rfl⟩
  · cases hq
  · cases hq
  · obtain ⟨c, d, rfl, hc⟩ := twos_shape h
    have : d = 63 := by simpa using hq
    subst this
    rcases hc with rfl | rfl
    · exact .inl rfl
    · exact .inr rfl
  · obtain ⟨x, y, z, rfl⟩ := test_three ht
    simp at hq
theorem matom10 (cs : List UInt8) (hcs : cs.length ≤ 9000000) (a : List UInt8) (hok : (Node.atom a).ok) (W : World) (rb B : Nat) (r : R10) (tv : Value) (hB : B ≤ W.heap.size) (hR : RnAt W rb ⟨cs.toArray⟩ r tv) (hI : IRow W B tv r.tr) (hp : r.pos ≤ cs.length) (hst9 : r.st < 9) (he : r.ends = false) (hlen : r.tr.length ≤ 1000000) :
    Calls Tryd.prog 28 #[.pointer (some ⟨rb, 0, none⟩), .string ⟨a.toArray⟩] W (Ran cs rb B tv.ownBlock (atom10 cs a r) W) := by
  have hst : r.stuck = false := by
    unfold R10.ends at he
    rw [Bool.or_eq_false_iff] at he
    exact he.1
  have hn8 : ((r.st : Nat) : Int) ≤ 8 := by omega
  have hsh : wrap64 (2 ^ r.st) = ((2 ^ r.st : Nat) : Int) := shl_nat r.st (by omega)
  have hm := pow_lt r.st (by omega)
  by_cases hb : a = [33]
  · subst hb
    exact atom_r_bang rfl hn8 hsh hst hR hI hB hlen
  · obtain ⟨h2, h1⟩ := atom_noerr hok hb (2 ^ r.st)
    have HA : ∀ w, Calls Tryd.prog 37 #[.string ⟨a.toArray⟩, .int .i64 ((2 ^ r.st : Nat) : Int)] w fun e w' => e = .returned (outV ((atomR a (2 ^ r.st)).1, 0)) ∧ Below w.heap.size w w' := fun w => by
      refine (matom40 a hok (2 ^ r.st) hm w).mono ?_
      rintro e w' ⟨rfl, hbw⟩
      refine ⟨?_, hbw⟩
      show Ending.returned (.agg #[.int .i64 ((atomR a (2 ^ r.st)).1 : Int), .int .i64 ((atomR a (2 ^ r.st)).2 : Int)]) = _
      rw [h2]
      rfl
    have hx9 : (atomR a (2 ^ r.st)).1 < 512 := (atom_lt hok hm).1
    have hq1 : ((⟨a.toArray⟩ : ByteArray).toList == [33]) = false := by rw [toL]; simpa using hb
    have hz1 : (1 : Int) ≤ ((⟨a.toArray⟩ : ByteArray).size : Int) := by
      have hs : (⟨a.toArray⟩ : ByteArray).size = a.length := by show a.toArray.size = _; simp
      omega
    have ha : atom10 cs a r = (match lst10 a r.st with
      | [] => ⟨r.pos, r.st, r.err, true, r.tr⟩
      | s :: ss => if a.drop 1 = [63] then
          if (took cs [48, 49, 50] r).1.stuck then (took cs [48, 49, 50] r).1
          else (took cs [48, 49, 50] r).1.goto (((s :: ss)[(took cs [48, 49, 50] r).2.toNat - 48]?.getD s).val)
        else r.goto s.val) := by unfold atom10; rw [if_neg hb]; cases lst10 a r.st <;> rfl
    rw [ha]
    have hthree : a.drop 1 = [63] → (lst10 a r.st).length = 3 := fun hq => by
      rcases any_shape hok hq with rfl | rfl
      · exact (any_three ⟨r.st, hst9⟩).1
      · exact (any_three ⟨r.st, hst9⟩).2
    cases hl : lst10 a r.st with
    | nil =>
      have h0 : (atomR a (2 ^ r.st)).1 = 0 := up_nil ⟨_, hx9⟩ hl
      rw [h0] at HA
      exact atom_r_stick rfl hn8 hsh hq1 HA hR hI
    | cons s ss =>
      rw [hl] at hthree
      have hx0 : (((atomR a (2 ^ r.st)).1 : Int) == 0) = false := by
        simp only [beq_eq_false_iff_ne, ne_eq]
        intro e
        have hl2 : upTo ((atomR a (2 ^ r.st)).1 : Int) 9 = s :: ss := hl
        rw [e, up_zero] at hl2
        cases hl2
      by_cases hq : a.drop 1 = [63]
      · have hq2 : (((⟨a.toArray⟩ : ByteArray).extract 1 (⟨a.toArray⟩ : ByteArray).size).toList == [63]) = true := by rw [extL, hq]; rfl
        simp only [hq, if_true]
        rcases took_cases cs [48, 49, 50] r with ht | ⟨c, _, hc, _, ht⟩
        · rw [ht]
          exact atom_r_none rfl hn8 hsh hx0 hq1 hq2 hz1 HA hcs hp ht hR hI
        · rw [ht]
          simp only [hst, Bool.false_eq_true, if_false]
          match ss, hl, hthree hq with
          | [s1, s2], hl, _ =>
            simp only [List.mem_cons, List.not_mem_nil, or_false] at hc
            have G := fun (k : Nat) (f : Fin 9) hc3 hk => atom_r_any (k := k) (f := f) rfl hn8 hsh hx0 hq1 hq2 hz1 HA hst hl hcs hp ht hc3 hk hR hI hB hlen
            rw [hst] at G
            rcases hc with rfl | rfl | rfl
            · exact G 0 s (.inl ⟨rfl, rfl⟩) rfl
            · exact G 1 s1 (.inr (.inl ⟨rfl, rfl⟩)) rfl
            · exact G 2 s2 (.inr (.inr ⟨rfl, rfl⟩)) rfl
      · have hq2 : (((⟨a.toArray⟩ : ByteArray).extract 1 (⟨a.toArray⟩ : ByteArray).size).toList == [63]) = false := by rw [extL]; simpa using hq
        simp only [hq, if_false]
        exact atom_r_go rfl hn8 hsh hx0 hq1 hq2 hz1 HA hst hl hR hI hB hlen
/-- **A RUN WITH CHOICES, FOR EVERY PROGRAM.** -/
theorem mgo10 (cs : List UInt8) (hcs : cs.length ≤ 9000000) : ∀ nd : Node, nd.ok → MGo cs nd
  | .atom a, h => mgo_atom cs a (matom10 cs hcs a h)
  | .loop p, h => mgo_loop cs hcs p (mgo10 cs hcs p h)
  | .pair k p q, h => by
    rcases h.1 with rfl | rfl
    · exact mgo_seq cs p q (mgo10 cs hcs p h.2.1) (mgo10 cs hcs q h.2.2)
    · exact mgo_choice cs hcs p q (mgo10 cs hcs p h.2.1) (mgo10 cs hcs q h.2.2)
end Go.Proofs.YtfoifcbpognjaaaDoor

