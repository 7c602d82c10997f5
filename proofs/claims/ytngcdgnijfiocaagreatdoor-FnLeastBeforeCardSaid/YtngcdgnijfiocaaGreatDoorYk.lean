/- Chapter 8: the walk of the law on the least triples. Chapter 8: the walk of the law on the least triples. -/
import Derived.Test.YtngcdgnijfiocaaGreatDoorYx
import Derived.Test.YtngcdgnijfiocaaGreatDoorYi
import Derived.Test.YtngcdgnijfiocaaGreatDoorYh
import Derived.Test.YtngcdgnijfiocaaGreatDoorYj
namespace Go.Proofs.YtngcdgnijfiocaaGreatDoor
open Go.ChangeShapes Go.WideShapes Go.ChangeAt Go.RowKit Go.Shelf
attribute [local go_sem] Oper.semAt_some
set_option maxRecDepth 100000

theorem valid_parts {n : Nat} {p : ByteArray} {x r : Int} (h : validT (n : Int) p x r = true) : ∃ nd q, readP p.toList = some nd ∧ n < 512 ∧ q < 512 ∧ r = ((q : Nat) : Int) ∧ (x = 0 ∨ x = 1) := by
  obtain ⟨h1, h2, h3, h4⟩ := valid_all h
  obtain ⟨q, hq, rfl⟩ := set_nat h4
  obtain ⟨nd, hnd⟩ := Option.isSome_iff_exists.1 h2
  have hn : n < 512 := by have := of_decide_eq_true h1; omega
  exact ⟨nd, q, hnd, hn, hq, rfl, h3⟩
theorem valid_any {n n' : Nat} {p : ByteArray} {x r : Int} (h : validT (n : Int) p x r = true) (hn : n' < 512) : validT (n' : Int) p x r = true := by
  unfold validT at h ⊢
  rw [Bool.and_eq_true, Bool.and_eq_true, Bool.and_eq_true] at h
  rw [h.1.1.2, h.1.2, h.2, isSet_n hn]
  rfl
theorem sure_iff {n q : Nat} {p : ByteArray} {x : Int} {nd : Node} (hP : readP p.toList = some nd) (hn : n < 512) (hq : q < 512) (hx : x = 0 ∨ x = 1) (hok : nd.ok) : sureT (n : Int) p x (q : Int) = true ↔ Sub9 q (exitN x (runR nd n)) := by
  have hE := exit_lt nd hok x hn
  have hv : validT (n : Int) p x (q : Int) = true := by
    unfold validT isP
    rw [isSet_n hn, isSet_n hq, hP, inB_yes (by omega)]
    rfl
  rw [(sure_yes hv).1, (reach_ok hP hn hx).1, andNot_512 hq hE, ← diff_zero hq hE]
  rw [beq_iff_eq]
  omega
theorem up_cnt (n : Nat) (hn : n < 512) : ∀ k, k ≤ 9 → (upTo (n : Int) k).length = cnt n k
  | 0, _ => rfl
  | k + 1, h => by
    have ih := up_cnt n hn k (by omega)
    have e := hasB_bit hn (k := k) (by omega)
    unfold cnt
    cases hb : n.testBit k with
    | true => rw [upTo_hit _ (by omega) (e.trans hb), List.length_append, ih]; simp
    | false => rw [upTo_miss _ (e.trans hb), ih]; simp

/-- What the law asks of the least set. -/
theorem least_all {m q : Nat} {p : ByteArray} {x : Int} (h : sureT (m : Int) p x (q : Int) = true) (hm : m < 512) (hq : q < 512) :
    leastT (fun n => sureT (n : Int) p x (q : Int)) m 0 < 512 ∧ sureT ((leastT (fun n => sureT (n : Int) p x (q : Int)) m 0 : Nat) : Int) p x (q : Int) = true ∧ Sub9 (leastT (fun n => sureT (n : Int) p x (q : Int)) m 0) m ∧
    (∀ s, s < 9 → (leastT (fun n => sureT (n : Int) p x (q : Int)) m 0).testBit s = true → sureT ((dropN (leastT (fun n => sureT (n : Int) p x (q : Int)) m 0) s : Nat) : Int) p x (q : Int) = false) ∧
    cnt (leastT (fun n => sureT (n : Int) p x (q : Int)) m 0) 9 ≤ cnt q 9 := by
  have hv : validT (m : Int) p x (q : Int) = true := by unfold sureT at h; rw [Bool.and_eq_true] at h; exact h.1
  obtain ⟨nd, q', hP, _, hq', he, hx⟩ := valid_parts hv
  obtain ⟨hok, _⟩ := readP_iff.1 hP
  have hmono : ∀ a c, a < 512 → c < 512 → Sub9 a c → (fun n : Nat => sureT (n : Int) p x (q : Int)) a = true → (fun n : Nat => sureT (n : Int) p x (q : Int)) c = true := by
    intro a c ha hc hac hs
    have h1 := (sure_iff hP ha hq hx hok).1 hs
    refine (sure_iff hP hc hq hx hok).2 (fun i hi hb => ?_)
    obtain ⟨u, hu, hb1, hb2⟩ := (exit_bit nd x ha i).1 (h1 i hi hb)
    exact (exit_bit nd x hc i).2 ⟨u, hu, hac u hu hb1, hb2⟩
  have hS := leastA_holds (fun n : Nat => sureT (n : Int) p x (q : Int)) h 9
  have hLl : leastT (fun n : Nat => sureT (n : Int) p x (q : Int)) m 0 < 512 := leastA_lt _ hm 9
  have hmin := fun s hs hb => least_min (fun n : Nat => sureT (n : Int) p x (q : Int)) hmono hm (s := s) hs hb
  refine ⟨hLl, hS, ?_, hmin, ?_⟩
  · have := leastA_down (fun n : Nat => sureT (n : Int) p x (q : Int)) hm 0 9 (by omega)
    rw [Nat.zero_add] at this
    exact this
  · refine least_count (E := fun n => exitN x (runR nd n)) hq hLl (fun n hn => exit_lt nd hok x hn) (fun n hn j => exit_bit nd x hn j) ((sure_iff hP hLl hq hx hok).1 hS) (fun s hs hb hsub => ?_)
    have := hmin s hs hb
    have h2 := (sure_iff hP (drop_lt hLl) hq hx hok).2 hsub
    rw [h2] at this
    cases this
/-- Each state of a set: is the other set missed from it. -/
theorem each_at {q : Nat} {p : ByteArray} {x : Int} {nd : Node} (hP : readP p.toList = some nd) (hq : q < 512) (hx : x = 0 ∨ x = 1) {s : Nat} (hs : s < 9) : (missT ((2 ^ s : Nat) : Int) p x (q : Int) != (q : Int)) = (canN nd x q).testBit s := by
  obtain ⟨hok, _⟩ := readP_iff.1 hP
  have hE := exit_lt nd hok x (pow9 hs)
  have hv : validT ((2 ^ s : Nat) : Int) p x (q : Int) = true := by
    unfold validT isP
    rw [isSet_n (pow9 hs), isSet_n hq, hP, inB_yes (by omega)]
    rfl
  rw [(sure_yes hv).2.2.1, (reach_ok hP (pow9 hs) hx).1, andNot_512 hq hE, can_bit nd x q hs]
  generalize exitN x (runR nd (2 ^ s)) = z at hE
  have key : (q &&& (511 - z) = q) ↔ z &&& q = 0 := by
    constructor
    · intro h
      apply Nat.eq_of_testBit_eq
      intro i
      have h1 := congrArg (fun y => y.testBit i) h
      simp only [Nat.testBit_and, compl_bit hE] at h1
      rw [Nat.testBit_and, Nat.zero_testBit]
      cases ha : z.testBit i <;> cases hb : q.testBit i <;> simp [ha, hb] at h1 ⊢
    · intro h
      apply Nat.eq_of_testBit_eq
      intro i
      have h1 := congrArg (fun y => y.testBit i) h
      simp only [Nat.testBit_and, Nat.zero_testBit] at h1
      rw [Nat.testBit_and, compl_bit hE]
      by_cases h9 : i < 9
      · cases ha : z.testBit i <;> cases hb : q.testBit i <;> simp [ha, hb, h9] at h1 ⊢
      · rw [high_bit hq (by omega)]; rfl
  by_cases h : z &&& q = 0
  · rw [key.2 h, h]
    simp
  · have h2 : ¬ (q &&& (511 - z) = q) := fun e => h (key.1 e)
    rw [bne_iff_ne.2 h]
    exact bne_iff_ne.2 (by omega)
end Go.Proofs.YtngcdgnijfiocaaGreatDoor

namespace Go.Proofs.YtngcdgnijfiocaaGreatDoor
open Go.ChangeShapes Go.WideShapes Go.ChangeAt Go.RowKit Go.Shelf
attribute [local go_sem] Oper.semAt_some
set_option maxRecDepth 100000

theorem row_states {W : World} {B : Nat} {v : Value} {l : List (Fin 9)} (h : Holds W B v l) : ∃ a c, v = .slice a l.length c ∧ ∀ (j : Nat) (y : Fin 9), l[j]? = some y → ∃ g, a = some ⟨g, 0, none⟩ ∧ W.cell? ⟨g, j, none⟩ = some (.int .i64 (y.val : Int)) := by
  have h0 : W.ownsRow B 3 1 v l.length (cellsOf l) := h
  rcases h0.2 with ⟨rfl, hn⟩ | ⟨g, cap, cur, rfl, hb, hg, hn, hm, _⟩
  · have hz : l = [] := List.length_eq_zero_iff.1 hn
    subst hz
    exact ⟨none, 0, rfl, fun j y hj => by simp at hj⟩
  · refine ⟨_, cap, rfl, fun j y hj => ⟨g, rfl, ?_⟩⟩
    have hl := (List.getElem?_eq_some_iff.1 hj).1
    rw [World.ownsRow.cellAt h0 j (by omega)]
    unfold cellsOf
    rw [List.getElem?_map, hj]
    rfl
theorem sub9 : ∀ s : Fin 9, ∀ b : Fin 512, b.val.testBit s.val = true → (b.val : Int) - ((2 ^ s.val : Nat) : Int) = ((dropN b.val s.val : Nat) : Int) := by decide +kernel
theorem sub_or {a b : Nat} (ha : a < 512) (hb : b < 512) (h : Sub9 a b) : within (a : Int) (b : Int) = true :=
  within_or ha hb (inside_or ha hb ((diff_zero ha hb).2 h))
theorem within_all {n c : Nat} (hn : n < 512) (hc : c < 512) : within (n : Int) (c : Int) = (upTo (n : Int) 9).all fun y => c.testBit y.val := by
  have hmem : ∀ y : Fin 9, y ∈ upTo (n : Int) 9 ↔ n.testBit y.val = true := fun y => by
    rw [mem_upTo, hasB_bit hn y.isLt]
    exact ⟨fun h => h.2, fun h => ⟨y.isLt, h⟩⟩
  cases hw : (upTo (n : Int) 9).all fun y => c.testBit y.val with
  | true =>
    rw [List.all_eq_true] at hw
    exact sub_or hn hc (fun i hi hb => hw ⟨i, hi⟩ ((hmem ⟨i, hi⟩).2 hb))
  | false =>
    rw [List.all_eq_false] at hw
    obtain ⟨y, hy, hno⟩ := hw
    have hb := (hmem y).1 hy
    cases hx : within (n : Int) (c : Int) with
    | false => rfl
    | true =>
      exfalso
      unfold within at hx
      rw [isSet_n hn, isSet_n hc, andNot_512 hn hc, Bool.true_and, Bool.true_and, beq_iff_eq] at hx
      have hz : n &&& (511 - c) = 0 := by omega
      exact hno ((diff_zero hn hc).1 hz y.val y.isLt hb)
theorem each_all {n q : Nat} {p : ByteArray} {x : Int} {nd : Node} (hP : readP p.toList = some nd) (hn : n < 512) (hq : q < 512) (hx : x = 0 ∨ x = 1) : eachZ (n : Int) p x (q : Int) = (upTo (n : Int) 9).all fun y => (canN nd x q).testBit y.val := by
  unfold eachZ
  rw [(reach_ok hP hq hx).2, canZ_ok hP hq hx, Bool.true_and]
  exact within_all hn (canN_lt _ _ _)

set_option maxHeartbeats 4000000 in
theorem least_walk (w : World) (a : Option Addr) (len cap : Nat) (a' : Option Addr) (len' cap' : Nat) (hc : Code w.heap.size w a len cap) (hc' : Code w.heap.size w a' len' cap') (hl : len ≤ 1048576) (hl' : len' ≤ 1048576) {N : Nat} (hL : Laid3 N w) (hE : NoTrip N w) (hX : NoExit N w) :
    Calls Tryz.prog 4 #[.slice a len cap, .slice a' len' cap'] w fun e w' => e = .returned (.bool true) ∧ Below w.heap.size w w' := by
  have l1 : (len : Int) ≤ 1048576 := by omega
  have l2 : (len' : Int) ≤ 1048576 := by omega
  have HC := Lib.hid hc
  have HC' := Lib.hid hc'
  clear hc hc'
  go_enter Tryz.func4, Tryz.ntmps4
  go_wp2_with fail
  go_at_call 12
  refine (drawLB HC.out (Nat.le_refl _)).mono ?_
  rintro e W1 ⟨b, p, x, r, hp, rfl, hcur⟩
  have cS := fun (X : World) (hX : Below w.heap.size w X) => psure22 b p x r X (hL.below hX hL.lt) (hE.below hX hL.lt)
  have cL := fun (X : World) (hX : Below w.heap.size w X) => pleast b p x r X (hL.below hX hL.lt) (hE.below hX hL.lt)
  have mL := fun (X : World) => mleast b p (by omega) x r X
  have HZ := Lib.hid (rfl : leastZ b p x r = leastZ b p x r)
  generalize hz : leastZ b p x r = z at cL mL
  obtain ⟨zb, zp, zx, zr⟩ := z
  have HS := Lib.hid hz
  clear hz HZ
  generalize hs : sureT b p x r = s at cS cL mL
  have HSU := Lib.hid hs
  clear hs
  dsimp only at cL mL
  have hT := TripAt.new W1 b p x r
  replace hcur := hcur.alloc hcur.size (.cells #[.int .i64 b, .string p, .int .i64 x, .int .i64 r] 33)
  obtain ⟨t0, t1, t2, t3⟩ := hT.cells
  go_wp2_with fail
  go_at_call 13
  refine (cL _ hcur).mono ?_
  rintro e W2 ⟨rfl, hb⟩
  replace hT := hT.below hb hT.lt
  replace hcur := hcur.trans (hb.mono hcur.size)
  clear hb t0 t1 t2 t3 cL
  have hZ := TripAt.new W2 zb zp zx zr
  replace hT := hT.below ((Below.refl _ W2).alloc (Nat.le_refl _) (.cells #[.int .i64 zb, .string zp, .int .i64 zx, .int .i64 zr] 33)) hT.lt
  replace hcur := hcur.alloc hcur.size (.cells #[.int .i64 zb, .string zp, .int .i64 zx, .int .i64 zr] 33)
  obtain ⟨t0, t1, t2, t3⟩ := hT.cells
  go_wp2_with fail
  go_at_call 14
  refine (mL _).mono ?_
  rintro e W3 ⟨rfl, hb⟩
  replace hT := hT.below hb hT.lt
  replace hZ := hZ.below hb hZ.lt
  replace hcur := hcur.trans (hb.mono hcur.size)
  clear hb t0 t1 t2 t3 mL
  have hY := TripAt.new W3 zb zp zx zr
  have hal : Below W3.heap.size W3 (W3.alloc (.cells #[.int .i64 zb, .string zp, .int .i64 zx, .int .i64 zr] 33)) := (Below.refl _ W3).alloc (Nat.le_refl _) _
  replace hT := hT.below hal hT.lt
  replace hZ := hZ.below hal hZ.lt
  replace hcur := hcur.alloc hcur.size (.cells #[.int .i64 zb, .string zp, .int .i64 zx, .int .i64 zr] 33)
  clear hal
  go_wp2_with fail
  go_at_call 15
  refine (drawEB (HC'.out.below hcur) hcur.size).mono ?_
  rintro e W4 ⟨eb, ep, ex, er, hep, rfl, hb⟩
  replace hT := hT.below hb hT.lt
  replace hZ := hZ.below hb hZ.lt
  replace hY := hY.below hb hY.lt
  replace hcur := hcur.trans (hb.mono hcur.size)
  clear hb
  have cE := fun (X : World) (hX' : Below w.heap.size w X) => peach eb ep ex er X (hL.below hX' hL.lt) (hX.below hX' hL.lt)
  have mE := fun (X : World) => meach eb ep (by omega) ex er X
  have cV := fun (X : World) (hX' : Below w.heap.size w X) => ptvalid eb ep ex er X (hL.below hX' hL.lt)
  generalize he : eachZ eb ep ex er = ee at cE mE
  have HEE := Lib.hid he
  clear he
  have hQ := TripAt.new W4 eb ep ex er
  have hal : Below W4.heap.size W4 (W4.alloc (.cells #[.int .i64 eb, .string ep, .int .i64 ex, .int .i64 er] 33)) := (Below.refl _ W4).alloc (Nat.le_refl _) _
  replace hT := hT.below hal hT.lt
  replace hZ := hZ.below hal hZ.lt
  replace hY := hY.below hal hY.lt
  replace hcur := hcur.alloc hcur.size (.cells #[.int .i64 eb, .string ep, .int .i64 ex, .int .i64 er] 33)
  clear hal
  obtain ⟨t0, t1, t2, t3⟩ := hQ.cells
  go_wp2_with fail
  go_at_call 16
  refine (cE _ hcur).mono ?_
  rintro e W5 ⟨rfl, hb⟩
  replace hT := hT.below hb hT.lt
  replace hZ := hZ.below hb hZ.lt
  replace hY := hY.below hb hY.lt
  replace hQ := hQ.below hb hQ.lt
  replace hcur := hcur.trans (hb.mono hcur.size)
  clear hb t0 t1 t2 t3 cE
  obtain ⟨t0, t1, t2, t3⟩ := hT.cells
  obtain ⟨z0, z1, z2, z3⟩ := hZ.cells
  obtain ⟨y0, y1, y2, y3⟩ := hY.cells
  obtain ⟨q0, q1, q2, q3⟩ := hQ.cells
  go_wp2_with fail
  go_at_call 17
  refine (cS _ hcur).mono ?_
  rintro e W6 ⟨rfl, hb⟩
  replace hT := hT.below hb hT.lt
  replace hZ := hZ.below hb hZ.lt
  replace hQ := hQ.below hb hQ.lt
  replace hcur := hcur.trans (hb.mono hcur.size)
  clear hb t0 t1 t2 t3 z0 z1 z2 z3 y0 y1 y2 y3 q0 q1 q2 q3 cS hY
  obtain ⟨t0, t1, t2, t3⟩ := hT.cells
  obtain ⟨z0, z1, z2, z3⟩ := hZ.cells
  obtain ⟨q0, q1, q2, q3⟩ := hQ.cells
  go_wp2_with fail
  go_at_call 18
  refine (mE _).mono ?_
  rintro e W7 ⟨rfl, hb⟩
  replace hT := hT.below hb hT.lt
  replace hZ := hZ.below hb hZ.lt
  replace hQ := hQ.below hb hQ.lt
  replace hcur := hcur.trans (hb.mono hcur.size)
  clear hb t0 t1 t2 t3 z0 z1 z2 z3 q0 q1 q2 q3 mE
  obtain ⟨t0, t1, t2, t3⟩ := hT.cells
  obtain ⟨z0, z1, z2, z3⟩ := hZ.cells
  obtain ⟨q0, q1, q2, q3⟩ := hQ.cells
  go_wp2_with fail
  go_at_call 19
  refine (cV _ hcur).mono ?_
  rintro e W8 ⟨rfl, hb⟩
  replace hT := hT.below hb hT.lt
  replace hZ := hZ.below hb hZ.lt
  replace hQ := hQ.below hb hQ.lt
  replace hcur := hcur.trans (hb.mono hcur.size)
  clear hb t0 t1 t2 t3 z0 z1 z2 z3 q0 q1 q2 q3 cV
  obtain ⟨t0, t1, t2, t3⟩ := hT.cells
  obtain ⟨z0, z1, z2, z3⟩ := hZ.cells
  obtain ⟨q0, q1, q2, q3⟩ := hQ.cells
  generalize hv : validT eb ep ex er = v
  have HV := Lib.hid hv
  clear hv
  cases v with
  | false =>
    cases s with
    | false =>
      have hzz : (⟨zb, zp, zx, zr⟩ : Trip) = zeroT := by
        rw [← HS.out]
        unfold leastZ
        rw [HSU.out]
        rfl
      unfold zeroT at hzz
      injection hzz with h0 h1 h2 h3
      subst h0 h1 h2 h3
      go_wp2_with fail
      go_ret
      exact ⟨rfl, hcur⟩
    | true =>
      obtain ⟨m, hm, rfl⟩ := sure_set HSU.out
      have hvt : validT (m : Int) p x r = true := by have := HSU.out; unfold sureT at this; rw [Bool.and_eq_true] at this; exact this.1
      obtain ⟨nd0, q0', hP0, _, hqq, rfl, hx0⟩ := valid_parts hvt
      obtain ⟨hLl, hLs, hLsub, hLmin, hLcnt⟩ := least_all HSU.out hm hqq
      have hzz : (⟨zb, zp, zx, zr⟩ : Trip) = ⟨((leastT (fun n => sureT (n : Int) p x (q0' : Int)) m 0 : Nat) : Int), p, x, (q0' : Int)⟩ := by
        rw [← HS.out]
        unfold leastZ
        rw [HSU.out, if_pos rfl, Int.toNat_natCast]
      injection hzz with h0 h1 h2 h3
      subst h0 h1 h2 h3
      generalize leastT (fun n => sureT (n : Int) zp zx (q0' : Int)) m 0 = L at *
      go_wp2_with fail
      go_at_call 20
      refine (si12yes (L : Int) _ (isSet_n hLl)).mono ?_
      rintro e WD ⟨v, rfl, hrow, hb⟩
      replace hT := hT.below hb hT.lt
      replace hZ := hZ.below hb hZ.lt
      replace hcur := hcur.trans (hb.mono hcur.size)
      obtain ⟨sa, sc, rfl, hcell⟩ := row_states hrow
      have HCELL := Lib.hid hcell
      clear hb hcell hrow
      obtain ⟨t0, t1, t2, t3⟩ := hT.cells
      obtain ⟨z0, z1, z2, z3⟩ := hZ.cells
      go_wp2_with fail
      have hcntL : ((upTo (L : Int) 9).length : Int) ≤ ((upTo (q0' : Int) 9).length : Int) := by
        rw [up_cnt L hLl 9 (Nat.le_refl _), up_cnt q0' hqq 9 (Nat.le_refl _)]
        exact_mod_cast hLcnt
      have cI := fun (n : Nat) (X : World) (hX' : Below w.heap.size w X) => psure22 (n : Int) zp zx (q0' : Int) X (hL.below hX' hL.lt) (hE.below hX' hL.lt)
      have hbits : ∀ y ∈ upTo (L : Int) 9, L.testBit y.val = true := fun y hy => by
        have := ((mem_upTo (L : Int) y 9).1 hy).2
        rwa [hasB_bit hLl y.isLt] at this
      have hl9 := upTo_len (L : Int) 9
      have hcount := fun X => cs14yes (q0' : Int) X (isSet_n hqq)
      have hwi := fun X => wi21 (L : Int) (m : Int) X
      rw [sub_or hLl hm hLsub] at hwi
      have HMIN := Lib.hid hLmin
      have HBIT := Lib.hid hbits
      have HSU2 := Lib.hid hLs
      clear hLcnt hLsub hLmin hbits hLs hvt HC HC'
      generalize upTo (L : Int) 9 = ys at *
      generalize (upTo (q0' : Int) 9).length = cq at *
      have hkeep := Below.refl WD.heap.size WD
      clear t0 t1 t2 t3 z0 z1 z2 z3
      go_loopw [117] (fun i wr => ∃ k : Nat, k ≤ ys.length ∧ i = .int .i64 (k : Int) ∧ Below WD.heap.size WD wr) (fun i _ => ys.length - (intOf i).toNat)
      case atStart => exact ⟨0, by omega, rfl, hkeep⟩
      case round =>
        clear hkeep
        obtain ⟨k, hk, rfl, hkp⟩ := hrel
        have hTk := hT.below hkp hT.lt
        have hZk := hZ.below hkp hZ.lt
        have hcurk := hcur.trans (hkp.mono hcur.size)
        by_cases hlt : k < ys.length
        · obtain ⟨y, hy⟩ : ∃ y, ys[k]? = some y := ⟨_, List.getElem?_eq_getElem hlt⟩
          obtain ⟨g, rfl, hcl⟩ := HCELL.out k y hy
          have c9 := (hkp.cell (lt_cell hcl)).trans hcl
          have hbit := HBIT.out y (List.mem_of_getElem? hy)
          have hno := HMIN.out y.val y.isLt hbit
          have hdl := drop_lt (s := y.val) hLl
          have hsb := sub9 y ⟨L, hLl⟩ hbit
          dsimp only at hsb
          have hsh := shl_state (n := y.val) (by omega)
          have hki : (k : Int) < (ys.length : Int) := by omega
          have y8 : (y.val : Int) ≤ 8 := by omega
          have y0 : (0 : Int) ≤ (y.val : Int) := by omega
          have hI := cI (dropN L y.val)
          rw [hno] at hI
          generalize dropN L y.val = d at hI hdl hsb
          generalize (2 : Nat) ^ y.val = pw at hsh hsb
          have hN := TripAt.new wr (L : Int) zp zx (q0' : Int)
          have hal : Below wr.heap.size wr (wr.alloc (.cells #[.int .i64 (L : Int), .string zp, .int .i64 zx, .int .i64 (q0' : Int)] 33)) := (Below.refl _ wr).alloc (Nat.le_refl _) _
          have hZa := hZk.below hal hZk.lt
          have hB1 : Below WD.heap.size WD (wr.alloc (.cells #[.int .i64 (d : Int), .string zp, .int .i64 zx, .int .i64 (q0' : Int)] 33)) := hkp.alloc hkp.size _
          obtain ⟨z0, z1, z2, z3⟩ := hZk.cells
          obtain ⟨m0, m1, m2, m3⟩ := hZa.cells
          obtain ⟨n0, n1, n2, n3⟩ := hN.cells
          obtain ⟨f0, f1, f2, f3⟩ := hN.frozen
          clear hal hZa hN hcl hbit hno
          go_wp2_with (go_at_call 17; refine (hI _ (hcur.trans (hB1.mono hcur.size))).mono ?_; rintro e WI ⟨rfl, hb⟩)
          go_roundw
          case rel => exact ⟨k + 1, by omega, by go_num, hB1.trans (hb.mono hB1.size)⟩
          case measure => (simp [intOf] <;> omega)
        · obtain rfl : k = ys.length := by omega
          have hI := cI L
          rw [HSU2.out] at hI
          obtain ⟨t0, t1, t2, t3⟩ := hTk.cells
          obtain ⟨z0, z1, z2, z3⟩ := hZk.cells
          go_wp2_with (first
            | (go_at_call 17; refine (hI _ hcurk).mono ?_; rintro e WI ⟨rfl, hb⟩; replace hTk := hTk.below hb hTk.lt; replace hZk := hZk.below hb hZk.lt; replace hcurk := hcurk.trans (hb.mono hcurk.size); obtain ⟨t0, t1, t2, t3⟩ := hTk.cells; obtain ⟨z0, z1, z2, z3⟩ := hZk.cells; clear hb)
            | (go_at_call 22; refine (hwi _).mono ?_; rintro e w' ⟨rfl, rfl⟩)
            | (go_at_call 23; refine (hcount _).mono ?_; rintro e WI ⟨rfl, hb⟩; replace hcurk := hcurk.trans (hb.mono hcurk.size); clear hb))
          go_ret
          exact ⟨rfl, hcurk⟩
  | true =>
    obtain ⟨n, hn, rfl⟩ := set_nat (valid_all HV.out).1
    obtain ⟨nde, qe, hPe, _, hqe, rfl, hxe⟩ := valid_parts HV.out
    go_wp2_with fail
    go_at_call 20
    refine (si12yes (n : Int) _ (isSet_n hn)).mono ?_
    rintro e W9 ⟨v, rfl, hrow, hb⟩
    replace hT := hT.below hb hT.lt
    replace hZ := hZ.below hb hZ.lt
    replace hQ := hQ.below hb hQ.lt
    replace hcur := hcur.trans (hb.mono hcur.size)
    obtain ⟨ea, ec, rfl, hcell⟩ := row_states hrow
    have HC9 := Lib.hid hcell
    clear hb hcell hrow t0 t1 t2 t3 z0 z1 z2 z3 q0 q1 q2 q3
    have hall := each_all hPe hn hqe hxe
    rw [HEE.out] at hall
    have cM := fun (s : Nat) (X : World) (hX' : Below w.heap.size w X) => pmiss30 ((2 ^ s : Nat) : Int) ep ex (qe : Int) X (hL.below hX' hL.lt) (hE.below hX' hL.lt)
    have hat := fun (s : Nat) (hs : s < 9) => each_at hPe hqe hxe hs
    have hl9 := upTo_len (n : Int) 9
    clear HEE HV hPe
    generalize upTo (n : Int) 9 = es at *
    have hkeep := Below.refl W9.heap.size W9
    go_wp2_with fail
    go_loopw [14, 79] (fun al i wr => ∃ k : Nat, k ≤ es.length ∧ al = .bool ((es.take k).all fun y => (canN nde ex qe).testBit y.val) ∧ i = .int .i64 (k : Int) ∧ Below W9.heap.size W9 wr) (fun _ i _ => es.length - (intOf i).toNat)
    case atStart => exact ⟨0, by omega, rfl, rfl, hkeep⟩
    case round =>
      clear hkeep
      obtain ⟨k, hk, rfl, rfl, hkp⟩ := hrel
      have hQk := hQ.below hkp hQ.lt
      have hcurk := hcur.trans (hkp.mono hcur.size)
      by_cases hlt : k < es.length
      · obtain ⟨y, hy⟩ : ∃ y, es[k]? = some y := ⟨_, List.getElem?_eq_getElem hlt⟩
        obtain ⟨g, rfl, hcl⟩ := HC9.out k y hy
        have c9 := (hkp.cell (lt_cell hcl)).trans hcl
        have hG := hat y.val y.isLt
        have hM := cM y.val
        have hsh := shl_state (n := y.val) (by omega)
        have hki : (k : Int) < (es.length : Int) := by omega
        have y8 : (y.val : Int) ≤ 8 := by omega
        have y0 : (0 : Int) ≤ (y.val : Int) := by omega
        have htk : ((es.take (k + 1)).all fun y => (canN nde ex qe).testBit y.val) = (((es.take k).all fun y => (canN nde ex qe).testBit y.val) && (canN nde ex qe).testBit y.val) := by
          rw [List.take_add_one, hy, List.all_append]
          simp
        generalize hal2 : ((es.take (k + 1)).all fun y => (canN nde ex qe).testBit y.val) = al2 at htk
        generalize ((es.take k).all fun y => (canN nde ex qe).testBit y.val) = al at htk ⊢
        generalize (canN nde ex qe).testBit y.val = gy at htk hG
        generalize hms : missT ((2 ^ y.val : Nat) : Int) ep ex (qe : Int) = ms at hM hG
        generalize validT ((2 ^ y.val : Nat) : Int) ep ex (qe : Int) = vs at hM
        clear hms hat cM
        generalize (2 : Nat) ^ y.val = pw at hsh hM
        have hN := TripAt.new wr (n : Int) ep ex (qe : Int)
        have hB1 : Below W9.heap.size W9 (wr.alloc (.cells #[.int .i64 (pw : Int), .string ep, .int .i64 ex, .int .i64 (qe : Int)] 33)) := hkp.alloc hkp.size _
        have hQa := hQk.below ((Below.refl _ wr).alloc (Nat.le_refl _) (.cells #[.int .i64 (pw : Int), .string ep, .int .i64 ex, .int .i64 (qe : Int)] 33)) hQk.lt
        obtain ⟨q0, q1, q2, q3⟩ := hQk.cells
        obtain ⟨n0, n1, n2, n3⟩ := hN.cells
        obtain ⟨f0, f1, f2, f3⟩ := hN.frozen
        clear hN hcl
        cases al with
        | false =>
          rw [Bool.false_and] at htk
          subst htk
          go_wp2_with (go_at_call 21; refine (hM _ (hcur.trans (hB1.mono hcur.size))).mono ?_; rintro e WI ⟨rfl, hb⟩; obtain ⟨r0, r1, r2, r3⟩ := (hQa.below hb hQa.lt).cells)
          go_roundw
          case rel => exact ⟨k + 1, by omega, by rw [hal2], by go_num, hB1.trans (hb.mono hB1.size)⟩
          case measure => (simp [intOf] <;> omega)
        | true =>
          rw [Bool.true_and, ← hG] at htk
          go_wp2_with (go_at_call 21; refine (hM _ (hcur.trans (hB1.mono hcur.size))).mono ?_; rintro e WI ⟨rfl, hb⟩; obtain ⟨r0, r1, r2, r3⟩ := (hQa.below hb hQa.lt).cells)
          go_roundw
          case rel => exact ⟨k + 1, by omega, by rw [hal2, htk, hG], by go_num, hB1.trans (hb.mono hB1.size)⟩
          case measure => (simp [intOf] <;> omega)
      · obtain rfl : k = es.length := by omega
        rw [List.take_length]
        replace hT := hT.below hkp hT.lt
        replace hZ := hZ.below hkp hZ.lt
        clear hQk hQ HC9 hat cM hk hlt hl9 hkp hcur
        have hcur := hcurk
        clear hcurk
        generalize (es.all fun y => (canN nde ex qe).testBit y.val) = ee
        obtain ⟨t0, t1, t2, t3⟩ := hT.cells
        obtain ⟨z0, z1, z2, z3⟩ := hZ.cells
        cases s with
        | false =>
          have hzz : (⟨zb, zp, zx, zr⟩ : Trip) = zeroT := by
            rw [← HS.out]
            unfold leastZ
            rw [HSU.out]
            rfl
          unfold zeroT at hzz
          injection hzz with h0 h1 h2 h3
          subst h0 h1 h2 h3
          go_wp2_with fail
          go_ret
          exact ⟨rfl, hcur⟩
        | true =>
          obtain ⟨m, hm, rfl⟩ := sure_set HSU.out
          have hvt : validT (m : Int) p x r = true := by have := HSU.out; unfold sureT at this; rw [Bool.and_eq_true] at this; exact this.1
          obtain ⟨nd0, q0', hP0, _, hqq, rfl, hx0⟩ := valid_parts hvt
          obtain ⟨hLl, hLs, hLsub, hLmin, hLcnt⟩ := least_all HSU.out hm hqq
          have hzz : (⟨zb, zp, zx, zr⟩ : Trip) = ⟨((leastT (fun n => sureT (n : Int) p x (q0' : Int)) m 0 : Nat) : Int), p, x, (q0' : Int)⟩ := by
            rw [← HS.out]
            unfold leastZ
            rw [HSU.out, if_pos rfl, Int.toNat_natCast]
          injection hzz with h0 h1 h2 h3
          subst h0 h1 h2 h3
          generalize leastT (fun n => sureT (n : Int) zp zx (q0' : Int)) m 0 = L at *
          go_wp2_with fail
          go_at_call 20
          refine (si12yes (L : Int) _ (isSet_n hLl)).mono ?_
          rintro e WD ⟨v, rfl, hrow, hb⟩
          replace hT := hT.below hb hT.lt
          replace hZ := hZ.below hb hZ.lt
          replace hcur := hcur.trans (hb.mono hcur.size)
          obtain ⟨sa, sc, rfl, hcell⟩ := row_states hrow
          have HCELL := Lib.hid hcell
          clear hb hcell hrow
          obtain ⟨t0, t1, t2, t3⟩ := hT.cells
          obtain ⟨z0, z1, z2, z3⟩ := hZ.cells
          go_wp2_with fail
          have hcntL : ((upTo (L : Int) 9).length : Int) ≤ ((upTo (q0' : Int) 9).length : Int) := by
            rw [up_cnt L hLl 9 (Nat.le_refl _), up_cnt q0' hqq 9 (Nat.le_refl _)]
            exact_mod_cast hLcnt
          have cI := fun (n : Nat) (X : World) (hX' : Below w.heap.size w X) => psure22 (n : Int) zp zx (q0' : Int) X (hL.below hX' hL.lt) (hE.below hX' hL.lt)
          have hbits : ∀ y ∈ upTo (L : Int) 9, L.testBit y.val = true := fun y hy => by
            have := ((mem_upTo (L : Int) y 9).1 hy).2
            rwa [hasB_bit hLl y.isLt] at this
          have hl9 := upTo_len (L : Int) 9
          have hcount := fun X => cs14yes (q0' : Int) X (isSet_n hqq)
          have hwi := fun X => wi21 (L : Int) (m : Int) X
          rw [sub_or hLl hm hLsub] at hwi
          have HMIN := Lib.hid hLmin
          have HBIT := Lib.hid hbits
          have HSU2 := Lib.hid hLs
          clear hLcnt hLsub hLmin hbits hLs hvt HC HC'
          generalize upTo (L : Int) 9 = ys at *
          generalize (upTo (q0' : Int) 9).length = cq at *
          have hkeep := Below.refl WD.heap.size WD
          clear t0 t1 t2 t3 z0 z1 z2 z3
          go_loopw [117] (fun i wr => ∃ k : Nat, k ≤ ys.length ∧ i = .int .i64 (k : Int) ∧ Below WD.heap.size WD wr) (fun i _ => ys.length - (intOf i).toNat)
          case atStart => exact ⟨0, by omega, rfl, hkeep⟩
          case round =>
            clear hkeep
            obtain ⟨k, hk, rfl, hkp⟩ := hrel
            have hTk := hT.below hkp hT.lt
            have hZk := hZ.below hkp hZ.lt
            have hcurk := hcur.trans (hkp.mono hcur.size)
            by_cases hlt : k < ys.length
            · obtain ⟨y, hy⟩ : ∃ y, ys[k]? = some y := ⟨_, List.getElem?_eq_getElem hlt⟩
              obtain ⟨g, rfl, hcl⟩ := HCELL.out k y hy
              have c9 := (hkp.cell (lt_cell hcl)).trans hcl
              have hbit := HBIT.out y (List.mem_of_getElem? hy)
              have hno := HMIN.out y.val y.isLt hbit
              have hdl := drop_lt (s := y.val) hLl
              have hsb := sub9 y ⟨L, hLl⟩ hbit
              dsimp only at hsb
              have hsh := shl_state (n := y.val) (by omega)
              have hki : (k : Int) < (ys.length : Int) := by omega
              have y8 : (y.val : Int) ≤ 8 := by omega
              have y0 : (0 : Int) ≤ (y.val : Int) := by omega
              have hI := cI (dropN L y.val)
              rw [hno] at hI
              generalize dropN L y.val = d at hI hdl hsb
              generalize (2 : Nat) ^ y.val = pw at hsh hsb
              have hN := TripAt.new wr (L : Int) zp zx (q0' : Int)
              have hal : Below wr.heap.size wr (wr.alloc (.cells #[.int .i64 (L : Int), .string zp, .int .i64 zx, .int .i64 (q0' : Int)] 33)) := (Below.refl _ wr).alloc (Nat.le_refl _) _
              have hZa := hZk.below hal hZk.lt
              have hB1 : Below WD.heap.size WD (wr.alloc (.cells #[.int .i64 (d : Int), .string zp, .int .i64 zx, .int .i64 (q0' : Int)] 33)) := hkp.alloc hkp.size _
              obtain ⟨z0, z1, z2, z3⟩ := hZk.cells
              obtain ⟨m0, m1, m2, m3⟩ := hZa.cells
              obtain ⟨n0, n1, n2, n3⟩ := hN.cells
              obtain ⟨f0, f1, f2, f3⟩ := hN.frozen
              clear hal hZa hN hcl hbit hno
              go_wp2_with (go_at_call 17; refine (hI _ (hcur.trans (hB1.mono hcur.size))).mono ?_; rintro e WI ⟨rfl, hb⟩)
              go_roundw
              case rel => exact ⟨k + 1, by omega, by go_num, hB1.trans (hb.mono hB1.size)⟩
              case measure => (simp [intOf] <;> omega)
            · obtain rfl : k = ys.length := by omega
              have hI := cI L
              rw [HSU2.out] at hI
              obtain ⟨t0, t1, t2, t3⟩ := hTk.cells
              obtain ⟨z0, z1, z2, z3⟩ := hZk.cells
              go_wp2_with (first
                | (go_at_call 17; refine (hI _ hcurk).mono ?_; rintro e WI ⟨rfl, hb⟩; replace hTk := hTk.below hb hTk.lt; replace hZk := hZk.below hb hZk.lt; replace hcurk := hcurk.trans (hb.mono hcurk.size); obtain ⟨t0, t1, t2, t3⟩ := hTk.cells; obtain ⟨z0, z1, z2, z3⟩ := hZk.cells; clear hb)
                | (go_at_call 22; refine (hwi _).mono ?_; rintro e w' ⟨rfl, rfl⟩)
                | (go_at_call 23; refine (hcount _).mono ?_; rintro e WI ⟨rfl, hb⟩; replace hcurk := hcurk.trans (hb.mono hcurk.size); clear hb))
              go_ret
              exact ⟨rfl, hcurk⟩
theorem long_FnLeast1 (w : World) (a : Option Addr) (len cap : Nat) (a' : Option Addr) (len' cap' : Nat) (h : 1048576 < len) :
    Calls Tryz.prog 4 #[.slice a len cap, .slice a' len' cap'] w fun e w' => e = .returned (.bool true) ∧ Below w.heap.size w w' := by
  have h1 : (1048576 : Int) < (len : Int) := by omega
  go_enter Tryz.func4, Tryz.ntmps4
  go_wp2
  go_ret
  exact ⟨rfl, Below.refl _ _⟩
theorem long_FnLeast2 (w : World) (a : Option Addr) (len cap : Nat) (a' : Option Addr) (len' cap' : Nat) (h : len ≤ 1048576) (h' : 1048576 < len') :
    Calls Tryz.prog 4 #[.slice a len cap, .slice a' len' cap'] w fun e w' => e = .returned (.bool true) ∧ Below w.heap.size w w' := by
  have h1 : (len : Int) ≤ 1048576 := by omega
  have h2 : (1048576 : Int) < (len' : Int) := by omega
  go_enter Tryz.func4, Tryz.ntmps4
  go_wp2
  go_ret
  exact ⟨rfl, Below.refl _ _⟩
theorem walkFnLeastBefore (a0 : Option Addr) (len0 cap0 : Nat) (z0 : List Int) (a1 : Option Addr) (len1 cap1 : Nat) (z1 : List Int) (w : World) (w0 : IsRow .u8 w a0 len0 cap0 z0) (w1 : IsRow .u8 w a1 len1 cap1 z1) {N : Nat} (hL : Laid3 N w) (hE : NoTrip N w) (hX : NoExit N w) :
    Calls Tryz.prog 4 #[.slice a0 len0 cap0, .slice a1 len1 cap1] w fun e w' => e = .returned (.bool true) ∧ Below w.heap.size w w' := by
  by_cases h : len0 ≤ 1048576
  · by_cases h' : len1 ≤ 1048576
    · exact least_walk w a0 len0 cap0 a1 len1 cap1 (Code.ofRow w0) (Code.ofRow w1) h h' hL hE hX
    · exact long_FnLeast2 w a0 len0 cap0 a1 len1 cap1 h (by omega)
  · exact long_FnLeast1 w a0 len0 cap0 a1 len1 cap1 (by omega)
end Go.Proofs.YtngcdgnijfiocaaGreatDoor
