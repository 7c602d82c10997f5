/- The law on opposites: its walk. -/
import Derived.Test.YtemilnkglkpnjabDoorV1
import Derived.Test.YtemilnkglkpnjabDoorW2
namespace Go.Proofs.YtemilnkglkpnjabDoor
open Go.ChangeShapes Go.WideShapes Go.ChangeAt Go.RowKit Go.Shelf
set_option maxRecDepth 100000
attribute [local go_sem] Oper.semAt_some

theorem sw26nil (W : World) (a b : Option Addr) (c d : Nat) :
    Calls Tryd.prog 26 #[.slice a 0 c, .slice b 0 d] W fun e w' => e = .returned (.bool true) ∧ Below W.heap.size W w' := by
  go_enter Tryd.func26, Tryd.ntmps26
  go_wp2
  go_loop [11] (fun i => i = .int .i64 0) (fun _ => 0)
  case atStart => rfl
  case round =>
    obtain rfl := hrel
    go_wp2
    go_ret
    exact ⟨rfl, Below.refl _ _⟩

set_option maxHeartbeats 1000000 in
theorem sw26row (W : World) (g h c d : Nat) (ws : List (List UInt8)) (hm : ws.length ≤ maxLen)
    (hx : ∀ i, i < ws.length → W.cell? ⟨g, i, none⟩ = some (.string ⟨(ws[i]?.getD []).toArray⟩)) (hy : ∀ i, i < ws.length → W.cell? ⟨h, i, none⟩ = some (.string ⟨(ws[i]?.getD []).toArray⟩)) :
    Calls Tryd.prog 26 #[.slice (some ⟨g, 0, none⟩) ws.length c, .slice (some ⟨h, 0, none⟩) ws.length d] W fun e w' => e = .returned (.bool true) ∧ Below W.heap.size W w' := by
  unfold maxLen at hm
  have HX := Lib.hid hx
  have HY := Lib.hid hy
  clear hx hy
  go_enter Tryd.func26, Tryd.ntmps26
  go_wp2
  go_loopw [11] (fun i wr => ∃ k : Nat, k ≤ ws.length ∧ i = .int .i64 k ∧ Below W.heap.size W wr ∧ ∀ a, wr.cell? a = W.cell? a) (fun i _ => ws.length - (intOf i).toNat)
  case atStart => exact ⟨0, by omega, rfl, Below.refl _ _, fun _ => rfl⟩
  case round =>
    obtain ⟨k, hk, rfl, hB, hs⟩ := hrel
    by_cases hlt : k < ws.length
    · obtain ⟨p, hp⟩ : ∃ p, p = ws[k]?.getD [] := ⟨_, rfl⟩
      have c1 : wr.cell? ⟨g, k, none⟩ = some (.string ⟨p.toArray⟩) := by rw [hs, HX.out k hlt, hp]
      have c2 : wr.cell? ⟨h, k, none⟩ = some (.string ⟨p.toArray⟩) := by rw [hs, HY.out k hlt, hp]
      have HS := Lib.hid hs
      clear hs hp
      go_wp2
      go_quiet (fail)
      go_wp2
      go_roundw
      case rel => exact ⟨k + 1, by omega, by go_num, below_drewN hB _, fun a => HS.out a⟩
      case measure => simp [intOf]; omega
    · have e : k = ws.length := by omega
      clear hlt hk
      subst e
      go_wp2
      go_ret
      exact ⟨rfl, hB⟩

theorem sw26 {W : World} {B1 B2 : Nat} {v1 v2 : Value} {ws : List (List UInt8)} (h1 : TRow W B1 v1 ws) (h2 : TRow W B2 v2 ws) :
    Calls Tryd.prog 26 #[v1, v2] W fun e w' => e = .returned (.bool true) ∧ Below W.heap.size W w' := by
  rcases h1.cases with ⟨rfl, h0⟩ | ⟨g, cap, rfl, _, _, hm⟩
  · subst h0
    rcases h2.cases with ⟨rfl, _⟩ | ⟨g', cap', rfl, _, _, hm⟩
    · exact sw26nil W _ _ _ _
    · exact sw26nil W _ _ _ _
  · rcases h2.cases with ⟨rfl, h0⟩ | ⟨g', cap', rfl, _, _, _⟩
    · subst h0
      exact sw26nil W _ _ _ _
    · exact sw26row W g g' cap cap' ws hm (h1.cell rfl) (h2.cell rfl)

/-- What the law asks of each opposite. -/
theorem opp_all : (tests.all fun p => tests.all fun q => !(whereL q == bits .andNot .i64 511 (whereL p)) ||
    (bits .and .i64 (whereL p) (whereL q) == 0 && bits .or .i64 (whereL p) (whereL q) == 511 && (whereL p == bits .andNot .i64 511 (whereL q)))) = true := by decide +kernel
theorem opp_fact {p q : List UInt8} (hp : p ∈ tests) (hq : q ∈ tests) (h : whereL q = bits .andNot .i64 511 (whereL p)) :
    bits .and .i64 (whereL p) (whereL q) = 0 ∧ bits .or .i64 (whereL p) (whereL q) = 511 ∧ whereL p = bits .andNot .i64 511 (whereL q) := by
  have h1 := List.all_eq_true.1 (List.all_eq_true.1 opp_all p hp) q hq
  have h2 : (whereL q == bits .andNot .i64 511 (whereL p)) = true := by simpa using h
  rw [h2] at h1
  simp only [Bool.not_true, Bool.false_or, Bool.and_eq_true, beq_iff_eq] at h1
  exact ⟨h1.1.1, h1.1.2, h1.2⟩
theorem list_of {q : List UInt8} : (⟨q.toArray⟩ : ByteArray).toList = q := by rw [Lib.toList_data]
theorem opp_mem {t : ByteArray} {q : List UInt8} (h : q ∈ oppL t) : isTest t = true ∧ q ∈ tests ∧ whereL q = bits .andNot .i64 511 (whereL t.toList) := by
  unfold oppL at h
  split at h
  · rename_i ht
    obtain ⟨h1, h2⟩ := List.mem_filter.1 h
    exact ⟨ht, h1, by simpa [isOpp] using h2⟩
  · simp at h
/-- Each opposite has the test among its own. -/
theorem opp_back {t : ByteArray} {q : List UInt8} (h : q ∈ oppL t) : t.toList ∈ oppL ⟨q.toArray⟩ := by
  obtain ⟨h1, h2, h3⟩ := opp_mem h
  obtain ⟨_, _, h4⟩ := opp_fact (mem_of h1) h2 h3
  unfold oppL
  rw [if_pos (whereT_list h2).2]
  refine List.mem_filter.2 ⟨mem_of h1, ?_⟩
  unfold isOpp
  rw [list_of (q := q)]
  exact beq_iff_eq.2 h4

theorem long_opp (w : World) (a a' : Option Addr) (len cap len' cap' : Nat) (h : 1048576 < len ∨ (len ≤ 1048576 ∧ 1048576 < len')) :
    Calls Tryd.prog 4 #[.slice a len cap, .slice a' len' cap'] w fun e w' => e = .returned (.bool true) ∧ Below w.heap.size w w' := by
  rcases h with h | ⟨h, h'⟩
  · have h1 : (1048576 : Int) < (len : Int) := by omega
    go_enter Tryd.func4, Tryd.ntmps4
    go_wp2
    go_ret
    exact ⟨rfl, Below.refl _ _⟩
  · have h1 : (len : Int) ≤ 1048576 := by omega
    have h2 : (1048576 : Int) < (len' : Int) := by omega
    go_enter Tryd.func4, Tryd.ntmps4
    go_wp2
    go_ret
    exact ⟨rfl, Below.refl _ _⟩

theorem max8 {t : ByteArray} (h : t.size ≤ 8) : t.size ≤ maxLen := by unfold maxLen; omega
theorem size3 {p : List UInt8} (h : p ∈ tests) : (⟨p.toArray⟩ : ByteArray).size ≤ maxLen := test_size h

set_option maxRecDepth 100000 in
set_option maxHeartbeats 8000000 in
theorem opp_walk (w : World) (a a' : Option Addr) (len cap len' cap' : Nat) (hc : Code w.heap.size w a len cap) (hc' : Code w.heap.size w a' len' cap') (hl : len ≤ 1048576) (hl' : len' ≤ 1048576) {N : Nat} (hL : Laid N w) :
    Calls Tryd.prog 4 #[.slice a len cap, .slice a' len' cap'] w fun e w' => e = .returned (.bool true) ∧ Below w.heap.size w w' := by
  have l1 : (len : Int) ≤ 1048576 := by omega
  have l2 : (len' : Int) ≤ 1048576 := by omega
  have HC := Lib.hid hc
  have HC' := Lib.hid hc'
  clear hc hc'
  go_enter Tryd.func4, Tryd.ntmps4
  go_wp2_with fail
  go_at_call 21
  refine (drawO21 HC.out (Nat.le_refl _)).mono ?_
  rintro e W1 ⟨t, ht, rfl, B1⟩
  go_wp2_with fail
  go_at_call 22
  refine (opp22 t (max8 ht) _ (hL.below B1 hL.lt)).mono ?_
  rintro e W2 ⟨v1, rfl, o1, b2⟩
  have r1 : TRow W2 W1.heap.size v1 (oppL t) := o1
  have B2 := B1.trans (b2.mono B1.size)
  clear o1
  go_wp2_with fail
  go_at_call 23
  refine (opp23 t _).mono ?_
  rintro e W3 ⟨v2, rfl, o2, b3⟩
  have r2 : TRow W3 W2.heap.size v2 (oppL t) := o2
  have r1a := r1.below b3
  have B3 := B2.trans (b3.mono B2.size)
  clear o2
  go_wp2_with fail
  go_at_call 24
  refine (drawF24 (HC'.out.below B3) B3.size).mono ?_
  rintro e W4 ⟨s, rfl, b4⟩
  have r1b := r1a.below b4
  have r2b := r2.below b4
  have B4 := B3.trans (b4.mono B3.size)
  go_wp2_with fail
  go_at_call 20
  refine (for20 s _ (hL.below B4 hL.lt)).mono ?_
  rintro e W5 ⟨rfl, b5⟩
  have r1c := r1b.below b5
  have r2c := r2b.below b5
  have B5 := B4.trans (b5.mono B4.size)
  go_wp2_with fail
  go_at_call 25
  refine (for25 s _).mono ?_
  rintro e W6 ⟨rfl, b6⟩
  have r1d := r1c.below b6
  have r2d := r2c.below b6
  have B6 := B5.trans (b6.mono B5.size)
  go_wp2_with fail
  go_at_call 26
  refine (sw26 r1d r2d).mono ?_
  rintro e W7 ⟨rfl, b7⟩
  have r1e := r1d.below b7
  have B7 := B6.trans (b7.mono B6.size)
  clear r1 r1a r1b r1c r1d r2 r2b r2c r2d b2 b3 b4 b5 b6 b7
  go_wp2_with fail
  go_at_call 27
  refine (all27 _ (hL.below B7 hL.lt)).mono ?_
  rintro e W8 ⟨v3, rfl, o3, b8⟩
  have r3 : TRow W8 W7.heap.size v3 tests := o3
  have r1f := r1e.below b8
  have B8 := B7.trans (b8.mono B7.size)
  clear o3
  go_wp2_with fail
  go_at_call 28
  refine (all28 _).mono ?_
  rintro e W9 ⟨v4, rfl, o4, b9⟩
  have r4 : TRow W9 W8.heap.size v4 tests := o4
  have r3a := r3.below b9
  have r1g := r1f.below b9
  have B9 := B8.trans (b9.mono B8.size)
  clear o4
  go_wp2_with fail
  go_at_call 26
  refine (sw26 r3a r4).mono ?_
  rintro e Wa ⟨rfl, ba⟩
  have r1h := r1g.below ba
  have Ba := B9.trans (ba.mono B9.size)
  clear r1e r1f r1g r3 r3a r4 b8 b9 ba
  go_wp2_with fail
  go_at_call 12
  refine (where12 t _ (hL.below Ba hL.lt)).mono ?_
  rintro e Wb ⟨rfl, bb⟩
  have r1i := r1h.below bb
  have Bb := Ba.trans (bb.mono Ba.size)
  clear r1h bb
  have hBb := Below.refl Wb.heap.size Wb
  rcases r1i.cases with ⟨rfl, h0⟩ | ⟨g, cap1, rfl, _, hgl, hm⟩
  · clear r1i
    go_wp2_with fail
    go_loopw [90] (fun i wr => i = .int .i64 0 ∧ wr = Wb) (fun _ _ => 0)
    case atStart => exact ⟨rfl, rfl⟩
    case round =>
      obtain ⟨rfl, rfl⟩ := hrel
      go_wp2_with fail
      go_at_call 15
      refine (valid15 t _ (hL.below Bb hL.lt)).mono ?_
      rintro e Wc ⟨rfl, bc⟩
      go_wp2
      go_ret
      exact ⟨rfl, Bb.trans (bc.mono Bb.size)⟩
  · have hcell := r1i.cell rfl
    have HCl := Lib.hid hcell
    have hn20 := opp_len t
    clear hcell r1i
    go_wp2_with fail
    go_loopw [90] (fun i wr => ∃ k : Nat, k ≤ (oppL t).length ∧ i = .int .i64 k ∧ Below w.heap.size w wr ∧ Below Wb.heap.size Wb wr) (fun i _ => (oppL t).length - (intOf i).toNat)
    case atStart => exact ⟨0, by omega, rfl, Bb, hBb⟩
    case round =>
      obtain ⟨k, hk, rfl, hB, hBr⟩ := hrel
      by_cases hlt : k < (oppL t).length
      · obtain ⟨q, hq⟩ : ∃ q, (oppL t)[k]? = some q := ⟨_, List.getElem?_eq_getElem hlt⟩
        have hmem : q ∈ oppL t := List.mem_of_getElem? hq
        obtain ⟨hit, hqt, hqw⟩ := opp_mem hmem
        have hwt : whereT t = whereL t.toList := by unfold whereT; rw [if_pos hit]
        obtain ⟨f1, f2, _⟩ := opp_fact (mem_of hit) hqt hqw
        have e1 : bits .and .i64 (whereT t) (whereL q) = 0 := by rw [hwt]; exact f1
        have e2 : bits .or .i64 (whereT t) (whereL q) = 511 := by rw [hwt]; exact f2
        have hback := opp_back hmem
        have c1 : wr.cell? ⟨g, k, none⟩ = some (.string ⟨q.toArray⟩) := by
          have := (hBr.cell (p := ⟨g, k, none⟩) hgl).trans (HCl.out k hlt)
          rw [hq] at this
          exact this
        have E1 := Lib.hid e1
        have E2 := Lib.hid e2
        have HQ := Lib.hid hqt
        have HBk := Lib.hid hback
        clear e1 e2 hqt hback hmem hqw hq hwt f1 f2 hit
        go_wp2_with fail
        go_at_call 12
        refine (where12 _ _ (hL.below hB hL.lt)).mono ?_
        rintro e Wc ⟨rfl, bc⟩
        have Bc := hB.trans (bc.mono hB.size)
        rw [(whereT_list HQ.out).1, (whereT_list HQ.out).2]
        go_wp2_with fail
        go_at_call 22
        refine (opp22 _ (size3 HQ.out) _ (hL.below Bc hL.lt)).mono ?_
        rintro e Wd ⟨v5, rfl, o5, bd⟩
        have r5 : TRow Wd Wc.heap.size v5 (oppL ⟨q.toArray⟩) := o5
        have Bd := Bc.trans (bd.mono Bc.size)
        have BBd := (hBr.trans (bc.mono hBr.size)).trans (bd.mono (Nat.le_trans hBr.size bc.size))
        rw [(whereT_list HQ.out).2]
        rcases r5.cases with ⟨rfl, h0⟩ | ⟨g2, cap2, rfl, _, hgl2, hm2⟩
        · have := HBk.out; rw [h0] at this; cases this
        · have hcell2 := r5.cell rfl
          have HC2 := Lib.hid hcell2
          have hm20 := opp_len ⟨q.toArray⟩
          clear hcell2 o5
          obtain ⟨us, hus⟩ : ∃ us, us = oppL ⟨q.toArray⟩ := ⟨_, rfl⟩
          rw [← hus] at HC2 HBk hm20 ⊢
          clear hus r5
          go_wp2_with fail
          go_loopw [23, 106] (fun b i we => ∃ j : Nat, j ≤ us.length ∧ i = .int .i64 j ∧ b = .bool (decide (t.toList ∈ us.take j)) ∧ we = Wd) (fun _ i _ => us.length - (intOf i).toNat)
          case atStart => exact ⟨0, by omega, rfl, by simp, rfl⟩
          case round =>
            obtain ⟨j, hj, rfl, rfl, rfl⟩ := hrel
            by_cases hlj : j < us.length
            · obtain ⟨r, hr⟩ : ∃ r, us[j]? = some r := ⟨_, List.getElem?_eq_getElem hlj⟩
              have c2 := HC2.out j hlj
              rw [hr] at c2
              simp only [Option.getD_some] at c2
              have htk : us.take (j + 1) = us.take j ++ [r] := by rw [List.take_add_one, hr]; rfl
              cases hin : decide (t.toList ∈ us.take j) with
              | true =>
                have hin2 : decide (t.toList ∈ us.take (j + 1)) = true := decide_eq_true (by rw [htk]; exact List.mem_append_left _ (of_decide_eq_true hin))
                have HI := Lib.hid hin2
                clear hin hin2 htk hr
                go_wp2
                go_roundw
                case rel => exact ⟨j + 1, by omega, by go_num, by rw [HI.out], trivial⟩
                case measure => simp [intOf]; omega
              | false =>
                have hno := of_decide_eq_false hin
                cases he : (r == t.toList) with
                | true =>
                  have hre : r = t.toList := by simpa using he
                  have hin2 : decide (t.toList ∈ us.take (j + 1)) = true := decide_eq_true (by rw [htk, ← hre]; simp)
                  have HI := Lib.hid hin2
                  clear hin hin2 htk hr hno hre
                  go_wp2
                  go_roundw
                  case rel => exact ⟨j + 1, by omega, by go_num, by rw [HI.out], trivial⟩
                  case measure => simp [intOf]; omega
                | false =>
                  have hre : ¬ t.toList = r := by intro e; rw [e] at he; simp at he
                  have hin2 : decide (t.toList ∈ us.take (j + 1)) = false := decide_eq_false (by rw [htk]; simp only [List.mem_append, List.mem_singleton]; exact fun h => h.elim hno hre)
                  have HI := Lib.hid hin2
                  clear hin hin2 htk hr hno hre
                  go_wp2
                  go_roundw
                  case rel => exact ⟨j + 1, by omega, by go_num, by rw [HI.out], trivial⟩
                  case measure => simp [intOf]; omega
            · obtain rfl : j = us.length := by omega
              have hin : decide (t.toList ∈ us.take us.length) = true := decide_eq_true (by rw [List.take_length]; exact HBk.out)
              rw [hin]
              have e1 := E1.out
              have e2 := E2.out
              clear hin
              go_wp2
              go_roundw
              case rel => exact ⟨k + 1, by omega, by go_num, Bd, BBd⟩
              case measure => simp [intOf]; omega
      · obtain rfl : k = (oppL t).length := by omega
        go_wp2_with fail
        go_at_call 15
        refine (valid15 t _ (hL.below hB hL.lt)).mono ?_
        rintro e Wc ⟨rfl, bc⟩
        go_wp2
        go_ret
        exact ⟨rfl, hB.trans (bc.mono hB.size)⟩

theorem walkOpposite (a0 : Option Addr) (len0 cap0 : Nat) (z0 : List Int) (a1 : Option Addr) (len1 cap1 : Nat) (z1 : List Int) (w : World) (w0 : IsRow .u8 w a0 len0 cap0 z0) (w1 : IsRow .u8 w a1 len1 cap1 z1) {N : Nat} (hL : Laid N w) :
    Calls Tryd.prog 4 #[.slice a0 len0 cap0, .slice a1 len1 cap1] w fun e w' => e = .returned (.bool true) ∧ Below w.heap.size w w' := by
  by_cases h : len0 ≤ 1048576
  · by_cases h' : len1 ≤ 1048576
    · exact opp_walk w a0 a1 len0 cap0 len1 cap1 (Code.ofRow w0) (Code.ofRow w1) h h' hL
    · exact long_opp w a0 a1 len0 cap0 len1 cap1 (.inr ⟨h, by omega⟩)
  · exact long_opp w a0 a1 len0 cap0 len1 cap1 (.inl (by omega))
end Go.Proofs.YtemilnkglkpnjabDoor

