/- The program: loops gone through more and more often, till something fails. -/
import Derived.Test.YtnejphdbnfdbhaaDoorUI
namespace Go.Proofs.YtnejphdbnfdbhaaDoor
open Go.ChangeShapes Go.WideShapes Go.ChangeAt Go.RowKit Go.Shelf
attribute [local go_sem] Oper.semAt_some
set_option maxRecDepth 100000

set_option maxHeartbeats 4000000 in
theorem tries_inB (n : Nat) (hn : 1 ≤ n) (l L b1 b2 b3 : Nat) {t1 t2 t3 : TypeId} (hL : b1 ≠ L ∧ b2 ≠ L ∧ b3 ≠ L) (nd : Node) (hok : nd.ok) (m : Nat) (hm : m < 512) (J Jx : List Nat → World → Prop) (W : World)
    (hAJ : ∀ pre A B, J pre A → Below A.heap.size A B → W.heap.size ≤ A.heap.size → J pre B)
    (hY : ∀ pre y W, J pre W → pre.length < 13 → YieldAt Fence.wide (n - 1) Tryd.prog l (encT nd m y) W fun e W' =>
      (e = .returned (.bool true) ∧ J (pre ++ [y]) W' ∧ KpL L W W') ∨ (e = .returned (.bool false) ∧ Jx (pre ++ [y]) W'))
    (hLW : L < W.heap.size)
    (h1 : Lies W b1 #[nodeV nd] t1) (h2 : Lies W b2 #[.int .i64 (m : Int)] t2)
    (h3 : Lies W b3 #[.func (.func 40) #[] #[]] t3)
    (hJ0 : J [] W) :
    CallsIn Fence.wide n Tryd.prog 52 #[.func (.yield l) #[] #[], .pointer (some ⟨b1, 0, none⟩), .pointer (some ⟨b2, 0, none⟩), .pointer (some ⟨b3, 0, none⟩)] W fun e W' => (∃ v, e = .returned v) ∧
      ((∃ ys, lastS (fun j => decide ((runT j nd m).2 ≠ 0)) ys ∧ J ys W') ∨ (∃ pre, True ∧ Jx pre W')) := by
  refine callsIn_of_wp Tryd.func52 rfl trivial ?_ rfl
  simp only [Tryd.ntmps52, List.size_toArray, List.length_cons, List.length_nil, Nat.reduceAdd, Nat.reduceSub, Array.replicate_succ, Array.replicate_zero, List.push_toArray, List.append_toArray, List.nil_append, List.cons_append]
  gi_wp2
  gi_loopw [7] (fun i wr => ∃ k : Nat, k ≤ 13 ∧ i = .int .i64 (k : Int) ∧ (∀ j, j < k → decide ((runT j nd m).2 ≠ 0) = false) ∧ KpL L W wr ∧ W.heap.size ≤ wr.heap.size ∧ J (List.range k) wr) (fun i _ => 13 - (intOf i).toNat)
  case atStart => exact ⟨0, by omega, rfl, fun j hj => by omega, kpL_refl _ _, Nat.le_refl _, hJ0⟩
  case round =>
    obtain ⟨k, hk, rfl, hno, hKp, hsz, hJ⟩ := hrel
    by_cases hlt : k < 13
    · have hk13 : (k : Int) < 13 := by omega
      have c1 := lies1 (h1.kp hKp hL.1)
      have c2 := lies1 (h2.kp hKp hL.2.1)
      have hrun := prunin nd hok m hm k (by omega) wr
      have HNO := Lib.hid hno
      clear hno
      have hlen : (List.range k).length < 13 := by simp; omega
      gi_wp2_with (refine ⟨trivial, ?_⟩; gi_at_call 26; refine (callsIn_wide.2 hrun).mono ?_; rintro e W2 ⟨rfl, hb2⟩; have hbV := hb2.trans (((Below.refl _ W2).alloc (Nat.le_refl _) (.cells #[.int .i64 ((runT k nd m).1 : Int), .int .i64 ((runT k nd m).2 : Int)] 53)).mono hb2.size); have hJV := hAJ _ _ _ hJ hbV hsz; obtain ⟨fn, tmps, assign, body, hy, hR⟩ := hY (List.range k) k _ hJV hlen; dsimp only [encT, outV] at hy)
      have LV := Lies.new W2 #[.int .i64 ((runT k nd m).1 : Int), .int .i64 ((runT k nd m).2 : Int)] 53
      have hKV : KpL L W (W2.alloc (.cells #[.int .i64 ((runT k nd m).1 : Int), .int .i64 ((runT k nd m).2 : Int)] 53)) := kpL_t hKp (kpL_below hbV)
      have hszV : W.heap.size ≤ (W2.alloc (.cells #[.int .i64 ((runT k nd m).1 : Int), .int .i64 ((runT k nd m).2 : Int)] 53)).heap.size := Nat.le_trans hsz hbV.size
      have hgL : W2.heap.size ≠ L := Nat.ne_of_gt (Nat.lt_of_lt_of_le hLW (Nat.le_trans hsz hb2.size))
      refine hR.mono ?_
      rintro e W3 (⟨rfl, hJ3, hk3⟩ | ⟨rfl, hJx3⟩)
      · have hK3 := kpL_t hKV hk3
        have hsz3 := hK3.2
        have LO := LV.kp hk3 hgL
        have d3 := lies1 (h3.kp hK3 hL.2.2)
        obtain ⟨o0, o1, _, _⟩ := LO.cells
        have hen := enoughB (runT k nd m) W3
        unfold outV at hen
        cases hE : decide ((runT k nd m).2 ≠ 0) with
        | true =>
          rw [hE] at hen
          have HE := Lib.hid hE
          clear hE
          gi_wp2_with (refine ⟨trivial, ?_⟩; gi_at_call 40; refine (callsIn_wide.2 hen).mono ?_; rintro e W4 ⟨rfl, hb4⟩)
          have hJ4 := hAJ _ _ _ hJ3 hb4 hsz3
          refine bodyPost_ret (results_none rfl _ _ _) rfl ?_
          exact ⟨⟨_, rfl⟩, .inl ⟨_, ⟨k, List.range_succ.symm, by omega, HNO.out, .inl HE.out⟩, hJ4⟩⟩
        | false =>
          rw [hE] at hen
          have HE := Lib.hid hE
          clear hE
          gi_wp2_with (refine ⟨trivial, ?_⟩; gi_at_call 40; refine (callsIn_wide.2 hen).mono ?_; rintro e W4 ⟨rfl, hb4⟩)
          have hJ4 := hAJ _ _ _ hJ3 hb4 hsz3
          go_roundw
          case rel =>
            refine ⟨k + 1, by omega, by go_num, fun j hj => ?_, kpL_t hK3 (kpL_below hb4), Nat.le_trans hsz3 hb4.size, by rw [List.range_succ]; exact hJ4⟩
            by_cases he : j = k
            · rw [he]; exact HE.out
            · exact HNO.out j (by omega)
          case measure => simp [intOf]; omega
      · gi_wp2
        refine ⟨fun _ h => (by cases h), ?_⟩
        gi_wp2
        refine bodyPost_ret (results_none rfl _ _ _) rfl ?_
        exact ⟨⟨_, rfl⟩, .inr ⟨_, trivial, hJx3⟩⟩
    · obtain rfl : k = 13 := by omega
      gi_wp2
      go_end0
      exact ⟨⟨_, rfl⟩, .inl ⟨_, ⟨12, rfl, by omega, fun j hj => hno j (by omega), .inr rfl⟩, hJ⟩⟩
set_option maxHeartbeats 4000000 in
/-- The number of times that tries end with: the last one that they yield. -/
theorem lastB (n : Nat) (hn : 3 ≤ n) (b1 b2 b3 : Nat) {t1 t2 t3 : TypeId} (nd : Node) (hok : nd.ok) (m : Nat) (hm : m < 512) (w : World)
    (h1 : Lies w b1 #[nodeV nd] t1) (h2 : Lies w b2 #[.int .i64 (m : Int)] t2)
    (h3 : Lies w b3 #[.func (.func 40) #[] #[]] t3)
    (h12 : (runT 12 nd m).2 ≠ 0) :
    CallsIn Fence.wide n Tryd.prog 37 #[.func (.func 52) #[] #[.pointer (some ⟨b1, 0, none⟩), .pointer (some ⟨b2, 0, none⟩), .pointer (some ⟨b3, 0, none⟩)]] w fun e W' =>
      e = .returned (.int .i64 ((leastT (fun j => decide ((runT j nd m).2 ≠ 0)) 12 0 : Nat) : Int)) ∧ Below w.heap.size w W' := by
  have hn1 : 1 ≤ n := by omega
  refine callsIn_of_wp_marks Tryd.func37 rfl trivial ?_ rfl
  simp only [Tryd.ntmps37, List.size_toArray, List.length_cons, List.length_nil, Nat.reduceAdd, Nat.reduceSub, Array.replicate_succ, Array.replicate_zero, List.push_toArray, List.append_toArray, List.nil_append, List.cons_append]
  gi_wp2
  have c0 := cellNew w (.int .i64 (-1)) 3
  have hB0 : Below w.heap.size w (w.alloc (.cells #[.int .i64 (-1)] 3)) := (Below.refl _ w).alloc (Nat.le_refl _) _
  refine wpIn_rangeFunc_ownF rfl hn1 (gf := 52) (lb := #[.pointer (some ⟨b1, 0, none⟩), .pointer (some ⟨b2, 0, none⟩), .pointer (some ⟨b3, 0, none⟩)]) rfl trivial (enters_of Tryd.func52 (by kernel_rfl) rfl)
    (encs := encT nd m) (Kp := KpL w.heap.size) (S := lastS (fun j => decide ((runT j nd m).2 ≠ 0))) (Sp := fun _ => True) (N := 13)
    (fun l J Jx W hW hAJ _ hY h0 => tries_inB (n - 1) (by omega) l w.heap.size b1 b2 b3 ⟨Nat.ne_of_lt h1.lt, Nat.ne_of_lt h2.lt, Nat.ne_of_lt h3.lt⟩ nd hok m hm J Jx W (fun pre A B hJ hb _ => hAJ pre A B none hJ (below_grown hb none) (fun r e => by cases e)) hY
      (Nat.lt_of_lt_of_le (by simp) hW.size) ((h1.alloc _).below hW) ((h2.alloc _).below hW) ((h3.alloc _).below hW) h0)
    (fun h k => kpL_t h k) (fun W l o o' _ ho hc _ => kpL_b W l o o' ho hc) (Below.refl _ _) (fun _ => rfl)
    (fun pre W => (W.cell? ⟨w.heap.size, 0, none⟩ = some (.int .i64 (lastV pre)) ∧ W.frozen? ⟨w.heap.size, 0, none⟩ = false) ∧ Below w.heap.size w W)
    (fun _ _ _ => False)
    (OwnFrom.and (Own.from (fun s A B row hs hg hr => ⟨cell_kept hs.1 hg hr, (frozen_kept hs.1 hg hr).trans hs.2⟩) _) (ownFrom_below (Nat.le_refl _) (by simp)))
    (fun c s A B row hs _ _ => hs)
    ⟨⟨c0.1, c0.2⟩, hB0⟩
    (fun y => { tmps := #[.func (.func 52) #[] #[.pointer (some ⟨b1, 0, none⟩), .pointer (some ⟨b2, 0, none⟩), .pointer (some ⟨b3, 0, none⟩)], undef, .int .i64 0, .pointer (some ⟨w.heap.size, 0, none⟩), .int .i64 (y : Int), .func (.func 52) #[] #[.pointer (some ⟨b1, 0, none⟩), .pointer (some ⟨b2, 0, none⟩), .pointer (some ⟨b3, 0, none⟩)], .int .i64 (y : Int), outV (runT y nd m), undef, undef], defers := [] }) ?assign ?body ?done ?stop
  case assign =>
    intro l y W K hK
    simp only [encT]
    gi_wp2
    exact hK
  case body =>
    rintro l pre y W ⟨⟨hcr, hfr⟩, hB⟩ _
    gi_wp2
    exact ⟨KeepsOthers.setCell _ _ _, kpL_set _ _, ⟨by rw [lastV_snoc]; exact World.cell?_setCell_same' _ _ _ (by rw [hcr]; rfl), by simp [hfr]⟩, hB.setCell (p := ⟨w.heap.size, 0, none⟩) (Nat.le_refl _) _⟩
  case done =>
    rintro D ys W hD hS ⟨⟨hcr, hfr⟩, hB⟩ hK
    rw [last_at (decide_eq_true h12) hS, lastV_range] at hcr
    gi_wp2
    refine ⟨by simp, .inl ⟨_, _, rfl, run_takeDeferred hK, ?_⟩⟩
    refine ⟨.int .i64 ((leastT (fun j => decide ((runT j nd m).2 ≠ 0)) 12 0 : Nat) : Int), ?_, rfl, hB.trans (belowK_b (w := w) (Nat.le_refl _) W D _ _ (by simp at hD; omega) hK rfl rfl)⟩
    simp [results, Tryd.f37, go_sem]
  case stop =>
    rintro D c pre W hD _ hF _
    exact hF.elim
end Go.Proofs.YtnejphdbnfdbhaaDoor

