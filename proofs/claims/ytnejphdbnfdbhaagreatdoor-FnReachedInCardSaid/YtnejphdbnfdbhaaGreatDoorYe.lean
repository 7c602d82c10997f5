/- The program: loops gone through more and more often, till it is enough. The program: loops gone through more and more often, till something fails. The program: TimesFor, TimesToFail. -/
import Derived.Test.YtnejphdbnfdbhaaGreatDoorUG
namespace Go.Proofs.YtnejphdbnfdbhaaGreatDoor
open Go.ChangeShapes Go.WideShapes Go.ChangeAt Go.RowKit Go.Shelf
attribute [local go_sem] Oper.semAt_some
set_option maxRecDepth 100000

/-- All cells but one block's are as they were. -/
def KpL (L : Nat) (W W' : World) : Prop := (∀ c, c ≠ L → ∀ cs t fr, W.heap[c]? = some (.cells cs t fr) → W'.heap[c]? = W.heap[c]?) ∧ W.heap.size ≤ W'.heap.size
theorem kpL_t {L : Nat} {A B C : World} (h : KpL L A B) (k : KpL L B C) : KpL L A C := ⟨fun c hc cs t fr hh => by
  have h1 := h.1 c hc cs t fr hh
  exact (k.1 c hc cs t fr (h1.trans hh)).trans h1, Nat.le_trans h.2 k.2⟩
theorem kpL_refl (L : Nat) (W : World) : KpL L W W := ⟨fun _ _ _ _ _ _ => rfl, Nat.le_refl _⟩
theorem kpL_b {L : Nat} (W : World) (l : Nat) (o o' : Obj) (ho : W.heap[l]? = some o) (hc : o.isCells = false) : KpL L W (W.putObj l o') := ⟨fun c _ cs t fr hh =>
  World.putObj_heap_other (by rintro rfl; rw [ho] at hh; cases hh; cases hc), by simp [World.putObj]⟩
theorem kpL_below {L : Nat} {W W' : World} (h : Below W.heap.size W W') : KpL L W W' := ⟨fun c _ _ _ _ hh => h.block c (Array.getElem?_eq_some_iff.1 hh).1, h.size⟩
theorem kpL_set {L o : Nat} (W : World) (v : Value) : KpL L W (W.setCell ⟨L, o, none⟩ v) := ⟨fun c hc _ _ _ _ => heap_setCell_other _ _ c _ hc, by simp⟩
theorem Lies.kp {L b : Nat} {W W' : World} {cs : Array Value} {t : TypeId} (h : Lies W b cs t) (k : KpL L W W') (hne : b ≠ L) : Lies W' b cs t := (k.1 b hne _ _ _ h).trans h
theorem lies1 {W : World} {b : Nat} {v : Value} {t : TypeId} (h : Lies W b #[v] t) : W.cell? ⟨b, 0, none⟩ = some v := by
  unfold Lies at h
  simp [World.cell?, h]
def encT (nd : Node) (m : Nat) (x : Nat) : Array Value := #[.int .i64 (x : Int), outV (runT x nd m)]
def lastS (E : Nat → Bool) (ys : List Nat) : Prop := ∃ t, ys = List.range (t + 1) ∧ t ≤ 12 ∧ (∀ j, j < t → E j = false) ∧ (E t = true ∨ t = 12)
theorem four_then {V W : World} {a b c d : Addr} {u v p q : Value} {G : Prop} (hb : Below V.heap.size V W) (h : V.cell? a = some u) (k : V.cell? b = some v) (l : V.cell? c = some p) (m : V.cell? d = some q) (f : W.cell? a = some u → W.cell? b = some v → W.cell? c = some p → W.cell? d = some q → G) : G := f (keepCell hb h) (keepCell hb k) (keepCell hb l) (keepCell hb m)
theorem enoughA (o : Nat × Nat) (x : Int) (hx : x = 0 ∨ x = 1) (all : Nat) (b4 b5 : Nat) (w : World) (h4 : w.cell? ⟨b4, 0, none⟩ = some (.int .i64 x)) (h5 : w.cell? ⟨b5, 0, none⟩ = some (.int .i64 (all : Int))) :
    Calls Tryz.prog 74 #[outV o, .pointer (some ⟨b4, 0, none⟩), .pointer (some ⟨b5, 0, none⟩)] w fun e w' => e = .returned (.bool (decide (exitN x o = all))) ∧ Below w.heap.size w w' := by
  have hat := fun w => at28x o.1 o.2 x hx w
  change ∀ w, Calls _ _ _ w fun e w' => e = .returned (.int .i64 ((exitN x o : Nat) : Int)) ∧ Below w.heap.size w w' at hat
  unfold outV
  generalize exitN x o = z at hat ⊢
  have h4' := cellAlloc (.cells #[.int .i64 (o.1 : Int), .int .i64 (o.2 : Int)] 64) h4
  have h5' := cellAlloc (.cells #[.int .i64 (o.1 : Int), .int .i64 (o.2 : Int)] 64) h5
  have hal : Below w.heap.size w (w.alloc (.cells #[.int .i64 (o.1 : Int), .int .i64 (o.2 : Int)] 64)) := (Below.refl _ _).alloc (Nat.le_refl _) _
  obtain ⟨o0, o1, _, _⟩ := (Lies.new w #[.int .i64 (o.1 : Int), .int .i64 (o.2 : Int)] 64).cells
  by_cases heq : z = all
  · subst heq
    rw [decide_eq_true rfl]
    go_enter Tryz.func74, Tryz.ntmps74
    go_wp2_with fail
    go_region_held3 (fun w' => w'.cell? ⟨b4, 0, none⟩ = some (.int .i64 x) ∧ w'.cell? ⟨b5, 0, none⟩ = some (.int .i64 (z : Int)) ∧ w'.cell? ⟨w.heap.size, 0, none⟩ = some (.int .i64 (o.1 : Int)) ∧ w'.cell? ⟨w.heap.size, 1, none⟩ = some (.int .i64 (o.2 : Int)))
      (first | exact ⟨h4', h5', o0, o1⟩ | exact ⟨k4, k5, k0, k1⟩ | go_keep)
      (first | (go_at_call 42; refine (hat _).mono ?_; rintro e W2 ⟨rfl, hb2⟩; refine four_then (a := ⟨b4, 0, none⟩) (b := ⟨b5, 0, none⟩) (c := ⟨w.heap.size, 0, none⟩) (d := ⟨w.heap.size, 1, none⟩) (u := .int .i64 x) (v := .int .i64 (z : Int)) (p := .int .i64 (o.1 : Int)) (q := .int .i64 (o.2 : Int)) hb2 ?_ ?_ ?_ ?_ ?_; exact h4'; exact h5'; exact o0; exact o1; intro k4 k5 k0 k1))
    all_goals go_wp2_with fail
    all_goals (go_ret; exact ⟨by simp, hal.drew.trans (hb2.mono hal.size)⟩)
  · rw [decide_eq_false heq]
    have hnei : ¬ ((z : Int) = (all : Int)) := by omega
    go_enter Tryz.func74, Tryz.ntmps74
    go_wp2_with fail
    go_region_held3 (fun w' => w'.cell? ⟨b4, 0, none⟩ = some (.int .i64 x) ∧ w'.cell? ⟨b5, 0, none⟩ = some (.int .i64 (all : Int)) ∧ w'.cell? ⟨w.heap.size, 0, none⟩ = some (.int .i64 (o.1 : Int)) ∧ w'.cell? ⟨w.heap.size, 1, none⟩ = some (.int .i64 (o.2 : Int)))
      (first | exact ⟨h4', h5', o0, o1⟩ | exact ⟨k4, k5, k0, k1⟩ | go_keep)
      (first | (go_at_call 42; refine (hat _).mono ?_; rintro e W2 ⟨rfl, hb2⟩; refine four_then (a := ⟨b4, 0, none⟩) (b := ⟨b5, 0, none⟩) (c := ⟨w.heap.size, 0, none⟩) (d := ⟨w.heap.size, 1, none⟩) (u := .int .i64 x) (v := .int .i64 (all : Int)) (p := .int .i64 (o.1 : Int)) (q := .int .i64 (o.2 : Int)) hb2 ?_ ?_ ?_ ?_ ?_; exact h4'; exact h5'; exact o0; exact o1; intro k4 k5 k0 k1))
    all_goals go_wp2_with fail
    all_goals (go_ret; exact ⟨by first | rfl | simp [hnei], hal.drew.trans (hb2.mono hal.size)⟩)
theorem enoughB (o : Nat × Nat) (w : World) :
    Calls Tryz.prog 63 #[outV o] w fun e w' => e = .returned (.bool (decide (o.2 ≠ 0))) ∧ Below w.heap.size w w' := by
  unfold outV
  by_cases h : o.2 = 0
  · rw [decide_eq_false (by simpa using h), h]
    go_enter Tryz.func63, Tryz.ntmps63
    go_wp2_with fail
    go_ret
    exact ⟨rfl, (Below.refl _ _).alloc (Nat.le_refl _) _⟩
  · rw [decide_eq_true h]
    have hi : ¬ ((o.2 : Int) = 0) := by omega
    have hi2 : ((o.2 : Int) == 0) = false := by simpa using h
    go_enter Tryz.func63, Tryz.ntmps63
    go_wp2_with fail
    go_ret
    exact ⟨by simp [h], (Below.refl _ _).alloc (Nat.le_refl _) _⟩
set_option maxHeartbeats 4000000 in
theorem tries_inA (n : Nat) (hn : 1 ≤ n) (l L b1 b2 b3 b4 b5 : Nat) {t1 t2 t3 t4 t5 : TypeId} (hL : b1 ≠ L ∧ b2 ≠ L ∧ b3 ≠ L ∧ b4 ≠ L ∧ b5 ≠ L) (nd : Node) (hok : nd.ok) (m : Nat) (hm : m < 512) (x : Int) (hx : x = 0 ∨ x = 1) (all : Nat) (J Jx : List Nat → World → Prop) (W : World)
    (hAJ : ∀ pre A B, J pre A → Below A.heap.size A B → W.heap.size ≤ A.heap.size → J pre B)
    (hY : ∀ pre y W, J pre W → pre.length < 13 → YieldAt Fence.wide (n - 1) Tryz.prog l (encT nd m y) W fun e W' =>
      (e = .returned (.bool true) ∧ J (pre ++ [y]) W' ∧ KpL L W W') ∨ (e = .returned (.bool false) ∧ Jx (pre ++ [y]) W'))
    (hLW : L < W.heap.size)
    (h1 : Lies W b1 #[nodeV nd] t1) (h2 : Lies W b2 #[.int .i64 (m : Int)] t2)
    (h3 : Lies W b3 #[.func (.func 74) #[] #[.pointer (some ⟨b4, 0, none⟩), .pointer (some ⟨b5, 0, none⟩)]] t3)
    (h4 : Lies W b4 #[.int .i64 x] t4) (h5 : Lies W b5 #[.int .i64 (all : Int)] t5) (hJ0 : J [] W) :
    CallsIn Fence.wide n Tryz.prog 85 #[.func (.yield l) #[] #[], .pointer (some ⟨b1, 0, none⟩), .pointer (some ⟨b2, 0, none⟩), .pointer (some ⟨b3, 0, none⟩)] W fun e W' => (∃ v, e = .returned v) ∧
      ((∃ ys, lastS (fun j => decide (exitN x (runT j nd m) = all)) ys ∧ J ys W') ∨ (∃ pre, True ∧ Jx pre W')) := by
  refine callsIn_of_wp Tryz.func85 rfl trivial ?_ rfl
  simp only [Tryz.ntmps85, List.size_toArray, List.length_cons, List.length_nil, Nat.reduceAdd, Nat.reduceSub, Array.replicate_succ, Array.replicate_zero, List.push_toArray, List.append_toArray, List.nil_append, List.cons_append]
  gi_wp2
  gi_loopw [7] (fun i wr => ∃ k : Nat, k ≤ 13 ∧ i = .int .i64 (k : Int) ∧ (∀ j, j < k → decide (exitN x (runT j nd m) = all) = false) ∧ KpL L W wr ∧ W.heap.size ≤ wr.heap.size ∧ J (List.range k) wr) (fun i _ => 13 - (intOf i).toNat)
  case atStart => exact ⟨0, by omega, rfl, fun j hj => by omega, kpL_refl _ _, Nat.le_refl _, hJ0⟩
  case round =>
    obtain ⟨k, hk, rfl, hno, hKp, hsz, hJ⟩ := hrel
    by_cases hlt : k < 13
    · have hk13 : (k : Int) < 13 := by omega
      have c1 := lies1 (h1.kp hKp hL.1)
      have c2 := lies1 (h2.kp hKp hL.2.1)
      have hrun := prunin nd hok m hm k (by omega) wr
      have HNO := Lib.hid hno
      clear hno
      have hlen : (List.range k).length < 13 := by simp; omega
      gi_wp2_with (refine ⟨trivial, ?_⟩; gi_at_call 41; refine (callsIn_wide.2 hrun).mono ?_; rintro e W2 ⟨rfl, hb2⟩; have hbV := hb2.trans (((Below.refl _ W2).alloc (Nat.le_refl _) (.cells #[.int .i64 ((runT k nd m).1 : Int), .int .i64 ((runT k nd m).2 : Int)] 64)).mono hb2.size); have hJV := hAJ _ _ _ hJ hbV hsz; obtain ⟨fn, tmps, assign, body, hy, hR⟩ := hY (List.range k) k _ hJV hlen; dsimp only [encT, outV] at hy)
      have LV := Lies.new W2 #[.int .i64 ((runT k nd m).1 : Int), .int .i64 ((runT k nd m).2 : Int)] 64
      have hKV : KpL L W (W2.alloc (.cells #[.int .i64 ((runT k nd m).1 : Int), .int .i64 ((runT k nd m).2 : Int)] 64)) := kpL_t hKp (kpL_below hbV)
      have hszV : W.heap.size ≤ (W2.alloc (.cells #[.int .i64 ((runT k nd m).1 : Int), .int .i64 ((runT k nd m).2 : Int)] 64)).heap.size := Nat.le_trans hsz hbV.size
      have hgL : W2.heap.size ≠ L := Nat.ne_of_gt (Nat.lt_of_lt_of_le hLW (Nat.le_trans hsz hb2.size))
      refine hR.mono ?_
      rintro e W3 (⟨rfl, hJ3, hk3⟩ | ⟨rfl, hJx3⟩)
      · have hK3 := kpL_t hKV hk3
        have hsz3 := hK3.2
        have LO := LV.kp hk3 hgL
        have d3 := lies1 (h3.kp hK3 hL.2.2.1)
        obtain ⟨o0, o1, _, _⟩ := LO.cells
        have hen := enoughA (runT k nd m) x hx all b4 b5 W3 (lies1 (h4.kp hK3 hL.2.2.2.1)) (lies1 (h5.kp hK3 hL.2.2.2.2))
        unfold outV at hen
        cases hE : decide (exitN x (runT k nd m) = all) with
        | true =>
          rw [hE] at hen
          have HE := Lib.hid hE
          clear hE
          gi_wp2_with (refine ⟨trivial, ?_⟩; gi_at_call 74; refine (callsIn_wide.2 hen).mono ?_; rintro e W4 ⟨rfl, hb4⟩)
          have hJ4 := hAJ _ _ _ hJ3 hb4 hsz3
          refine bodyPost_ret (results_none rfl _ _ _) rfl ?_
          exact ⟨⟨_, rfl⟩, .inl ⟨_, ⟨k, List.range_succ.symm, by omega, HNO.out, .inl HE.out⟩, hJ4⟩⟩
        | false =>
          rw [hE] at hen
          have HE := Lib.hid hE
          clear hE
          gi_wp2_with (refine ⟨trivial, ?_⟩; gi_at_call 74; refine (callsIn_wide.2 hen).mono ?_; rintro e W4 ⟨rfl, hb4⟩)
          have hJ4 := hAJ _ _ _ hJ3 hb4 hsz3
          go_roundw
          case rel =>
            refine ⟨k + 1, by omega, by go_num, fun j hj => ?_, kpL_t hK3 (kpL_below hb4), Nat.le_trans hsz3 hb4.size, by rw [List.range_succ]; exact hJ4⟩
            by_cases he : j = k
            · rw [he]; exact HE.out
            · exact HNO.out j (by omega)
          case measure => simp [intOf]; omega
      · gi_wp2
        refine ⟨fun _ h => (by cases h), ?_⟩
        gi_wp2
        refine bodyPost_ret (results_none rfl _ _ _) rfl ?_
        exact ⟨⟨_, rfl⟩, .inr ⟨_, trivial, hJx3⟩⟩
    · obtain rfl : k = 13 := by omega
      gi_wp2
      go_end0
      exact ⟨⟨_, rfl⟩, .inl ⟨_, ⟨12, rfl, by omega, fun j hj => hno j (by omega), .inr rfl⟩, hJ⟩⟩
/-- The times that a list of tries ends with. -/
theorem last_at {E : Nat → Bool} (h12 : E 12 = true) {ys : List Nat} (h : lastS E ys) : ys = List.range (leastT E 12 0 + 1) := by
  obtain ⟨t, rfl, ht, hno, hE⟩ := h
  have : leastT E 12 0 = t := least_at 12 0 t (Nat.zero_le _) (by omega) (fun j _ hj => hno j hj) (by
    rcases hE with h | rfl
    · exact h
    · exact h12)
  rw [this]
def lastV (ys : List Nat) : Int := match ys.getLast? with
  | some t => (t : Int)
  | none => -1
theorem lastV_snoc (pre : List Nat) (y : Nat) : lastV (pre ++ [y]) = (y : Int) := by unfold lastV; simp
theorem lastV_range (t : Nat) : lastV (List.range (t + 1)) = (t : Int) := by rw [List.range_succ, lastV_snoc]
theorem triesMaker (n : Nat) (T0 : TypeId) (v0 : Value) (m : Int) (fid : Nat) (caps : Array Value) (w : World) :
    CallsIn Fence.wide n Tryz.prog 62 #[.iface T0 v0, .int .i64 m, .func (.func fid) #[] caps] w fun e w' => e = .returned (.func (.func 85) #[] #[.pointer (some ⟨w.heap.size, 0, none⟩), .pointer (some ⟨w.heap.size + 1, 0, none⟩), .pointer (some ⟨w.heap.size + 1 + 1, 0, none⟩)]) ∧ w' = ((w.alloc (.cells #[.iface T0 v0] 55)).alloc (.cells #[.int .i64 m] 62)).alloc (.cells #[.func (.func fid) #[] caps] 101) := by
  refine callsIn_of_wp Tryz.func62 rfl trivial ?_ rfl
  simp only [Tryz.ntmps62, List.size_toArray, List.length_cons, List.length_nil, Nat.reduceAdd, Nat.reduceSub, Array.replicate_succ, Array.replicate_zero, List.push_toArray, List.append_toArray, List.nil_append, List.cons_append]
  gi_wp2
  go_ret
  exact ⟨rfl, rfl⟩
set_option maxHeartbeats 4000000 in
/-- The number of times that tries end with: the last one that they yield. -/
theorem lastA (n : Nat) (hn : 3 ≤ n) (b1 b2 b3 b4 b5 : Nat) {t1 t2 t3 t4 t5 : TypeId} (nd : Node) (hok : nd.ok) (m : Nat) (hm : m < 512) (x : Int) (hx : x = 0 ∨ x = 1) (all : Nat) (w : World)
    (h1 : Lies w b1 #[nodeV nd] t1) (h2 : Lies w b2 #[.int .i64 (m : Int)] t2)
    (h3 : Lies w b3 #[.func (.func 74) #[] #[.pointer (some ⟨b4, 0, none⟩), .pointer (some ⟨b5, 0, none⟩)]] t3)
    (h4 : Lies w b4 #[.int .i64 x] t4) (h5 : Lies w b5 #[.int .i64 (all : Int)] t5) (h12 : exitN x (runT 12 nd m) = all) :
    CallsIn Fence.wide n Tryz.prog 48 #[.func (.func 85) #[] #[.pointer (some ⟨b1, 0, none⟩), .pointer (some ⟨b2, 0, none⟩), .pointer (some ⟨b3, 0, none⟩)]] w fun e W' =>
      e = .returned (.int .i64 ((leastT (fun j => decide (exitN x (runT j nd m) = all)) 12 0 : Nat) : Int)) ∧ Below w.heap.size w W' := by
  have hn1 : 1 ≤ n := by omega
  refine callsIn_of_wp_marks Tryz.func48 rfl trivial ?_ rfl
  simp only [Tryz.ntmps48, List.size_toArray, List.length_cons, List.length_nil, Nat.reduceAdd, Nat.reduceSub, Array.replicate_succ, Array.replicate_zero, List.push_toArray, List.append_toArray, List.nil_append, List.cons_append]
  gi_wp2
  have c0 := cellNew w (.int .i64 (-1)) 3
  have hB0 : Below w.heap.size w (w.alloc (.cells #[.int .i64 (-1)] 3)) := (Below.refl _ w).alloc (Nat.le_refl _) _
  refine wpIn_rangeFunc_ownF rfl hn1 (gf := 85) (lb := #[.pointer (some ⟨b1, 0, none⟩), .pointer (some ⟨b2, 0, none⟩), .pointer (some ⟨b3, 0, none⟩)]) rfl trivial (enters_of Tryz.func85 (by kernel_rfl) rfl)
    (encs := encT nd m) (Kp := KpL w.heap.size) (S := lastS (fun j => decide (exitN x (runT j nd m) = all))) (Sp := fun _ => True) (N := 13)
    (fun l J Jx W hW hAJ _ hY h0 => tries_inA (n - 1) (by omega) l w.heap.size b1 b2 b3 b4 b5 ⟨Nat.ne_of_lt h1.lt, Nat.ne_of_lt h2.lt, Nat.ne_of_lt h3.lt, Nat.ne_of_lt h4.lt, Nat.ne_of_lt h5.lt⟩ nd hok m hm x hx all J Jx W (fun pre A B hJ hb _ => hAJ pre A B none hJ (below_grown hb none) (fun r e => by cases e)) hY
      (Nat.lt_of_lt_of_le (by simp) hW.size) ((h1.alloc _).below hW) ((h2.alloc _).below hW) ((h3.alloc _).below hW) ((h4.alloc _).below hW) ((h5.alloc _).below hW) h0)
    (fun h k => kpL_t h k) (fun W l o o' _ ho hc _ => kpL_b W l o o' ho hc) (Below.refl _ _) (fun _ => rfl)
    (fun pre W => (W.cell? ⟨w.heap.size, 0, none⟩ = some (.int .i64 (lastV pre)) ∧ W.frozen? ⟨w.heap.size, 0, none⟩ = false) ∧ Below w.heap.size w W)
    (fun _ _ _ => False)
    (OwnFrom.and (Own.from (fun s A B row hs hg hr => ⟨cell_kept hs.1 hg hr, (frozen_kept hs.1 hg hr).trans hs.2⟩) _) (ownFrom_below (Nat.le_refl _) (by simp)))
    (fun c s A B row hs _ _ => hs)
    ⟨⟨c0.1, c0.2⟩, hB0⟩
    (fun y => { tmps := #[.func (.func 85) #[] #[.pointer (some ⟨b1, 0, none⟩), .pointer (some ⟨b2, 0, none⟩), .pointer (some ⟨b3, 0, none⟩)], undef, .int .i64 0, .pointer (some ⟨w.heap.size, 0, none⟩), .int .i64 (y : Int), .func (.func 85) #[] #[.pointer (some ⟨b1, 0, none⟩), .pointer (some ⟨b2, 0, none⟩), .pointer (some ⟨b3, 0, none⟩)], .int .i64 (y : Int), outV (runT y nd m), undef, undef], defers := [] }) ?assign ?body ?done ?stop
  case assign =>
    intro l y W K hK
    simp only [encT]
    gi_wp2
    exact hK
  case body =>
    rintro l pre y W ⟨⟨hcr, hfr⟩, hB⟩ _
    gi_wp2
    exact ⟨KeepsOthers.setCell _ _ _, kpL_set _ _, ⟨by rw [lastV_snoc]; exact World.cell?_setCell_same' _ _ _ (by rw [hcr]; rfl), by simp [hfr]⟩, hB.setCell (p := ⟨w.heap.size, 0, none⟩) (Nat.le_refl _) _⟩
  case done =>
    rintro D ys W hD hS ⟨⟨hcr, hfr⟩, hB⟩ hK
    rw [last_at (decide_eq_true h12) hS, lastV_range] at hcr
    gi_wp2
    refine ⟨by simp, .inl ⟨_, _, rfl, run_takeDeferred hK, ?_⟩⟩
    refine ⟨.int .i64 ((leastT (fun j => decide (exitN x (runT j nd m) = all)) 12 0 : Nat) : Int), ?_, rfl, hB.trans (belowK_b (w := w) (Nat.le_refl _) W D _ _ (by simp at hD; omega) hK rfl rfl)⟩
    simp [results, Tryz.f48, go_sem]
  case stop =>
    rintro D c pre W hD _ hF _
    exact hF.elim
end Go.Proofs.YtnejphdbnfdbhaaGreatDoor

namespace Go.Proofs.YtnejphdbnfdbhaaGreatDoor
open Go.ChangeShapes Go.WideShapes Go.ChangeAt Go.RowKit Go.Shelf
attribute [local go_sem] Oper.semAt_some
set_option maxRecDepth 100000

set_option maxHeartbeats 4000000 in
theorem tries_inB (n : Nat) (hn : 1 ≤ n) (l L b1 b2 b3 : Nat) {t1 t2 t3 : TypeId} (hL : b1 ≠ L ∧ b2 ≠ L ∧ b3 ≠ L) (nd : Node) (hok : nd.ok) (m : Nat) (hm : m < 512) (J Jx : List Nat → World → Prop) (W : World)
    (hAJ : ∀ pre A B, J pre A → Below A.heap.size A B → W.heap.size ≤ A.heap.size → J pre B)
    (hY : ∀ pre y W, J pre W → pre.length < 13 → YieldAt Fence.wide (n - 1) Tryz.prog l (encT nd m y) W fun e W' =>
      (e = .returned (.bool true) ∧ J (pre ++ [y]) W' ∧ KpL L W W') ∨ (e = .returned (.bool false) ∧ Jx (pre ++ [y]) W'))
    (hLW : L < W.heap.size)
    (h1 : Lies W b1 #[nodeV nd] t1) (h2 : Lies W b2 #[.int .i64 (m : Int)] t2)
    (h3 : Lies W b3 #[.func (.func 63) #[] #[]] t3)
    (hJ0 : J [] W) :
    CallsIn Fence.wide n Tryz.prog 85 #[.func (.yield l) #[] #[], .pointer (some ⟨b1, 0, none⟩), .pointer (some ⟨b2, 0, none⟩), .pointer (some ⟨b3, 0, none⟩)] W fun e W' => (∃ v, e = .returned v) ∧
      ((∃ ys, lastS (fun j => decide ((runT j nd m).2 ≠ 0)) ys ∧ J ys W') ∨ (∃ pre, True ∧ Jx pre W')) := by
  refine callsIn_of_wp Tryz.func85 rfl trivial ?_ rfl
  simp only [Tryz.ntmps85, List.size_toArray, List.length_cons, List.length_nil, Nat.reduceAdd, Nat.reduceSub, Array.replicate_succ, Array.replicate_zero, List.push_toArray, List.append_toArray, List.nil_append, List.cons_append]
  gi_wp2
  gi_loopw [7] (fun i wr => ∃ k : Nat, k ≤ 13 ∧ i = .int .i64 (k : Int) ∧ (∀ j, j < k → decide ((runT j nd m).2 ≠ 0) = false) ∧ KpL L W wr ∧ W.heap.size ≤ wr.heap.size ∧ J (List.range k) wr) (fun i _ => 13 - (intOf i).toNat)
  case atStart => exact ⟨0, by omega, rfl, fun j hj => by omega, kpL_refl _ _, Nat.le_refl _, hJ0⟩
  case round =>
    obtain ⟨k, hk, rfl, hno, hKp, hsz, hJ⟩ := hrel
    by_cases hlt : k < 13
    · have hk13 : (k : Int) < 13 := by omega
      have c1 := lies1 (h1.kp hKp hL.1)
      have c2 := lies1 (h2.kp hKp hL.2.1)
      have hrun := prunin nd hok m hm k (by omega) wr
      have HNO := Lib.hid hno
      clear hno
      have hlen : (List.range k).length < 13 := by simp; omega
      gi_wp2_with (refine ⟨trivial, ?_⟩; gi_at_call 41; refine (callsIn_wide.2 hrun).mono ?_; rintro e W2 ⟨rfl, hb2⟩; have hbV := hb2.trans (((Below.refl _ W2).alloc (Nat.le_refl _) (.cells #[.int .i64 ((runT k nd m).1 : Int), .int .i64 ((runT k nd m).2 : Int)] 64)).mono hb2.size); have hJV := hAJ _ _ _ hJ hbV hsz; obtain ⟨fn, tmps, assign, body, hy, hR⟩ := hY (List.range k) k _ hJV hlen; dsimp only [encT, outV] at hy)
      have LV := Lies.new W2 #[.int .i64 ((runT k nd m).1 : Int), .int .i64 ((runT k nd m).2 : Int)] 64
      have hKV : KpL L W (W2.alloc (.cells #[.int .i64 ((runT k nd m).1 : Int), .int .i64 ((runT k nd m).2 : Int)] 64)) := kpL_t hKp (kpL_below hbV)
      have hszV : W.heap.size ≤ (W2.alloc (.cells #[.int .i64 ((runT k nd m).1 : Int), .int .i64 ((runT k nd m).2 : Int)] 64)).heap.size := Nat.le_trans hsz hbV.size
      have hgL : W2.heap.size ≠ L := Nat.ne_of_gt (Nat.lt_of_lt_of_le hLW (Nat.le_trans hsz hb2.size))
      refine hR.mono ?_
      rintro e W3 (⟨rfl, hJ3, hk3⟩ | ⟨rfl, hJx3⟩)
      · have hK3 := kpL_t hKV hk3
        have hsz3 := hK3.2
        have LO := LV.kp hk3 hgL
        have d3 := lies1 (h3.kp hK3 hL.2.2)
        obtain ⟨o0, o1, _, _⟩ := LO.cells
        have hen := enoughB (runT k nd m) W3
        unfold outV at hen
        cases hE : decide ((runT k nd m).2 ≠ 0) with
        | true =>
          rw [hE] at hen
          have HE := Lib.hid hE
          clear hE
          gi_wp2_with (refine ⟨trivial, ?_⟩; gi_at_call 63; refine (callsIn_wide.2 hen).mono ?_; rintro e W4 ⟨rfl, hb4⟩)
          have hJ4 := hAJ _ _ _ hJ3 hb4 hsz3
          refine bodyPost_ret (results_none rfl _ _ _) rfl ?_
          exact ⟨⟨_, rfl⟩, .inl ⟨_, ⟨k, List.range_succ.symm, by omega, HNO.out, .inl HE.out⟩, hJ4⟩⟩
        | false =>
          rw [hE] at hen
          have HE := Lib.hid hE
          clear hE
          gi_wp2_with (refine ⟨trivial, ?_⟩; gi_at_call 63; refine (callsIn_wide.2 hen).mono ?_; rintro e W4 ⟨rfl, hb4⟩)
          have hJ4 := hAJ _ _ _ hJ3 hb4 hsz3
          go_roundw
          case rel =>
            refine ⟨k + 1, by omega, by go_num, fun j hj => ?_, kpL_t hK3 (kpL_below hb4), Nat.le_trans hsz3 hb4.size, by rw [List.range_succ]; exact hJ4⟩
            by_cases he : j = k
            · rw [he]; exact HE.out
            · exact HNO.out j (by omega)
          case measure => simp [intOf]; omega
      · gi_wp2
        refine ⟨fun _ h => (by cases h), ?_⟩
        gi_wp2
        refine bodyPost_ret (results_none rfl _ _ _) rfl ?_
        exact ⟨⟨_, rfl⟩, .inr ⟨_, trivial, hJx3⟩⟩
    · obtain rfl : k = 13 := by omega
      gi_wp2
      go_end0
      exact ⟨⟨_, rfl⟩, .inl ⟨_, ⟨12, rfl, by omega, fun j hj => hno j (by omega), .inr rfl⟩, hJ⟩⟩
set_option maxHeartbeats 4000000 in
/-- The number of times that tries end with: the last one that they yield. -/
theorem lastB (n : Nat) (hn : 3 ≤ n) (b1 b2 b3 : Nat) {t1 t2 t3 : TypeId} (nd : Node) (hok : nd.ok) (m : Nat) (hm : m < 512) (w : World)
    (h1 : Lies w b1 #[nodeV nd] t1) (h2 : Lies w b2 #[.int .i64 (m : Int)] t2)
    (h3 : Lies w b3 #[.func (.func 63) #[] #[]] t3)
    (h12 : (runT 12 nd m).2 ≠ 0) :
    CallsIn Fence.wide n Tryz.prog 48 #[.func (.func 85) #[] #[.pointer (some ⟨b1, 0, none⟩), .pointer (some ⟨b2, 0, none⟩), .pointer (some ⟨b3, 0, none⟩)]] w fun e W' =>
      e = .returned (.int .i64 ((leastT (fun j => decide ((runT j nd m).2 ≠ 0)) 12 0 : Nat) : Int)) ∧ Below w.heap.size w W' := by
  have hn1 : 1 ≤ n := by omega
  refine callsIn_of_wp_marks Tryz.func48 rfl trivial ?_ rfl
  simp only [Tryz.ntmps48, List.size_toArray, List.length_cons, List.length_nil, Nat.reduceAdd, Nat.reduceSub, Array.replicate_succ, Array.replicate_zero, List.push_toArray, List.append_toArray, List.nil_append, List.cons_append]
  gi_wp2
  have c0 := cellNew w (.int .i64 (-1)) 3
  have hB0 : Below w.heap.size w (w.alloc (.cells #[.int .i64 (-1)] 3)) := (Below.refl _ w).alloc (Nat.le_refl _) _
  refine wpIn_rangeFunc_ownF rfl hn1 (gf := 85) (lb := #[.pointer (some ⟨b1, 0, none⟩), .pointer (some ⟨b2, 0, none⟩), .pointer (some ⟨b3, 0, none⟩)]) rfl trivial (enters_of Tryz.func85 (by kernel_rfl) rfl)
    (encs := encT nd m) (Kp := KpL w.heap.size) (S := lastS (fun j => decide ((runT j nd m).2 ≠ 0))) (Sp := fun _ => True) (N := 13)
    (fun l J Jx W hW hAJ _ hY h0 => tries_inB (n - 1) (by omega) l w.heap.size b1 b2 b3 ⟨Nat.ne_of_lt h1.lt, Nat.ne_of_lt h2.lt, Nat.ne_of_lt h3.lt⟩ nd hok m hm J Jx W (fun pre A B hJ hb _ => hAJ pre A B none hJ (below_grown hb none) (fun r e => by cases e)) hY
      (Nat.lt_of_lt_of_le (by simp) hW.size) ((h1.alloc _).below hW) ((h2.alloc _).below hW) ((h3.alloc _).below hW) h0)
    (fun h k => kpL_t h k) (fun W l o o' _ ho hc _ => kpL_b W l o o' ho hc) (Below.refl _ _) (fun _ => rfl)
    (fun pre W => (W.cell? ⟨w.heap.size, 0, none⟩ = some (.int .i64 (lastV pre)) ∧ W.frozen? ⟨w.heap.size, 0, none⟩ = false) ∧ Below w.heap.size w W)
    (fun _ _ _ => False)
    (OwnFrom.and (Own.from (fun s A B row hs hg hr => ⟨cell_kept hs.1 hg hr, (frozen_kept hs.1 hg hr).trans hs.2⟩) _) (ownFrom_below (Nat.le_refl _) (by simp)))
    (fun c s A B row hs _ _ => hs)
    ⟨⟨c0.1, c0.2⟩, hB0⟩
    (fun y => { tmps := #[.func (.func 85) #[] #[.pointer (some ⟨b1, 0, none⟩), .pointer (some ⟨b2, 0, none⟩), .pointer (some ⟨b3, 0, none⟩)], undef, .int .i64 0, .pointer (some ⟨w.heap.size, 0, none⟩), .int .i64 (y : Int), .func (.func 85) #[] #[.pointer (some ⟨b1, 0, none⟩), .pointer (some ⟨b2, 0, none⟩), .pointer (some ⟨b3, 0, none⟩)], .int .i64 (y : Int), outV (runT y nd m), undef, undef], defers := [] }) ?assign ?body ?done ?stop
  case assign =>
    intro l y W K hK
    simp only [encT]
    gi_wp2
    exact hK
  case body =>
    rintro l pre y W ⟨⟨hcr, hfr⟩, hB⟩ _
    gi_wp2
    exact ⟨KeepsOthers.setCell _ _ _, kpL_set _ _, ⟨by rw [lastV_snoc]; exact World.cell?_setCell_same' _ _ _ (by rw [hcr]; rfl), by simp [hfr]⟩, hB.setCell (p := ⟨w.heap.size, 0, none⟩) (Nat.le_refl _) _⟩
  case done =>
    rintro D ys W hD hS ⟨⟨hcr, hfr⟩, hB⟩ hK
    rw [last_at (decide_eq_true h12) hS, lastV_range] at hcr
    gi_wp2
    refine ⟨by simp, .inl ⟨_, _, rfl, run_takeDeferred hK, ?_⟩⟩
    refine ⟨.int .i64 ((leastT (fun j => decide ((runT j nd m).2 ≠ 0)) 12 0 : Nat) : Int), ?_, rfl, hB.trans (belowK_b (w := w) (Nat.le_refl _) W D _ _ (by simp at hD; omega) hK rfl rfl)⟩
    simp [results, Tryz.f48, go_sem]
  case stop =>
    rintro D c pre W hD _ hF _
    exact hF.elim
end Go.Proofs.YtnejphdbnfdbhaaGreatDoor

namespace Go.Proofs.YtnejphdbnfdbhaaGreatDoor
open Go.ChangeShapes Go.WideShapes Go.ChangeAt Go.RowKit Go.Shelf
attribute [local go_sem] Oper.semAt_some
set_option maxRecDepth 100000

theorem lastA' (b1 b2 b3 b4 b5 : Nat) {t1 t2 t3 t4 t5 : TypeId} (nd : Node) (hok : nd.ok) (m : Nat) (hm : m < 512) (x : Int) (hx : x = 0 ∨ x = 1) (all : Nat) (w : World)
    (h1 : Lies w b1 #[nodeV nd] t1) (h2 : Lies w b2 #[.int .i64 (m : Int)] t2)
    (h3 : Lies w b3 #[.func (.func 74) #[] #[.pointer (some ⟨b4, 0, none⟩), .pointer (some ⟨b5, 0, none⟩)]] t3)
    (h4 : Lies w b4 #[.int .i64 x] t4) (h5 : Lies w b5 #[.int .i64 (all : Int)] t5) (h12 : exitN x (runT 12 nd m) = all) :
    Calls Tryz.prog 48 #[.func (.func 85) #[] #[.pointer (some ⟨b1, 0, none⟩), .pointer (some ⟨b2, 0, none⟩), .pointer (some ⟨b3, 0, none⟩)]] w fun e W' =>
      e = .returned (.int .i64 ((leastT (fun j => decide (exitN x (runT j nd m) = all)) 12 0 : Nat) : Int)) ∧ Below w.heap.size w W' :=
  callsIn_wide.1 (lastA 3 (by omega) b1 b2 b3 b4 b5 nd hok m hm x hx all w h1 h2 h3 h4 h5 h12)
theorem lastB' (b1 b2 b3 : Nat) {t1 t2 t3 : TypeId} (nd : Node) (hok : nd.ok) (m : Nat) (hm : m < 512) (w : World)
    (h1 : Lies w b1 #[nodeV nd] t1) (h2 : Lies w b2 #[.int .i64 (m : Int)] t2)
    (h3 : Lies w b3 #[.func (.func 63) #[] #[]] t3) (h12 : (runT 12 nd m).2 ≠ 0) :
    Calls Tryz.prog 48 #[.func (.func 85) #[] #[.pointer (some ⟨b1, 0, none⟩), .pointer (some ⟨b2, 0, none⟩), .pointer (some ⟨b3, 0, none⟩)]] w fun e W' =>
      e = .returned (.int .i64 ((leastT (fun j => decide ((runT j nd m).2 ≠ 0)) 12 0 : Nat) : Int)) ∧ Below w.heap.size w W' :=
  callsIn_wide.1 (lastB 3 (by omega) b1 b2 b3 nd hok m hm w h1 h2 h3 h12)
theorem triesMaker' (T0 : TypeId) (v0 : Value) (m : Int) (fid : Nat) (caps : Array Value) (w : World) :
    Calls Tryz.prog 62 #[.iface T0 v0, .int .i64 m, .func (.func fid) #[] caps] w fun e w' => e = .returned (.func (.func 85) #[] #[.pointer (some ⟨w.heap.size, 0, none⟩), .pointer (some ⟨w.heap.size + 1, 0, none⟩), .pointer (some ⟨w.heap.size + 1 + 1, 0, none⟩)]) ∧ w' = ((w.alloc (.cells #[.iface T0 v0] 55)).alloc (.cells #[.int .i64 m] 62)).alloc (.cells #[.func (.func fid) #[] caps] 101) :=
  callsIn_wide.1 (triesMaker 3 T0 v0 m fid caps w)

/-- What the tries until all are told: an iterator whose cells lie so. -/
def Tried (nd : Node) (m : Nat) (x : Int) (all : Nat) (v : Value) (W : World) : Prop := ∃ b1 b2 b3 b4 b5 t1 t2 t3 t4 t5,
  v = .func (.func 85) #[] #[.pointer (some ⟨b1, 0, none⟩), .pointer (some ⟨b2, 0, none⟩), .pointer (some ⟨b3, 0, none⟩)] ∧
  Lies W b1 #[nodeV nd] t1 ∧ Lies W b2 #[.int .i64 (m : Int)] t2 ∧ Lies W b3 #[.func (.func 74) #[] #[.pointer (some ⟨b4, 0, none⟩), .pointer (some ⟨b5, 0, none⟩)]] t3 ∧ Lies W b4 #[.int .i64 x] t4 ∧ Lies W b5 #[.int .i64 (all : Int)] t5

set_option maxHeartbeats 2000000 in
theorem puntil_no (t : ByteArray) (s x : Int) (w : World) {N : Nat} (hE : Laid3 N w) (hb : reachB t s x = false) :
    Calls Tryz.prog 47 #[.string t, .int .i64 s, .int .i64 x] w fun e w' => e = .returned (.tuple #[.nilFunc, .bool false]) ∧ Below w.heap.size w w' := by
  have hr := fun (X : World) (hX : Laid3 N X) => preach10 t s x X hX
  rw [hb] at hr
  have hE1 := hE.below ((Below.refl _ w).alloc (Nat.le_refl _) (.cells #[.int .i64 x] 3)) hE.lt
  go_enter Tryz.func47, Tryz.ntmps47
  go_wp2_with fail
  refine (hr _ hE1).mono ?_
  rintro e W1 ⟨rfl, hb1⟩
  have hB := (((Below.refl _ w).alloc (Nat.le_refl _) (.cells #[.int .i64 x] 3)).trans (hb1.mono (by simp)))
  go_wp2_with fail
  go_ret2
  exact ⟨rfl, hB.alloc hB.size _⟩
set_option maxHeartbeats 2000000 in
theorem puntil_ok (t : ByteArray) (m : Nat) (hm : m < 512) (x : Int) (hx : x = 0 ∨ x = 1) (w : World) {N : Nat} (hE : Laid3 N w) {nd : Node} (hP : readP t.toList = some nd) :
    Calls Tryz.prog 47 #[.string t, .int .i64 (m : Int), .int .i64 x] w fun e w' => (∃ v, e = .returned (.tuple #[v, .bool true]) ∧ Tried nd m x (exitN x (runR nd m)) v w') ∧ Below w.heap.size w w' := by
  have hr := fun (X : World) (hX : Laid3 N X) => pread40 t.toList X hX
  rw [bytes_eta] at hr
  obtain ⟨hok, _⟩ := readP_iff.1 hP
  have hre := fun (X : World) (hX : Laid3 N X) => preach_ok t m hm x hx X hX hP
  have HP := Lib.hid hP
  clear hP
  generalize exitN x (runR nd m) = all at hre ⊢
  go_enter Tryz.func47, Tryz.ntmps47
  have hE1 := hE.below ((Below.refl _ w).alloc (Nat.le_refl _) (.cells #[.int .i64 x] 3)) hE.lt
  have LX := Lies.new w #[.int .i64 x] 3
  have hA := (Below.refl _ w).alloc (Nat.le_refl _) (.cells #[.int .i64 x] 3)
  go_wp2_with fail
  refine (hre _ hE1).mono ?_
  rintro e W1 ⟨rfl, hb1⟩
  have LX1 := LX.below hb1
  have hB := hA.trans (hb1.mono (by simp))
  have hE2 := hE.below (hB.alloc hB.size (.cells #[.int .i64 (all : Int)] 3)) hE.lt
  have LX2 := LX1.alloc (.cells #[.int .i64 (all : Int)] 3)
  have LA := Lies.new W1 #[.int .i64 (all : Int)] 3
  have hB2 := hB.alloc hB.size (.cells #[.int .i64 (all : Int)] 3)
  go_wp2_with fail
  refine (hr _ hE2).mono ?_
  rintro e W2 ⟨hb2, hm2⟩
  rw [HP.out] at hm2
  obtain rfl := hm2
  have LX3 := LX2.below hb2
  have LA3 := LA.below hb2
  have hB3 := hB2.trans (hb2.mono hB2.size)
  clear LX LX1 LX2 LA hb1 hb2 hE1 hE2 hA hB hB2
  generalize W1.heap.size = ga at LA3 ⊢
  go_wp2_with fail
  rw [nodeV_eq nd hok]
  refine (triesMaker' (nodeT nd) (nodeX nd) (m : Int) _ _ W2).mono ?_
  rintro e W3 ⟨rfl, rfl⟩
  go_wp2_with fail
  go_ret2
  have B1 := (Lies.new W2 #[.iface (nodeT nd) (nodeX nd)] 55)
  have B2 := (Lies.new (W2.alloc (.cells #[.iface (nodeT nd) (nodeX nd)] 55)) #[.int .i64 (m : Int)] 62)
  have B3 := (Lies.new ((W2.alloc (.cells #[.iface (nodeT nd) (nodeX nd)] 55)).alloc (.cells #[.int .i64 (m : Int)] 62)) #[.func (.func 74) #[] #[.pointer (some ⟨w.heap.size, 0, none⟩), .pointer (some ⟨ga, 0, none⟩)]] 101)
  rw [World.size_alloc] at B2
  rw [World.size_alloc, World.size_alloc] at B3
  rw [← nodeV_eq nd hok] at B1
  refine ⟨⟨_, rfl, W2.heap.size, W2.heap.size + 1, W2.heap.size + 1 + 1, w.heap.size, ga, 55, 62, 101, 3, 3, rfl, ?_, ?_, ?_, ?_, ?_⟩, ((hB3.alloc hB3.size _).alloc (hB3.alloc hB3.size _).size _).alloc ((hB3.alloc hB3.size _).alloc (hB3.alloc hB3.size _).size _).size _⟩
  · exact ((by rw [← nodeV_eq nd hok]; exact B1 : Lies (W2.alloc (.cells #[.iface (nodeT nd) (nodeX nd)] 55)) W2.heap.size #[nodeV nd] 55).alloc _).alloc _
  · exact B2.alloc _
  · exact B3
  · exact ((LX3.alloc _).alloc _).alloc _
  · exact ((LA3.alloc _).alloc _).alloc _
set_option maxHeartbeats 2000000 in
theorem pfor (t : ByteArray) (s x : Int) (w : World) {N : Nat} (hE : Laid3 N w) :
    Calls Tryz.prog 10 #[.string t, .int .i64 s, .int .i64 x] w fun e w' => e = .returned (.int .i64 (forZ t s x)) ∧ Below w.heap.size w w' := by
  cases hb : reachB t s x with
  | false =>
    have h0 : forZ t s x = -1 := by
      unfold forZ
      split
      · rw [hb]; rfl
      · rfl
    rw [h0]
    have hu := puntil_no t s x w hE hb
    go_enter Tryz.func10, Tryz.ntmps10
    go_wp2_with (go_at_call 47; refine hu.mono ?_; rintro e W1 ⟨rfl, hb1⟩)
    go_ret
    exact ⟨rfl, hb1⟩
  | true =>
    obtain ⟨nd, m, hP, hm, rfl, hx⟩ : ∃ nd m, readP t.toList = some nd ∧ m < 512 ∧ s = ((m : Nat) : Int) ∧ (x = 0 ∨ x = 1) := by
      unfold reachB at hb
      simp only [Bool.and_eq_true] at hb
      obtain ⟨⟨h1, h2⟩, h3⟩ := hb
      obtain ⟨nd, hP⟩ := Option.isSome_iff_exists.1 h1
      obtain ⟨m, hm, rfl⟩ := set_nat h2
      have hx : x = 0 ∨ x = 1 := by have := of_decide_eq_true h3; omega
      exact ⟨nd, m, hP, hm, rfl, hx⟩
    obtain ⟨hok, _⟩ := readP_iff.1 hP
    have h0 : forZ t (m : Int) x = ((forN nd x m : Nat) : Int) := by
      unfold forZ
      rw [hP]
      dsimp only
      rw [hb]
      rfl
    rw [h0]
    have hu := puntil_ok t m hm x hx w hE hP
    have hall : exitN x (runT 12 nd m) = exitN x (runR nd m) := of_decide_eq_true (all_twelve hok x hm)
    have hlast := fun b1 b2 b3 b4 b5 (t1 t2 t3 t4 t5 : TypeId) W h1 h2 h3 h4 h5 => lastA' b1 b2 b3 b4 b5 (t1 := t1) (t2 := t2) (t3 := t3) (t4 := t4) (t5 := t5) nd hok m hm x hx (exitN x (runR nd m)) W h1 h2 h3 h4 h5 hall
    change ∀ b1 b2 b3 b4 b5 t1 t2 t3 t4 t5 W, _ → _ → _ → _ → _ → Calls _ _ _ _ fun e W' => e = .returned (.int .i64 ((forN nd x m : Nat) : Int)) ∧ _ at hlast
    generalize exitN x (runR nd m) = all at hu hlast
    clear hb h0 hall
    go_enter Tryz.func10, Tryz.ntmps10
    go_wp2_with (first
      | (go_at_call 47; refine hu.mono ?_; rintro e W1 ⟨⟨v, rfl, b1, b2, b3, b4, b5, t1, t2, t3, t4, t5, rfl, h1, h2, h3, h4, h5⟩, hb1⟩)
      | (go_at_call 48; refine (hlast b1 b2 b3 b4 b5 t1 t2 t3 t4 t5 _ h1 h2 h3 h4 h5).mono ?_; rintro e W2 ⟨rfl, hb2⟩))
    go_ret
    exact ⟨rfl, hb1.trans (hb2.mono hb1.size)⟩
theorem fail_zero {t : ByteArray} {s : Int} (h : reachN t s 1 = 0) : failZ t s = -1 := by
  unfold failZ
  unfold reachN at h
  split
  · rename_i nd hP
    rw [hP] at h
    dsimp only at h
    cases hs : isSet s with
    | false => rfl
    | true =>
      rw [hs] at h
      have h1 : (runR nd s.toNat).2 = 0 := by
        rw [show (true && inB 1 0 1) = true from rfl, if_pos rfl] at h
        unfold exitN at h
        rw [if_pos rfl] at h
        omega
      rw [h1]
      rfl
  · rfl
set_option maxHeartbeats 2000000 in
theorem pfail9 (t : ByteArray) (s : Int) (w : World) {N : Nat} (hE : Laid3 N w) :
    Calls Tryz.prog 25 #[.string t, .int .i64 s] w fun e w' => e = .returned (.int .i64 (failZ t s)) ∧ Below w.heap.size w w' := by
  have hre := preach10 t s 1 w hE
  by_cases h0 : reachN t s 1 = 0
  · rw [fail_zero h0]
    rw [h0] at hre
    clear h0
    generalize reachB t s 1 = b at hre
    go_enter Tryz.func25, Tryz.ntmps25
    go_wp2_with (go_at_call 12; refine hre.mono ?_; rintro e W1 ⟨rfl, hb1⟩)
    go_ret
    exact ⟨rfl, hb1⟩
  · obtain ⟨nd, m, hP, hm, rfl⟩ : ∃ nd m, readP t.toList = some nd ∧ m < 512 ∧ s = ((m : Nat) : Int) := by
      cases hP : readP t.toList with
      | none => exact absurd (reach_none hP s 1).1 h0
      | some nd =>
        cases hs : isSet s with
        | false => exact absurd (reach_bad (t := t) (s := s) (x := 1) (by rw [hs]; rfl)).1 h0
        | true =>
          obtain ⟨m, hm, rfl⟩ := set_nat hs
          exact ⟨nd, m, rfl, hm, rfl⟩
    obtain ⟨hok, _⟩ := readP_iff.1 hP
    have hrN := (reach_ok hP hm (x := 1) (.inr rfl)).1
    have hne : (runR nd m).2 ≠ 0 := by
      intro h
      rw [hrN] at h0
      unfold exitN at h0
      rw [if_pos rfl, h] at h0
      exact h0 rfl
    have h12 : (runT 12 nd m).2 ≠ 0 := of_decide_eq_true (fail_twelve hok hm hne)
    have hz : failZ t (m : Int) = ((failN nd m : Nat) : Int) := by
      unfold failZ
      rw [hP]
      have h1 : isSet (m : Int) = true := decide_eq_true (by omega)
      dsimp only
      rw [h1, Int.toNat_natCast, decide_eq_true hne]
      rfl
    rw [hz]
    have hr := fun (X : World) (hX : Laid3 N X) => pread40 t.toList X hX
    rw [bytes_eta] at hr
    have hlast := fun b1 b2 b3 (t1 t2 t3 : TypeId) W h1 h2 h3 => lastB' b1 b2 b3 (t1 := t1) (t2 := t2) (t3 := t3) nd hok m hm W h1 h2 h3 h12
    change ∀ b1 b2 b3 t1 t2 t3 W, _ → _ → _ → Calls _ _ _ _ fun e W' => e = .returned (.int .i64 ((failN nd m : Nat) : Int)) ∧ _ at hlast
    rw [hrN] at h0 hre
    have HP := Lib.hid hP
    clear hP hrN hz hne h12
    generalize exitN 1 (runR nd m) = z at h0 hre
    have hz0 : ¬ ((z : Int) = 0) := h0
    generalize reachB t (m : Int) 1 = b at hre
    go_enter Tryz.func25, Tryz.ntmps25
    go_wp2_with (go_at_call 12; refine hre.mono ?_; rintro e W1 ⟨rfl, hb1⟩)
    refine (hr _ (hE.below hb1 hE.lt)).mono ?_
    rintro e W2 ⟨hb2, hm2⟩
    rw [HP.out] at hm2
    obtain rfl := hm2
    have hB2 := hb1.trans (hb2.mono hb1.size)
    go_wp2_with fail
    rw [nodeV_eq nd hok]
    refine (triesMaker' (nodeT nd) (nodeX nd) (m : Int) _ _ W2).mono ?_
    rintro e W3 ⟨rfl, rfl⟩
    have B1 := (Lies.new W2 #[.iface (nodeT nd) (nodeX nd)] 55)
    have B2 := (Lies.new (W2.alloc (.cells #[.iface (nodeT nd) (nodeX nd)] 55)) #[.int .i64 (m : Int)] 62)
    have B3 := (Lies.new ((W2.alloc (.cells #[.iface (nodeT nd) (nodeX nd)] 55)).alloc (.cells #[.int .i64 (m : Int)] 62)) #[.func (.func 63) #[] #[]] 101)
    rw [World.size_alloc] at B2
    rw [World.size_alloc, World.size_alloc] at B3
    have B1' : Lies (W2.alloc (.cells #[.iface (nodeT nd) (nodeX nd)] 55)) W2.heap.size #[nodeV nd] 55 := by rw [nodeV_eq nd hok]; exact B1
    have hl := hlast W2.heap.size (W2.heap.size + 1) (W2.heap.size + 1 + 1) _ _ _ _ ((B1'.alloc _).alloc _) (B2.alloc _) B3
    have hB3 := ((hB2.alloc hB2.size (.cells #[.iface (nodeT nd) (nodeX nd)] 55)).alloc (hB2.alloc hB2.size _).size (.cells #[.int .i64 (m : Int)] 62)).alloc ((hB2.alloc hB2.size (.cells #[.iface (nodeT nd) (nodeX nd)] 55)).alloc (hB2.alloc hB2.size _).size _).size (.cells #[.func (.func 63) #[] #[]] 101)
    go_wp2_with fail
    refine hl.mono ?_
    rintro e W4 ⟨rfl, hb4⟩
    go_wp2_with fail
    go_ret
    exact ⟨rfl, hB3.trans (hb4.mono hB3.size)⟩
end Go.Proofs.YtnejphdbnfdbhaaGreatDoor
