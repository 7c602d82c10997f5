/- Chapter 8, plain words: what is reached, turned round; states taken out one by one. No program of Go in it. Chapter 8, the program: what is reached turned round (the table of nine sets), and gone back to. Chapter 8, the program: back into a set. Chapter 8, the model: from where a set can be reached, or is the only one; from where a program fails. Chapter 8, plain words: what the laws ask of the states from which a set is reached. -/
import Derived.Test.YtngcdgnijfiocaaGreatDoorR5
import Derived.Test.YtngcdgnijfiocaaGreatDoorR6
import Derived.Test.YtngcdgnijfiocaaGreatDoorM7
import Derived.Test.YtngcdgnijfiocaaGreatDoorE4
namespace Go.Proofs.YtngcdgnijfiocaaGreatDoor
open Go.ChangeShapes Go.WideShapes Go.ChangeAt Go.RowKit Go.Shelf
set_option maxRecDepth 100000

/-- The states among the first k from which some result is in a set. -/
def backN (f : Nat → Nat) (m : Nat) : Nat → Nat
  | 0 => 0
  | k + 1 => if f k &&& m = 0 then backN f m k else backN f m k ||| 2 ^ k
/-- Of the first k states those that reach the state s. -/
def revN (f : Nat → Nat) (s : Nat) : Nat → Nat
  | 0 => 0
  | k + 1 => if (f k).testBit s then revN f s k ||| 2 ^ k else revN f s k
theorem backN_hit {f : Nat → Nat} {m k : Nat} (h : ¬ f k &&& m = 0) : backN f m (k + 1) = backN f m k ||| 2 ^ k := by rw [backN, if_neg h]
theorem backN_miss {f : Nat → Nat} {m k : Nat} (h : f k &&& m = 0) : backN f m (k + 1) = backN f m k := by rw [backN, if_pos h]

theorem backN_bit (f : Nat → Nat) (m : Nat) : ∀ k i, (backN f m k).testBit i = (decide (i < k) && (f i &&& m != 0))
  | 0, i => by simp [backN]
  | k + 1, i => by
    have ih := backN_bit f m k i
    by_cases hik : i = k
    · subst hik
      by_cases h : f i &&& m = 0
      · rw [backN_miss h, ih]; simp [h]
      · rw [backN_hit h, Nat.testBit_or, ih, Nat.testBit_two_pow_self]; simp [h]
    · have e : decide (i < k + 1) = decide (i < k) := by rw [Bool.eq_iff_iff]; simp; omega
      rw [e]
      by_cases h : f k &&& m = 0
      · rw [backN_miss h]; exact ih
      · rw [backN_hit h, Nat.testBit_or, ih, Nat.testBit_two_pow_of_ne (Ne.symm hik), Bool.or_false]
theorem revN_bit (f : Nat → Nat) (s : Nat) : ∀ k i, (revN f s k).testBit i = (decide (i < k) && (f i).testBit s)
  | 0, i => by simp [revN]
  | k + 1, i => by
    have ih := revN_bit f s k i
    by_cases hik : i = k
    · subst hik
      unfold revN
      cases h : (f i).testBit s with
      | false => rw [if_neg (by simp), ih, h]; simp
      | true => rw [if_pos rfl, Nat.testBit_or, ih, Nat.testBit_two_pow_self]; simp
    · have e : decide (i < k + 1) = decide (i < k) := by rw [Bool.eq_iff_iff]; simp; omega
      rw [e]
      unfold revN
      cases h : (f k).testBit s with
      | false => rw [if_neg (by simp)]; exact ih
      | true => rw [if_pos rfl, Nat.testBit_or, ih, Nat.testBit_two_pow_of_ne (Ne.symm hik), Bool.or_false]
theorem over_bit (g : Nat → Nat) (m : Nat) : ∀ k i, (over g m k).testBit i = true ↔ ∃ s, s < k ∧ m.testBit s = true ∧ (g s).testBit i = true
  | 0, i => by simp [over]
  | k + 1, i => by
    have ih := over_bit g m k i
    unfold over
    cases h : m.testBit k with
    | false =>
      rw [if_neg (by simp), ih]
      constructor
      · rintro ⟨s, h1, h2, h3⟩; exact ⟨s, by omega, h2, h3⟩
      · rintro ⟨s, h1, h2, h3⟩
        refine ⟨s, ?_, h2, h3⟩
        by_cases hs : s = k
        · subst hs; rw [h] at h2; cases h2
        · omega
    | true =>
      rw [if_pos rfl, Nat.testBit_or, Bool.or_eq_true, ih]
      constructor
      · rintro (⟨s, h1, h2, h3⟩ | h3)
        · exact ⟨s, by omega, h2, h3⟩
        · exact ⟨k, by omega, h, h3⟩
      · rintro ⟨s, h1, h2, h3⟩
        by_cases hs : s = k
        · subst hs; exact .inr h3
        · exact .inl ⟨s, by omega, h2, h3⟩
theorem meet_bit (a : Nat) {m : Nat} (hm : m < 512) : (a &&& m != 0) = true ↔ ∃ s, s < 9 ∧ m.testBit s = true ∧ a.testBit s = true := by
  rw [bne_iff_ne]
  constructor
  · intro h
    by_cases hx : ∃ s, s < 9 ∧ m.testBit s = true ∧ a.testBit s = true
    · exact hx
    · refine absurd (Nat.eq_of_testBit_eq (x := a &&& m) (y := 0) fun i => ?_) h
      rw [Nat.testBit_and, Nat.zero_testBit]
      by_cases hi : i < 9
      · cases h1 : a.testBit i with
        | false => rfl
        | true =>
          cases h2 : m.testBit i with
          | false => rfl
          | true => exact absurd ⟨i, hi, h2, h1⟩ hx
      · have : m.testBit i = false := Nat.testBit_lt_two_pow (Nat.lt_of_lt_of_le hm (by have := Nat.pow_le_pow_right (n := 2) (by omega) (show 9 ≤ i by omega); omega))
        rw [this, Bool.and_false]
  · rintro ⟨s, _, h2, h3⟩ h0
    have := congrArg (fun z => z.testBit s) h0
    simp [h2, h3] at this
/-- What is gone back to is what is counted state by state. -/
theorem into_back (f : Nat → Nat) {m : Nat} (hm : m < 512) : over (fun s => revN f s 9) m 9 = backN f m 9 := by
  apply Nat.eq_of_testBit_eq
  intro i
  rw [Bool.eq_iff_iff, over_bit, backN_bit, Bool.and_eq_true, meet_bit _ hm, decide_eq_true_eq]
  constructor
  · rintro ⟨s, h1, h2, h3⟩
    rw [revN_bit, Bool.and_eq_true, decide_eq_true_eq] at h3
    exact ⟨h3.1, s, h1, h2, h3.2⟩
  · rintro ⟨h1, s, h2, h3, h4⟩
    refine ⟨s, h2, h3, ?_⟩
    rw [revN_bit, Bool.and_eq_true, decide_eq_true_eq]
    exact ⟨h1, h4⟩
theorem backN_lt (f : Nat → Nat) (m : Nat) : ∀ k, k ≤ 9 → backN f m k < 512
  | 0, _ => by simp [backN]
  | k + 1, h => by
    by_cases hz : f k &&& m = 0
    · rw [backN_miss hz]; exact backN_lt f m k (by omega)
    · rw [backN_hit hz]; exact or_lt (backN_lt f m k (by omega)) (pow9 (by omega))
theorem revN_lt (f : Nat → Nat) (s : Nat) : ∀ k, k ≤ 9 → revN f s k < 512
  | 0, _ => by simp [revN]
  | k + 1, h => by
    unfold revN
    split
    · exact or_lt (revN_lt f s k (by omega)) (pow9 (by omega))
    · exact revN_lt f s k (by omega)

/-- From where a program has some result in a set, by its tree; by texts and numbers. -/
def canN (nd : Node) (x : Int) (m : Nat) : Nat := backN (fun k => exitN x (runR nd (2 ^ k))) m 9
theorem canN_lt (nd : Node) (x : Int) (m : Nat) : canN nd x m < 512 := backN_lt _ _ 9 (Nat.le_refl _)
def canZ (t : ByteArray) (s x : Int) : Int := match readP t.toList with
  | some nd => if (isSet s && inB x 0 1) = true then ((canN nd x s.toNat : Nat) : Int) else 0
  | none => 0
def onlyZ (t : ByteArray) (s x : Int) : Int := if reachB t s x = true then 511 - canZ t (511 - s) x else 0
theorem canZ_ok {t : ByteArray} {nd : Node} (h : readP t.toList = some nd) {m : Nat} (hm : m < 512) {x : Int} (hx : x = 0 ∨ x = 1) : canZ t (m : Int) x = ((canN nd x m : Nat) : Int) := by
  have hs : isSet (m : Int) = true := decide_eq_true (by omega)
  have hx' : inB x 0 1 = true := inB_yes (by omega)
  unfold canZ
  rw [h, hs, hx']
  rfl
theorem canZ_no {t : ByteArray} {s x : Int} (h : reachB t s x = false) : canZ t s x = 0 := by
  unfold canZ
  cases hP : readP t.toList with
  | none => rfl
  | some nd =>
    unfold reachB at h
    rw [hP] at h
    dsimp only
    rw [if_neg]
    intro h2
    rw [Bool.and_eq_true] at h2
    rw [h2.1, h2.2] at h
    cases h
theorem compl9 : ∀ m : Fin 512, bits .andNot .i64 511 (m.val : Int) = ((511 - m.val : Nat) : Int) := by decide +kernel
theorem compl_nat {m : Nat} (hm : m < 512) : bits .andNot .i64 511 (m : Int) = ((511 - m : Nat) : Int) := compl9 ⟨m, hm⟩
theorem onlyZ_ok {t : ByteArray} {nd : Node} (h : readP t.toList = some nd) {m : Nat} (hm : m < 512) {x : Int} (hx : x = 0 ∨ x = 1) : onlyZ t (m : Int) x = ((511 - canN nd x (511 - m) : Nat) : Int) := by
  unfold onlyZ
  rw [(reach_ok h hm hx).2, if_pos rfl, show (511 : Int) - (m : Int) = ((511 - m : Nat) : Int) by omega, canZ_ok h (by omega) hx]
  have := canN_lt nd x (511 - m)
  omega
theorem onlyZ_no {t : ByteArray} {s x : Int} (h : reachB t s x = false) : onlyZ t s x = 0 := by unfold onlyZ; rw [h]; rfl
theorem reachB_set {t : ByteArray} {m m' : Nat} (hm : m < 512) (hm' : m' < 512) (x : Int) : reachB t (m : Int) x = reachB t (m' : Int) x := by
  have h1 : isSet (m : Int) = true := decide_eq_true (by omega)
  have h2 : isSet (m' : Int) = true := decide_eq_true (by omega)
  unfold reachB
  rw [h1, h2]
theorem reachB_bad {t : ByteArray} {s : Int} (h : isSet s = false) (x : Int) : reachB t s x = false := by
  unfold reachB; rw [h, Bool.and_false, Bool.false_and]
end Go.Proofs.YtngcdgnijfiocaaGreatDoor

namespace Go.Proofs.YtngcdgnijfiocaaGreatDoor
open Go.ChangeShapes Go.WideShapes Go.ChangeAt Go.RowKit Go.Shelf
attribute [local go_sem] Oper.semAt_some
set_option maxRecDepth 100000


/-! ### A table of nine sets -/
def revA (F : Nat → Nat) : Array Value := #[.int .i64 (F 0 : Int), .int .i64 (F 1 : Int), .int .i64 (F 2 : Int), .int .i64 (F 3 : Int), .int .i64 (F 4 : Int), .int .i64 (F 5 : Int), .int .i64 (F 6 : Int), .int .i64 (F 7 : Int), .int .i64 (F 8 : Int)]
theorem nine_cases {P : Nat → Prop} {s : Nat} (hs : s < 9) (h0 : P 0) (h1 : P 1) (h2 : P 2) (h3 : P 3) (h4 : P 4) (h5 : P 5) (h6 : P 6) (h7 : P 7) (h8 : P 8) : P s := by
  rcases (by omega : s = 0 ∨ s = 1 ∨ s = 2 ∨ s = 3 ∨ s = 4 ∨ s = 5 ∨ s = 6 ∨ s = 7 ∨ s = 8) with rfl | rfl | rfl | rfl | rfl | rfl | rfl | rfl | rfl <;> assumption
theorem revA_at (F : Nat → Nat) {s : Nat} (hs : s < 9) : (revA F)[s]? = some (.int .i64 (F s : Int)) := nine_cases (P := fun s => (revA F)[s]? = some (.int .i64 (F s : Int))) hs rfl rfl rfl rfl rfl rfl rfl rfl rfl
theorem revA_size (F : Nat → Nat) : (revA F).size = 9 := rfl
/-- The table with another set at one place. -/
def putF (F : Nat → Nat) (s v : Nat) : Nat → Nat := fun i => if i = s then v else F i
theorem revA_put (F : Nat → Nat) {s : Nat} (hs : s < 9) (v : Nat) : (revA F).setIfInBounds s (.int .i64 (v : Int)) = revA (putF F s v) :=
  nine_cases (P := fun s => (revA F).setIfInBounds s (.int .i64 (v : Int)) = revA (putF F s v)) hs rfl rfl rfl rfl rfl rfl rfl rfl rfl
theorem rev_cell {W : World} {b : Nat} {F : Nat → Nat} {t : TypeId} (h : Lies W b (revA F) t) {s : Nat} (hs : s < 9) : W.cell? ⟨b, s, none⟩ = some (.int .i64 (F s : Int)) ∧ W.frozen? ⟨b, s, none⟩ = false := by
  unfold Lies at h
  refine ⟨?_, by simp [World.frozen?, h]⟩
  rw [cell_of_row _ b s _ t (0, 0) h]
  exact revA_at F hs
theorem rev_set {W : World} {b : Nat} {F : Nat → Nat} {t : TypeId} (h : Lies W b (revA F) t) {s : Nat} (hs : s < 9) (v : Nat) : Lies (W.setCell ⟨b, s, none⟩ (.int .i64 (v : Int))) b (revA (putF F s v)) t := by
  unfold Lies at *
  rw [heap_setCell_same W b s _ t _ h, revA_put F hs]
end Go.Proofs.YtngcdgnijfiocaaGreatDoor

namespace Go.Proofs.YtngcdgnijfiocaaGreatDoor
open Go.ChangeShapes Go.WideShapes Go.ChangeAt Go.RowKit Go.Shelf
attribute [local go_sem] Oper.semAt_some
set_option maxRecDepth 100000

set_option maxHeartbeats 2000000 in
theorem pinto_in (F : Nat → Nat) (hF : ∀ s, s < 9 → F s < 512) (m : Nat) (hm : m < 512) (w : World) :
    CallsIn Fence.wide 3 Tryz.prog 65 #[.agg (revA F), .int .i64 (m : Int)] w fun e w' => e = .returned (.int .i64 ((over F m 9 : Nat) : Int)) ∧ Below w.heap.size w w' := by
  generalize hr : revA F = arr
  refine callsIn_of_wp_marks Tryz.func65 rfl trivial ?_ rfl
  simp only [Tryz.ntmps65, List.size_toArray, List.length_cons, List.length_nil, Nat.reduceAdd, Nat.reduceSub, Array.replicate_succ, Array.replicate_zero, List.push_toArray, List.append_toArray, List.nil_append, List.cons_append]
  gi_wp2_with (refine ⟨trivial, ?_⟩; gi_at_call 55; refine (maker_in 2 (m : Int) _).mono ?_; rintro e w' ⟨rfl, rfl⟩)
  have bR := Lies.new w arr 102
  have bO := Boxed.new (w.alloc (.cells arr 102)) 69 (.int .i64 0)
  have bN := Boxed.new ((w.alloc (.cells arr 102)).alloc (.cells #[.int .i64 0] 69)) 69 (.int .i64 (m : Int))
  simp only [World.size_alloc] at bO bN
  have hB0 : Below w.heap.size w (((w.alloc (.cells arr 102)).alloc (.cells #[.int .i64 0] 69)).alloc (.cells #[.int .i64 (m : Int)] 69)) := (((Below.refl _ w).alloc (Nat.le_refl _) _).alloc (by simp) _).alloc (by simp; omega) _
  refine wpIn_rangeFunc_ownF rfl (by omega) (gf := 90) (lb := #[.pointer (some ⟨w.heap.size + 1 + 1, 0, none⟩)]) rfl trivial (enters_of Tryz.func90 (by kernel_rfl) rfl)
    (states_stops 2 (by omega) (w.heap.size + 1 + 1) (m : Int) _ (by simp) bN.cell) kpB_t (kpB_b (by simp)) (Below.refl _ _) (fun _ => rfl)
    (fun pre W => Lies W w.heap.size arr 102 ∧ Boxed W (w.heap.size + 1) 69 (.int .i64 ((overL F pre : Nat) : Int)) ∧ Boxed W (w.heap.size + 1 + 1) 69 (.int .i64 (m : Int)) ∧ Below w.heap.size w W)
    (fun _ _ _ => False)
    (OwnFrom.and (Own.from (lies_own w.heap.size 102 (fun _ => arr)) _) (OwnFrom.and (Own.from (boxed_own (w.heap.size + 1) 69 (fun pre => .int .i64 ((overL F pre : Nat) : Int))) _) (OwnFrom.and (Own.from (boxed_own (w.heap.size + 1 + 1) 69 (fun _ => .int .i64 (m : Int))) _) (ownFrom_below (Nat.le_refl _) (by simp; omega)))))
    (fun _ _ _ _ _ hs _ _ => hs)
    ⟨(bR.alloc _).alloc _, bO.alloc _, bN, hB0⟩
    (fun x => { tmps := #[.agg arr, .int .i64 (m : Int), .pointer (some ⟨w.heap.size, 0, none⟩), undef, .int .i64 0, .pointer (some ⟨w.heap.size + 1, 0, none⟩), .int .i64 (x.val : Int), .int .i64 (m : Int), .func (.func 90) #[] #[.pointer (some ⟨w.heap.size + 1 + 1, 0, none⟩)], .int .i64 (x.val : Int), undef, undef, undef, undef, undef, undef], defers := [] }) ?assign ?body ?done ?stop
  case assign =>
    intro l x W K hK
    simp only [encs]
    gi_wp2
    exact hK
  case body =>
    rintro l pre x W ⟨hR, hO, hN, hB⟩ hlt
    have cO := hO.cell
    have fO := hO.frozen
    have hx := hF x.val x.isLt
    have hx8 : (x.val : Int) < 9 := by have := x.isLt; omega
    have hx0 : (0 : Int) ≤ (x.val : Int) := by omega
    have hp := overL_lt hF pre
    have hor := or_nat (overL F pre) (F x.val) (by omega) (by omega)
    obtain ⟨cR, _⟩ := rev_cell (F := F) (b := w.heap.size) (by rw [hr]; exact hR) x.isLt
    have hsz : arr.size = 9 := by rw [← hr]; rfl
    have h1n : 1 ≤ 3 - 1 - 1 := by omega
    gi_wp2_with fail
    gi_region
    all_goals gi_wp2
    all_goals
      refine ⟨(KeepsOthers.setCell W ⟨w.heap.size + 1, 0, none⟩ (.int .i64 ((overL F pre ||| F x.val : Nat) : Int))).trans (KeepsOthers.drew _), ?_, ?_⟩
      · show _ = _
        exact (show _ = _ from hN.other (B' := w.heap.size + 1) (by omega) (.int .i64 ((overL F pre ||| F x.val : Nat) : Int))).trans (show _ = _ from hN).symm
      · dsimp only
        rw [overL_snoc]
        exact ⟨hR.other (by omega) _ _, hO.set _, hN.other (by omega) _, (hB.setCell (p := ⟨w.heap.size + 1, 0, none⟩) (by simp) _).drew⟩
  case done =>
    rintro D ys W hD rfl ⟨hR, hO, hN, hB⟩ hK
    have cO := hO.cell
    gi_wp2
    refine ⟨by simp, .inl ⟨_, _, rfl, run_takeDeferred hK, ?_⟩⟩
    have hb := hB.trans (belowK_b (w := w) (Nat.le_refl _) W D _ (.deferred none) (by simp at hD; omega) hK rfl rfl)
    rw [over_upTo F hm 9 (Nat.le_refl _)]
    refine ⟨.int .i64 ((overL F (upTo (m : Int) 9) : Nat) : Int), ?_, rfl, hb⟩
    simp [results, Tryz.results65, go_sem]
  case stop =>
    rintro D c pre W _ _ h _
    exact h.elim
theorem pinto (F : Nat → Nat) (hF : ∀ s, s < 9 → F s < 512) (m : Nat) (hm : m < 512) (w : World) :
    Calls Tryz.prog 65 #[.agg (revA F), .int .i64 (m : Int)] w fun e w' => e = .returned (.int .i64 ((over F m 9 : Nat) : Int)) ∧ Below w.heap.size w w' :=
  callsIn_wide.1 (pinto_in F hF m hm w)
end Go.Proofs.YtngcdgnijfiocaaGreatDoor

namespace Go.Proofs.YtngcdgnijfiocaaGreatDoor
open Go.ChangeShapes Go.WideShapes Go.ChangeAt Go.RowKit Go.Shelf
attribute [local go_sem] Oper.semAt_some
set_option maxRecDepth 100000

set_option maxHeartbeats 4000000 in
theorem mcan_no (t : ByteArray) (ht : t.size ≤ 9000000) (s x : Int) (w : World) (hb : reachB t s x = false) :
    Calls Tryz.prog 52 #[.string t, .int .i64 x, .int .i64 s] w fun e w' => e = .returned (.tuple #[.int .i64 0, .bool false]) ∧ Below w.heap.size w w' := by
  have hask := masked21 t ht s x
  rw [hb] at hask
  clear hb
  go_enter Tryz.func52, Tryz.ntmps52
  go_wp2_with (go_at_call 41; refine (hask _).mono ?_; rintro e W1 ⟨hb1, k, s1, ad, n, cap, rfl, hnd⟩)
  go_ret2
  exact ⟨rfl, hb1.alloc hb1.size _⟩
set_option maxHeartbeats 4000000 in
theorem mcan_yes (t : ByteArray) (ht : t.size ≤ 9000000) (m : Nat) (hm : m < 512) (x : Int) (hx : x = 0 ∨ x = 1) (w : World) {nd : Node} (hP : readP t.toList = some nd) :
    Calls Tryz.prog 52 #[.string t, .int .i64 x, .int .i64 (m : Int)] w fun e w' => e = .returned (.tuple #[.int .i64 ((canN nd x m : Nat) : Int), .bool true]) ∧ Below w.heap.size w w' := by
  have hask := masked21 t ht (m : Int) x
  rw [(reach_ok hP hm hx).2] at hask
  obtain ⟨hok, _⟩ := readP_iff.1 hP
  have hrun := fun W lo hi k s ad n cap j h h2 hj => mrun23 nd hok W lo hi k s ad n cap j h h2 hj
  have hsm := fun j hj => run_lt nd hok j hj
  have HP := Lib.hid hP
  clear hP
  unfold canN
  generalize runR nd = r at hrun hsm ⊢
  go_enter Tryz.func52, Tryz.ntmps52
  go_wp2_with (go_at_call 41; refine (hask _).mono ?_; rintro e W1 ⟨hb1, kk, s1, ad, n, cap, rfl, hnd⟩)
  have hA := hb1.alloc hb1.size (.cells #[.int .u8 kk, .string s1, .slice ad n cap] 72)
  have hN := (hnd nd HP.out).below ((Below.refl _ W1).alloc (Nat.le_refl _) (.cells #[.int .u8 kk, .string s1, .slice ad n cap] 72)) (Nat.le_refl _)
  have hX := Lies.new W1 #[.int .u8 kk, .string s1, .slice ad n cap] 72
  have hV1 : W1.heap.size ≤ (W1.alloc (.cells #[.int .u8 kk, .string s1, .slice ad n cap] 72)).heap.size := by simp
  clear hnd
  generalize W1.alloc (.cells #[.int .u8 kk, .string s1, .slice ad n cap] 72) = V at hA hN hX hV1 ⊢
  generalize W1.heap.size = g at hX hN hV1 ⊢
  go_loopw [8, 21] (fun o i wr => ∃ k : Nat, k ≤ 9 ∧ i = .int .i64 (k : Int) ∧ o = .int .i64 ((backN (fun k => exitN x (r (2 ^ k))) m k : Nat) : Int) ∧ Below V.heap.size V wr) (fun _ i _ => 9 - (intOf i).toNat)
  case atStart => exact ⟨0, by omega, rfl, rfl, Below.refl _ _⟩
  case round =>
    obtain ⟨k, hk, rfl, rfl, hB⟩ := hrel
    by_cases hlt : k < 9
    · have k8 : (k : Int) < 9 := by omega
      have k0 : (0 : Int) ≤ (k : Int) := by omega
      have hsh := shl_state (n := k) (by omega)
      have hX2 := lies_kept hB hX
      obtain ⟨c0, c1, c2, _⟩ := Var.cells hX2
      have hr2 := hrun wr _ _ kk s1 ad n cap (2 ^ k) (hN.below hB hV1) (Nat.le_trans hV1 hB.size) (pow9 hlt)
      have hs2 := hsm (2 ^ k) (pow9 hlt)
      have hhit := @backN_hit (fun k => exitN x (r (2 ^ k))) m k
      have hmiss := @backN_miss (fun k => exitN x (r (2 ^ k))) m k
      have hlt9 := backN_lt (fun k => exitN x (r (2 ^ k))) m k hk
      have hor := or_nat (backN (fun k => exitN x (r (2 ^ k))) m k) (2 ^ k) (by omega) (by have := pow9 hlt; omega)
      have hex := fun w => mexit22 (r (2 ^ k)).1 (r (2 ^ k)).2 x hx w
      have hes : exitN x (r (2 ^ k)) < 512 := by unfold exitN; split <;> first | exact hs2.2 | exact hs2.1
      change ∀ w, Calls _ _ _ w fun e w' => e = .returned (.int .i64 ((exitN x (r (2 ^ k)) : Nat) : Int)) ∧ Below w.heap.size w w' at hex
      generalize r (2 ^ k) = y at hr2 hex hhit hmiss hes
      generalize exitN x y = z at hex hhit hmiss hes
      have hand := and_nat z m (by omega) (by omega)
      generalize z &&& m = q at hand hhit hmiss
      generalize backN (fun k => exitN x (r (2 ^ k))) m k = b at hhit hmiss hor hlt9 ⊢
      generalize (2 : Nat) ^ k = c at hsh hr2 hor hhit
      have HH := Lib.hid (And.intro hhit hmiss)
      clear hhit hmiss hX2
      by_cases hq : q = 0
      · subst hq
        go_wp2_with (first
          | (go_at_call 78; refine hr2.mono ?_; rintro e W2 ⟨rfl, hb2⟩)
          | (go_at_call 77; refine (hex _).mono ?_; rintro e W3 ⟨rfl, hb3⟩))
        go_roundw
        case rel => exact ⟨k + 1, by omega, by go_num, by have hx9 := HH.out.2 (by first | rfl | trivial | simp); rw [hx9], (hB.trans (hb2.mono hB.size)).trans (hb3.mono (Nat.le_trans hB.size hb2.size))⟩
        case measure => simp [intOf]; omega
      · go_wp2_with (first
          | (go_at_call 78; refine hr2.mono ?_; rintro e W2 ⟨rfl, hb2⟩)
          | (go_at_call 77; refine (hex _).mono ?_; rintro e W3 ⟨rfl, hb3⟩))
        go_roundw
        case rel => exact ⟨k + 1, by omega, by go_num, by rw [HH.out.1 hq], (hB.trans (hb2.mono hB.size)).trans (hb3.mono (Nat.le_trans hB.size hb2.size))⟩
        case measure => simp [intOf]; omega
    · obtain rfl : k = 9 := by omega
      go_wp2
      go_ret2
      exact ⟨rfl, hA.trans (hB.mono hA.size)⟩
/-- **THE MODEL's CanReach.** -/
theorem mcan (t : ByteArray) (ht : t.size ≤ 9000000) (s x : Int) (w : World) :
    Calls Tryz.prog 52 #[.string t, .int .i64 x, .int .i64 s] w fun e w' => e = .returned (.tuple #[.int .i64 (canZ t s x), .bool (reachB t s x)]) ∧ Below w.heap.size w w' := by
  cases hb : reachB t s x with
  | false => rw [canZ_no hb]; exact mcan_no t ht s x w hb
  | true =>
    obtain ⟨nd, m, hP, hm, rfl, hx, _⟩ := reach_true hb
    rw [canZ_ok hP hm hx]
    exact mcan_yes t ht m hm x hx w hP
/-- From where a program fails, and from where it is safe. -/
theorem mfails (t : ByteArray) (ht : t.size ≤ 9000000) (w : World) :
    Calls Tryz.prog 63 #[.string t] w fun e w' => e = .returned (.tuple #[.int .i64 (canZ t 511 1), .bool (reachB t 511 1)]) ∧ Below w.heap.size w w' := by
  have H := fun w => mcan t ht 511 1 w
  generalize canZ t 511 1 = z at H ⊢
  generalize reachB t 511 1 = b at H ⊢
  go_enter Tryz.func63, Tryz.ntmps63
  go_wp2_with (go_at_call 52; refine (H _).mono ?_; rintro e w' ⟨rfl, hb1⟩)
  go_ret2
  exact ⟨rfl, hb1⟩
def manifestZ (t : ByteArray) : Bool := canZ t 511 1 == 511
end Go.Proofs.YtngcdgnijfiocaaGreatDoor

namespace Go.Proofs.YtngcdgnijfiocaaGreatDoor
open Go.ChangeShapes Go.WideShapes Go.ChangeAt Go.RowKit Go.Shelf
set_option maxRecDepth 100000

theorem isSet_n {m : Nat} (h : m < 512) : isSet (m : Int) = true := decide_eq_true (by omega)
theorem can_bit (nd : Node) (x : Int) (m : Nat) {s : Nat} (hs : s < 9) : (canN nd x m).testBit s = (exitN x (runR nd (2 ^ s)) &&& m != 0) := by
  unfold canN
  rw [backN_bit, decide_eq_true hs, Bool.true_and]
theorem compl_bit {m : Nat} (hm : m < 512) (i : Nat) : (511 - m).testBit i = (decide (i < 9) && !m.testBit i) := by
  have := Nat.testBit_two_pow_sub_succ (n := 9) hm i
  rw [show 2 ^ 9 - (m + 1) = 511 - m by omega] at this
  exact this
theorem high_bit {m : Nat} (hm : m < 512) {i : Nat} (hi : 9 ≤ i) : m.testBit i = false :=
  Nat.testBit_lt_two_pow (Nat.lt_of_lt_of_le hm (by have := Nat.pow_le_pow_right (n := 2) (by omega) hi; omega))
theorem andNot_512 {z m : Nat} (hz : z < 512) (hm : m < 512) : bits .andNot .i64 (z : Int) (m : Int) = ((z &&& (511 - m) : Nat) : Int) := by
  have hlt : z &&& (511 - m) < 512 := and_lt hz
  have e : (BitVec.ofInt 64 (z : Int) &&& ~~~ BitVec.ofInt 64 (m : Int)) = BitVec.ofNat 64 (z &&& (511 - m)) := by
    apply BitVec.eq_of_getLsbD_eq
    intro i hi
    rw [BitVec.ofInt_natCast, BitVec.ofInt_natCast]
    simp only [BitVec.getLsbD_and, BitVec.getLsbD_not, BitVec.getLsbD_ofNat, hi, decide_true, Bool.true_and, Nat.testBit_and, compl_bit hm]
    by_cases h9 : i < 9
    · simp [h9]
    · rw [high_bit hz (by omega)]; simp
  show IntKind.i64.wrap ((BitVec.ofInt 64 (z : Int) &&& ~~~ BitVec.ofInt 64 (m : Int)).toNat : Int) = _
  rw [e, BitVec.toNat_ofNat, Nat.mod_eq_of_lt (by omega)]
  exact IntWalk.i64_in _ (by omega)
theorem withinBit9 : ∀ s : Fin 9, ∀ c : Fin 512, (bits .andNot .i64 ((2 ^ s.val : Nat) : Int) (c.val : Int) == 0) = c.val.testBit s.val := by decide +kernel
theorem within_pow {s c : Nat} (hs : s < 9) (hc : c < 512) : within ((2 ^ s : Nat) : Int) (c : Int) = c.testBit s := by
  unfold within
  rw [isSet_n (pow9 hs), isSet_n hc]
  exact withinBit9 ⟨s, hs⟩ ⟨c, hc⟩
theorem only_bit (nd : Node) (x : Int) {m : Nat} (_ : m < 512) {s : Nat} (hs : s < 9) : (511 - canN nd x (511 - m)).testBit s = (exitN x (runR nd (2 ^ s)) &&& (511 - m) == 0) := by
  rw [compl_bit (canN_lt nd x _), can_bit nd x _ hs, decide_eq_true hs, Bool.true_and, bne, Bool.not_not]
/-- What has no state outside a set lies in it. -/
theorem inside_or {z m : Nat} (hz : z < 512) (hm : m < 512) (h : z &&& (511 - m) = 0) : z ||| m = m := by
  apply Nat.eq_of_testBit_eq
  intro i
  have h1 := congrArg (fun q => q.testBit i) h
  simp only [Nat.testBit_and, compl_bit hm, Nat.zero_testBit] at h1
  rw [Nat.testBit_or]
  by_cases h9 : i < 9
  · rw [decide_eq_true h9, Bool.true_and] at h1
    cases ha : z.testBit i <;> cases hb : m.testBit i <;> simp [ha, hb] at h1 ⊢
  · rw [high_bit hz (by omega), high_bit hm (by omega)]; rfl
theorem overL_or {f : Nat → Nat} {m : Nat} : ∀ (l : List (Fin 9)), (∀ y ∈ l, f y.val ||| m = m) → overL f l ||| m = m := by
  have H : ∀ (l : List (Fin 9)) (a : Nat), a ||| m = m → (∀ y ∈ l, f y.val ||| m = m) → l.foldl (fun a y => a ||| f y.val) a ||| m = m := by
    intro l
    induction l with
    | nil => intro a ha _; exact ha
    | cons y l ih =>
      intro a ha hl
      refine ih _ ?_ (fun z hz => hl z (List.mem_cons_of_mem _ hz))
      rw [Nat.or_assoc, hl y (List.mem_cons_self ..), ha]
  exact fun l hl => H l 0 (Nat.zero_or m) hl
theorem mem_up (s : Int) (y : Fin 9) : ∀ k, y ∈ upTo s k → hasB s y.val = true
  | 0, h => by simp [upTo] at h
  | k + 1, h => by
    unfold upTo at h
    split at h
    · rename_i hc
      rw [List.mem_append, List.mem_singleton] at h
      rcases h with h | rfl
      · exact mem_up s y k h
      · exact hc.2
    · exact mem_up s y k h
theorem exit_over (nd : Node) (x : Int) {c : Nat} (hc : c < 512) : exitN x (runR nd c) = overL (fun s => exitN x (runR nd (2 ^ s))) (upTo (c : Int) 9) := by
  have h := run_states nd hc
  unfold exitN
  split
  · rw [h]
  · rw [h]
/-- What is reached from there is within the set. -/
theorem only_all (nd : Node) (hok : nd.ok) (x : Int) {m : Nat} (hm : m < 512) : exitN x (runR nd (511 - canN nd x (511 - m))) ||| m = m := by
  have hc : 511 - canN nd x (511 - m) < 512 := by omega
  rw [exit_over nd x hc]
  refine overL_or _ fun y hy => ?_
  have h1 := mem_up _ y 9 hy
  rw [hasB_bit hc y.isLt, only_bit nd x hm y.isLt, beq_iff_eq] at h1
  have hz := run_lt nd hok (2 ^ y.val) (pow9 y.isLt)
  exact inside_or (by unfold exitN; split <;> first | exact hz.2 | exact hz.1) hm h1
theorem exit_lt (nd : Node) (hok : nd.ok) (x : Int) {m : Nat} (hm : m < 512) : exitN x (runR nd m) < 512 := by
  have hz := run_lt nd hok m hm
  unfold exitN; split <;> first | exact hz.2 | exact hz.1
theorem within_or {a b : Nat} (ha : a < 512) (hb : b < 512) (h : a ||| b = b) : within (a : Int) (b : Int) = true := by
  have hz : a &&& (511 - b) = 0 := by
    apply Nat.eq_of_testBit_eq
    intro i
    have h1 := congrArg (fun q => q.testBit i) h
    simp only [Nat.testBit_or] at h1
    rw [Nat.testBit_and, compl_bit hb, Nat.zero_testBit]
    cases h2 : a.testBit i <;> cases h3 : b.testBit i <;> simp [h2, h3] at h1 ⊢
  unfold within
  rw [isSet_n ha, isSet_n hb, andNot_512 ha hb, hz]
  rfl
/-- Safe and failing states. -/
theorem safe_all (nd : Node) : 511 - canN nd 1 (511 - 0) ||| canN nd 1 511 = 511 := by
  have hl := canN_lt nd 1 511
  apply Nat.eq_of_testBit_eq
  intro i
  show (511 - canN nd 1 511 ||| canN nd 1 511).testBit i = _
  rw [Nat.testBit_or, compl_bit hl]
  by_cases h9 : i < 9
  · have : (511 : Nat).testBit i = true := by
      have := compl_bit (m := 0) (by omega) i
      rw [show 511 - 0 = 511 from rfl, decide_eq_true h9, Nat.zero_testBit] at this
      exact this
    rw [this, decide_eq_true h9]
    cases (canN nd 1 511).testBit i <;> rfl
  · rw [high_bit hl (by omega), high_bit (m := 511) (by omega) (by omega), decide_eq_false h9]; rfl
end Go.Proofs.YtngcdgnijfiocaaGreatDoor
