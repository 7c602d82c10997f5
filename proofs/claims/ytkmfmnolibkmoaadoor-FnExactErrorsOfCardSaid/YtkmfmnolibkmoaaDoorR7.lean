/- The program's counts of results, and what it tells of a program by all of them. -/
import Derived.Test.YtkmfmnolibkmoaaDoorR6
namespace Go.Proofs.YtkmfmnolibkmoaaDoor
open Go.ChangeShapes Go.WideShapes Go.ChangeAt Go.RowKit Go.Shelf
attribute [local go_sem] Oper.semAt_some
set_option maxRecDepth 100000

/-! ### How many states -/
set_option maxRecDepth 100000 in
set_option maxHeartbeats 2000000 in
theorem cs14_in (n : Nat) (hn : 3 ≤ n) (s : Int) (w : World) (hs : isSet s = true) :
    CallsIn Fence.wide n Tryd.prog 55 #[.int .i64 s] w fun e W' => e = .returned (.int .i64 ((upTo s 9).length : Int)) ∧ Below w.heap.size w W' := by
  have h1 : 1 ≤ n := by omega
  refine callsIn_of_wp_marks Tryd.func55 rfl trivial ?_ rfl
  simp only [Tryd.ntmps55, List.size_toArray, List.length_cons, List.length_nil, Nat.reduceAdd, Nat.reduceSub, Array.replicate_succ, Array.replicate_zero, List.push_toArray, List.append_toArray, List.nil_append, List.cons_append]
  gi_wp2_with (refine ⟨trivial, ?_⟩; first | (gi_at_call 25; refine (callsIn_wide.2 (sv24 _ _)).mono ?_; rintro e w' ⟨rfl, rfl⟩) | (gi_at_call 65; refine (maker_in (n - 1) s _).mono ?_; rintro e w' ⟨rfl, rfl⟩))
  have hs0 := cellNew w (.int .i64 0) 3
  have hb := cellNew (w.alloc (.cells #[.int .i64 0] 3)) (.int .i64 s) 45
  rw [World.size_alloc] at hb
  have hB0 : Below w.heap.size w ((w.alloc (.cells #[.int .i64 0] 3)).alloc (.cells #[.int .i64 s] 45)) := ((Below.refl _ w).alloc (Nat.le_refl _) _).alloc (by simp) _
  refine wpIn_rangeFunc_ownF rfl h1 (gf := 76) (lb := #[.pointer (some ⟨w.heap.size + 1, 0, none⟩)]) rfl trivial (enters_of Tryd.func76 (by kernel_rfl) rfl)
    (states_stops (n - 1) (by omega) (w.heap.size + 1) s _ (by simp) hb.1) kpB_t (kpB_b (by simp)) (Below.refl _ _) (fun _ => rfl)
    (fun pre W => (W.cell? ⟨w.heap.size, 0, none⟩ = some (.int .i64 (pre.length : Int)) ∧ W.frozen? ⟨w.heap.size, 0, none⟩ = false) ∧ Below w.heap.size w W)
    (fun _ _ _ => False)
    (OwnFrom.and (Own.from (fun s A B row hs hg hr => ⟨cell_kept hs.1 hg hr, (frozen_kept hs.1 hg hr).trans hs.2⟩) _) (ownFrom_below (Nat.le_refl _) (by simp; omega)))
    (fun _ _ _ _ _ hs _ _ => hs)
    ⟨⟨cellAlloc _ hs0.1, frozenAlloc _ hs0.1 hs0.2⟩, hB0⟩
    (fun x => { tmps := #[.int .i64 s, undef, .int .i64 0, .pointer (some ⟨w.heap.size, 0, none⟩), .int .i64 s, .bool true, .bool false, .int .i64 s, .func (.func 76) #[] #[.pointer (some ⟨w.heap.size + 1, 0, none⟩)], .int .i64 (x.val : Int), undef, undef, undef], defers := [] }) ?assign ?body ?done ?stop
  case assign =>
    intro l x W K hK
    simp only [encs]
    gi_wp2
    first | (simp; exact hK) | (go_simp; exact hK) | exact (by rfl : _ = _) ▸ hK
  case body =>
    rintro l pre x W ⟨⟨hc, hf⟩, hB⟩ hlt
    have l0 : (0 : Int) ≤ (pre.length : Int) := by omega
    have l9 : (pre.length : Int) ≤ 9 := by omega
    clear hlt
    gi_wp2
    exact ⟨KeepsOthers.setCell _ _ _, Below.heap_setCell W ⟨w.heap.size, 0, none⟩ _ (w.heap.size + 1) (by simp), ⟨by rw [List.length_append]; exact World.cell?_setCell_same' _ _ _ (by rw [hc]; rfl), by rw [World.frozen?_setCell]; exact hf⟩, hB.setCell (p := ⟨w.heap.size, 0, none⟩) (Nat.le_refl _) _⟩
  case done =>
    rintro D ys W hD rfl ⟨⟨hc, _⟩, hB⟩ hK
    gi_wp2
    refine ⟨by simp, .inl ⟨_, _, rfl, run_takeDeferred hK, ?_⟩⟩
    exact ⟨_, results_tmp rfl _ _ _, rfl, hB.trans (belowK_b (w := w) (Nat.le_refl _) W D _ _ (by simp at hD; omega) hK rfl rfl)⟩
  case stop =>
    rintro D c pre W _ _ h _
    exact h.elim

theorem cs14yes (s : Int) (w : World) (hs : isSet s = true) :
    Calls Tryd.prog 55 #[.int .i64 s] w fun e W' => e = .returned (.int .i64 ((upTo s 9).length : Int)) ∧ Below w.heap.size w W' :=
  callsIn_wide.1 (cs14_in 3 (Nat.le_refl _) s w hs)
def manyZ (x : Nat × Nat) : Bool := decide ((1 : Int) < ((upTo (x.1 : Int) 9).length : Int) + ((upTo (x.2 : Int) 9).length : Int))
theorem many_eq (x : Nat × Nat) : manyZ x = manyS x := by
  unfold manyZ manyS
  exact decide_eq_decide.2 (by omega)
set_option maxHeartbeats 2000000 in
theorem pcount38 (x : Nat × Nat) (hx : Small x) (w : World) :
    Calls Tryd.prog 38 #[.agg #[.int .i64 (x.1 : Int), .int .i64 (x.2 : Int)]] w fun e w' => e = .returned (.int .i64 (((upTo (x.1 : Int) 9).length : Int) + ((upTo (x.2 : Int) 9).length : Int))) ∧ Below w.heap.size w w' := by
  obtain ⟨a, b⟩ := x
  obtain ⟨ha, hb⟩ := hx
  dsimp only at ha hb ⊢
  have h1 := fun w => cs14yes (a : Int) w (decide_eq_true (by omega))
  have h2 := fun w => cs14yes (b : Int) w (decide_eq_true (by omega))
  have l1 : ((upTo (a : Int) 9).length : Int) ≤ 9 := by have := upTo_len (a : Int) 9; omega
  have l2 : ((upTo (b : Int) 9).length : Int) ≤ 9 := by have := upTo_len (b : Int) 9; omega
  generalize (upTo (a : Int) 9).length = n1 at h1 l1 ⊢
  generalize (upTo (b : Int) 9).length = n2 at h2 l2 ⊢
  go_enter Tryd.func38, Tryd.ntmps38
  go_wp2_with fail
  have LX := Lies.new w #[.int .i64 (a : Int), .int .i64 (b : Int)] 47
  have hA : Below w.heap.size w (w.alloc (.cells #[.int .i64 (a : Int), .int .i64 (b : Int)] 47)) := (Below.refl _ w).alloc (Nat.le_refl _) _
  generalize w.alloc (.cells #[.int .i64 (a : Int), .int .i64 (b : Int)] 47) = V at LX hA ⊢
  obtain ⟨c0, c1, _, _⟩ := LX.cells
  have HV := Lib.hid hA
  clear LX hA
  go_region_held3 (fun w' => w'.cell? ⟨w.heap.size, 0, none⟩ = some (.int .i64 (a : Int)) ∧ w'.cell? ⟨w.heap.size, 1, none⟩ = some (.int .i64 (b : Int)))
    (first | exact ⟨c0, c1⟩ | exact ⟨f0, f1⟩ | exact ⟨d0, d1⟩ | exact ⟨e0, e1⟩ | go_keep)
    (first
      | (go_at_call_of 55 (Value.int IntKind.i64 (b : Int)); refine (h2 _).mono ?_; rintro e W2 ⟨rfl, hb2⟩; refine two_then (a := ⟨w.heap.size, 0, none⟩) (b := ⟨w.heap.size, 1, none⟩) (u := .int .i64 (a : Int)) (v := .int .i64 (b : Int)) hb2 ?_ ?_ ?_; exact d0; exact d1; intro f0 f1)
      | (go_at_call_of 55 (Value.int IntKind.i64 (a : Int)); refine (h1 _).mono ?_; rintro e W1 ⟨rfl, hb1⟩; refine two_then (a := ⟨w.heap.size, 0, none⟩) (b := ⟨w.heap.size, 1, none⟩) (u := .int .i64 (a : Int)) (v := .int .i64 (b : Int)) hb1 ?_ ?_ ?_; exact e0; exact e1; intro f0 f1)
      | (go_at_call_of 55 (Value.int IntKind.i64 (a : Int)); refine (h1 _).mono ?_; rintro e W1 ⟨rfl, hb1⟩; refine two_then (a := ⟨w.heap.size, 0, none⟩) (b := ⟨w.heap.size, 1, none⟩) (u := .int .i64 (a : Int)) (v := .int .i64 (b : Int)) hb1 ?_ ?_ ?_; exact c0; exact c1; intro d0 d1)
      | (go_at_call_of 55 (Value.int IntKind.i64 (b : Int)); refine (h2 _).mono ?_; rintro e W2 ⟨rfl, hb2⟩; refine two_then (a := ⟨w.heap.size, 0, none⟩) (b := ⟨w.heap.size, 1, none⟩) (u := .int .i64 (a : Int)) (v := .int .i64 (b : Int)) hb2 ?_ ?_ ?_; exact c0; exact c1; intro e0 e1))
  all_goals go_wp2
  all_goals go_ret
  all_goals
    have hw : IntKind.i64.wrap ((n1 : Int) + (n2 : Int)) = (n1 : Int) + (n2 : Int) := IntWalk.i64_in _ (by omega)
    have hA := HV.out
    refine ⟨?_, ?_⟩
    · show Ending.returned (.int .i64 (IntKind.i64.wrap ((n1 : Int) + (n2 : Int)))) = _
      rw [hw]
    · first
        | exact (hA.drew.trans (hb1.mono hA.size)).trans (hb2.mono (Nat.le_trans hA.size hb1.size))
        | exact (hA.drew.trans (hb2.mono hA.size)).trans (hb1.mono (Nat.le_trans hA.size hb2.size))
theorem pmany37 (x : Nat × Nat) (hx : Small x) (w : World) :
    Calls Tryd.prog 37 #[.agg #[.int .i64 (x.1 : Int), .int .i64 (x.2 : Int)]] w fun e w' => e = .returned (.bool (manyZ x)) ∧ Below w.heap.size w w' := by
  have h1 := fun w => pcount38 x hx w
  go_enter Tryd.func37, Tryd.ntmps37
  go_wp2_with (go_at_call 38; refine (h1 _).mono ?_; rintro e W1 ⟨rfl, hb1⟩)
  go_ret
  exact ⟨rfl, ((Below.refl _ w).alloc (Nat.le_refl _) _).trans (hb1.mono (by simp))⟩
set_option maxHeartbeats 2000000 in
/-- The closure's answers, element by element. -/
theorem idx_many (r : Nat → Nat × Nat) (hr : ∀ m, m < 512 → Small (r m)) (g cap : Nat) (w : World) (hg : g < w.heap.size) (hN : Nine w g r) :
    Calls Tryd.prog 50 #[.slice (some ⟨g, 0, none⟩) 9 cap, .func (.func 37) #[] #[]] w fun e w' => (∃ z : Int, e = .returned (.int .i64 z) ∧ decide (0 ≤ z) = someB (fun s => manyZ (r (2 ^ s))) 9) ∧ Below w.heap.size w w' := by
  go_enter Tryd.func50, Tryd.ntmps50
  go_wp2_with fail
  go_loopw [8] (fun i wr => ∃ k : Nat, k ≤ 9 ∧ i = .int .i64 (k : Int) ∧ someB (fun s => manyZ (r (2 ^ s))) k = false ∧ Below w.heap.size w wr) (fun i _ => 9 - (intOf i).toNat)
  case atStart => exact ⟨0, by omega, rfl, rfl, Below.refl _ _⟩
  case round =>
    obtain ⟨k, hk, rfl, hno, hB⟩ := hrel
    by_cases hlt : k < 9
    · have k8 : (k : Int) < 9 := by omega
      have k0 : (0 : Int) ≤ (k : Int) := by omega
      obtain ⟨c0, c1⟩ := (hN.below hg (hB.mono (by first | exact Nat.le_refl _ | omega))) k hlt
      have hsu := some_succ (fun s => manyZ (r (2 ^ s))) k
      rw [hno, Bool.false_or] at hsu
      have hhit := @some_hit (fun s => manyZ (r (2 ^ s))) k 9 hlt
      have hc := fun w => pmany37 (r (2 ^ k)) (hr _ (pow9 hlt)) w
      generalize r (2 ^ k) = x at c0 c1 hsu hhit hc
      have HH := Lib.hid (And.intro hsu hhit)
      clear hsu hhit
      cases hb : (manyZ x) with
      | true =>
        rw [hb] at hc HH
        go_wp2_with (go_at_call 37; refine (hc _).mono ?_; rintro e W1 ⟨rfl, hb1⟩)
        go_ret
        exact ⟨⟨(k : Int), rfl, by have := HH.out.2 (by first | rfl | trivial); rw [this]; simp⟩, hB.trans (hb1.mono hB.size)⟩
      | false =>
        rw [hb] at hc HH
        go_wp2_with (go_at_call 37; refine (hc _).mono ?_; rintro e W1 ⟨rfl, hb1⟩)
        go_roundw
        case rel => exact ⟨k + 1, by omega, by go_num, HH.out.1, hB.trans (hb1.mono hB.size)⟩
        case measure => simp [intOf]; omega
    · obtain rfl : k = 9 := by omega
      go_wp2
      go_ret
      exact ⟨⟨-1, rfl, by rw [hno]; rfl⟩, hB⟩

theorem has_nil (f : FuncId) (w : World) :
    Calls Tryd.prog 32 #[.slice none 0 0, .func (.func f) #[] #[]] w fun e w' => e = .returned (.bool false) ∧ w = w' := by
  go_enter Tryd.func32, Tryd.ntmps32
  go_wp2_with (go_at_call 50; refine (idx_nil f _).mono ?_; rintro e w' ⟨rfl, rfl⟩)
  go_ret
  exact ⟨rfl, rfl⟩
theorem has_any (f : FuncId) (g cap : Nat) (b : Bool) (w : World)
    (h : Calls Tryd.prog 50 #[.slice (some ⟨g, 0, none⟩) 9 cap, .func (.func f) #[] #[]] w fun e w' => (∃ z : Int, e = .returned (.int .i64 z) ∧ decide (0 ≤ z) = b) ∧ Below w.heap.size w w') :
    Calls Tryd.prog 32 #[.slice (some ⟨g, 0, none⟩) 9 cap, .func (.func f) #[] #[]] w fun e w' => e = .returned (.bool b) ∧ Below w.heap.size w w' := by
  go_enter Tryd.func32, Tryd.ntmps32
  go_wp2_with (go_at_call 50; refine h.mono ?_; rintro e w' ⟨⟨z, rfl, hz⟩, hb1⟩)
  go_ret
  exact ⟨rfl, hb1⟩

/-! ### Does it fail, stick, have one result -/
def tellsP (f : Node → Bool) (t : ByteArray) : Bool := match readP t.toList with
  | some nd => f nd
  | none => false
theorem fails_some (nd : Node) : someB (fun s => ((runR nd (2 ^ s)).2 : Int) != 0) 9 = failsP nd := by
  unfold someB failsP
  congr 1
  funext s
  rw [Bool.eq_iff_iff, bne_iff_ne, bne_iff_ne]
  omega
theorem single_some (nd : Node) : someB (fun s => manyZ (runR nd (2 ^ s))) 9 = !singleP nd := by
  unfold someB singleP
  rw [Bool.not_not]
  congr 1
  funext s
  exact many_eq _
set_option maxHeartbeats 2000000 in
theorem pcanfail16 (t : ByteArray) (w : World) {N : Nat} (hE : Laid3 N w) :
    Calls Tryd.prog 16 #[.string t] w fun e w' => e = .returned (.bool (tellsP failsP t)) ∧ Below w.heap.size w w' := by
  cases hP : readP t.toList with
  | none =>
    have ht : tellsP failsP t = false := by unfold tellsP; rw [hP]
    rw [ht]
    have H := fun w h => pouts_none t w (N := N) h hP
    clear hP ht
    go_enter Tryd.func16, Tryd.ntmps16
    go_wp2_with (first
      | (go_at_call 31; refine (H _ hE).mono ?_; rintro e w' ⟨⟨T, v, rfl⟩, hb1⟩)
      | (go_at_call 32; refine (has_nil _ _).mono ?_; rintro e w' ⟨rfl, rfl⟩))
    go_ret
    exact ⟨rfl, hb1⟩
  | some nd =>
    have ht : tellsP failsP t = failsP nd := by unfold tellsP; rw [hP]
    rw [ht, ← fails_some]
    have H := fun w h => pouts_some t w (N := N) h hP
    clear hP ht
    generalize runR nd = r at H ⊢
    go_enter Tryd.func16, Tryd.ntmps16
    go_wp2_with (first
      | (go_at_call 31; refine (H _ hE).mono ?_; rintro e W1 ⟨g, cap, rfl, hg, hN, hb1⟩)
      | (go_at_call 32; refine (has_any _ g cap _ _ (idx_fail r g cap _ hg hN)).mono ?_; rintro e W2 ⟨rfl, hb2⟩))
    go_ret
    exact ⟨rfl, hb1.trans (hb2.mono hb1.size)⟩
set_option maxHeartbeats 2000000 in
theorem psingle20 (t : ByteArray) (w : World) {N : Nat} (hE : Laid3 N w) :
    Calls Tryd.prog 20 #[.string t] w fun e w' => e = .returned (.bool (tellsP singleP t)) ∧ Below w.heap.size w w' := by
  cases hP : readP t.toList with
  | none =>
    have ht : tellsP singleP t = false := by unfold tellsP; rw [hP]
    rw [ht]
    have H := fun w h => pouts_none t w (N := N) h hP
    clear hP ht
    go_enter Tryd.func20, Tryd.ntmps20
    go_wp2_with (first
      | (go_at_call 31; refine (H _ hE).mono ?_; rintro e w' ⟨⟨T, v, rfl⟩, hb1⟩))
    go_ret
    exact ⟨rfl, hb1⟩
  | some nd =>
    have ht : tellsP singleP t = singleP nd := by unfold tellsP; rw [hP]
    have hs := single_some nd
    have hsm := run_small (readP_iff.1 hP).1
    rw [ht]
    have H := fun w h => pouts_some t w (N := N) h hP
    clear hP ht
    generalize singleP nd = b at hs ⊢
    generalize runR nd = r at H hs hsm ⊢
    have hb : b = !(someB (fun s => manyZ (r (2 ^ s))) 9) := by rw [hs, Bool.not_not]
    clear hs
    generalize hc : someB (fun s => manyZ (r (2 ^ s))) 9 = c at hb
    subst hb
    go_enter Tryd.func20, Tryd.ntmps20
    go_wp2_with (first
      | (go_at_call 31; refine (H _ hE).mono ?_; rintro e W1 ⟨g, cap, rfl, hg, hN, hb1⟩)
      | (go_at_call 32; refine (has_any _ g cap c _ (by rw [← hc]; exact idx_many r hsm g cap _ hg hN)).mono ?_; rintro e W2 ⟨rfl, hb2⟩))
    go_ret
    exact ⟨rfl, hb1.trans (hb2.mono hb1.size)⟩

theorem ind_nil (x y : Value) (w : World) :
    Calls Tryd.prog 53 #[.slice none 0 0, .agg #[x, y]] w fun e w' => e = .returned (.int .i64 (-1)) ∧ Below w.heap.size w w' := by
  go_enter Tryd.func53, Tryd.ntmps53
  go_wp2_with fail
  go_loopw [8] (fun i wr => i = .int .i64 0 ∧ Below w.heap.size w wr) (fun _ _ => 0)
  case atStart => exact ⟨rfl, (Below.refl _ _).alloc (Nat.le_refl _) _⟩
  case round =>
    obtain ⟨rfl, hB⟩ := hrel
    go_wp2
    go_ret
    exact ⟨rfl, hB⟩
set_option maxHeartbeats 2000000 in
theorem ind_stick (r : Nat → Nat × Nat) (g cap : Nat) (w : World) (hg : g < w.heap.size) (hN : Nine w g r) :
    Calls Tryd.prog 53 #[.slice (some ⟨g, 0, none⟩) 9 cap, .agg #[.int .i64 0, .int .i64 0]] w fun e w' => (∃ z : Int, e = .returned (.int .i64 z) ∧ decide (0 ≤ z) = someB (fun s => decide ((0, 0) = r (2 ^ s))) 9) ∧ Below w.heap.size w w' := by
  go_enter Tryd.func53, Tryd.ntmps53
  go_wp2_with fail
  go_loopw [8] (fun i wr => ∃ k : Nat, k ≤ 9 ∧ i = .int .i64 (k : Int) ∧ someB (fun s => decide ((0, 0) = r (2 ^ s))) k = false ∧ Lies wr w.heap.size #[.int .i64 0, .int .i64 0] 47 ∧ Below w.heap.size w wr) (fun i _ => 9 - (intOf i).toNat)
  case atStart => exact ⟨0, by omega, rfl, rfl, Lies.new _ _ _, (Below.refl _ _).alloc (Nat.le_refl _) _⟩
  case round =>
    obtain ⟨k, hk, rfl, hno, hL, hB⟩ := hrel
    by_cases hlt : k < 9
    · have k8 : (k : Int) < 9 := by omega
      have k0 : (0 : Int) ≤ (k : Int) := by omega
      obtain ⟨c0, c1⟩ := (hN.below hg hB) k hlt
      obtain ⟨d0, d1, _, _⟩ := hL.cells
      have hsu := some_succ (fun s => decide ((0, 0) = r (2 ^ s))) k
      rw [hno, Bool.false_or] at hsu
      have hhit := @some_hit (fun s => decide ((0, 0) = r (2 ^ s))) k 9 hlt
      generalize r (2 ^ k) = x at c0 c1 hsu hhit
      have hE : ∀ W, (Op.equalIn 10000 47 (.agg #[.int .i64 0, .int .i64 0]) (.agg #[.int .i64 (x.1 : Int), .int .i64 (x.2 : Int)])).run Tryd.prog W = .ok (decide ((0, 0) = x)) W := fun W => eqOutV (0, 0) x W
      have HH := Lib.hid (And.intro hsu hhit)
      clear hsu hhit
      have HL := Lib.hid hL
      clear hL
      cases hb : decide ((0, 0) = x) with
      | true =>
        rw [hb] at hE HH
        clear hb
        go_wp2_with fail
        go_region_held3 (fun w' => (w'.cell? ⟨g, k * 2, none⟩ = some (.int .i64 (x.1 : Int)) ∧ w'.cell? ⟨g, k * 2 + 1, none⟩ = some (.int .i64 (x.2 : Int))) ∧ (w'.cell? ⟨w.heap.size, 0, none⟩ = some (.int .i64 0) ∧ w'.cell? ⟨w.heap.size, 1, none⟩ = some (.int .i64 0))) (first | exact ⟨⟨c0, c1⟩, ⟨d0, d1⟩⟩ | go_keep) (fail)
        all_goals go_wp2
        all_goals go_ret
        all_goals exact ⟨⟨(k : Int), rfl, by have := HH.out.2 (by first | rfl | trivial); rw [this]; simp⟩, by first | exact hB | exact hB.drew⟩
      | false =>
        rw [hb] at hE HH
        clear hb
        go_wp2_with fail
        go_region_held3 (fun w' => (w'.cell? ⟨g, k * 2, none⟩ = some (.int .i64 (x.1 : Int)) ∧ w'.cell? ⟨g, k * 2 + 1, none⟩ = some (.int .i64 (x.2 : Int))) ∧ (w'.cell? ⟨w.heap.size, 0, none⟩ = some (.int .i64 0) ∧ w'.cell? ⟨w.heap.size, 1, none⟩ = some (.int .i64 0))) (first | exact ⟨⟨c0, c1⟩, ⟨d0, d1⟩⟩ | go_keep) (fail)
        all_goals go_wp2
        all_goals
          go_roundw
          case rel => exact ⟨k + 1, by omega, by go_num, HH.out.1, HL.out, by first | exact hB | exact hB.drew⟩
          case measure => simp [intOf]; omega
    · obtain rfl : k = 9 := by omega
      go_wp2
      go_ret
      exact ⟨⟨-1, rfl, by rw [hno]; rfl⟩, hB⟩
theorem con_nil (w : World) :
    Calls Tryd.prog 35 #[.slice none 0 0, .agg #[.int .i64 0, .int .i64 0]] w fun e w' => e = .returned (.bool false) ∧ Below w.heap.size w w' := by
  go_enter Tryd.func35, Tryd.ntmps35
  go_wp2_with (go_at_call 53; refine (ind_nil _ _ _).mono ?_; rintro e w' ⟨rfl, hb1⟩)
  go_ret
  exact ⟨rfl, ((Below.refl _ w).alloc (Nat.le_refl _) _).trans (hb1.mono (by simp))⟩
theorem con_any (r : Nat → Nat × Nat) (g cap : Nat) (w : World) (hg : g < w.heap.size) (hN : Nine w g r) :
    Calls Tryd.prog 35 #[.slice (some ⟨g, 0, none⟩) 9 cap, .agg #[.int .i64 0, .int .i64 0]] w fun e w' => e = .returned (.bool (someB (fun s => decide ((0, 0) = r (2 ^ s))) 9)) ∧ Below w.heap.size w w' := by
  have hN' := hN.below hg ((Below.refl _ w).alloc (Nat.le_refl _) (.cells #[.int .i64 0, .int .i64 0] 47))
  have H := ind_stick r g cap (w.alloc (.cells #[.int .i64 0, .int .i64 0] 47)) (by simp; omega) hN'
  clear hN hN'
  generalize someB (fun s => decide ((0, 0) = r (2 ^ s))) 9 = b at H ⊢
  go_enter Tryd.func35, Tryd.ntmps35
  go_wp2_with (go_at_call 53; refine H.mono ?_; rintro e w' ⟨⟨z, rfl, hz⟩, hb1⟩)
  go_ret
  exact ⟨rfl, ((Below.refl _ w).alloc (Nat.le_refl _) _).trans (hb1.mono (by simp))⟩
theorem sticks_some (nd : Node) : someB (fun s => decide ((0, 0) = runR nd (2 ^ s))) 9 = sticksP nd := by
  unfold someB sticksP
  congr 1
  funext s
  rw [Bool.eq_iff_iff]
  simp only [decide_eq_true_eq, beq_iff_eq]
  exact eq_comm
set_option maxHeartbeats 2000000 in
theorem pstick18 (t : ByteArray) (w : World) {N : Nat} (hE : Laid3 N w) :
    Calls Tryd.prog 18 #[.string t] w fun e w' => e = .returned (.bool (tellsP sticksP t)) ∧ Below w.heap.size w w' := by
  cases hP : readP t.toList with
  | none =>
    have ht : tellsP sticksP t = false := by unfold tellsP; rw [hP]
    rw [ht]
    have H := fun w h => pouts_none t w (N := N) h hP
    clear hP ht
    go_enter Tryd.func18, Tryd.ntmps18
    go_wp2_with (first
      | (go_at_call 31; refine (H _ hE).mono ?_; rintro e w' ⟨⟨T, v, rfl⟩, hb1⟩)
      | (go_at_call 35; refine (con_nil _).mono ?_; rintro e w2 ⟨rfl, hb2⟩))
    go_ret
    exact ⟨rfl, hb1.trans (hb2.mono hb1.size)⟩
  | some nd =>
    have ht : tellsP sticksP t = sticksP nd := by unfold tellsP; rw [hP]
    rw [ht, ← sticks_some]
    have H := fun w h => pouts_some t w (N := N) h hP
    clear hP ht
    generalize runR nd = r at H ⊢
    go_enter Tryd.func18, Tryd.ntmps18
    go_wp2_with (first
      | (go_at_call 31; refine (H _ hE).mono ?_; rintro e W1 ⟨g, cap, rfl, hg, hN, hb1⟩)
      | (go_at_call 35; refine (con_any r g cap _ hg hN).mono ?_; rintro e W2 ⟨rfl, hb2⟩))
    go_ret
    exact ⟨rfl, hb1.trans (hb2.mono hb1.size)⟩
end Go.Proofs.YtkmfmnolibkmoaaDoor

