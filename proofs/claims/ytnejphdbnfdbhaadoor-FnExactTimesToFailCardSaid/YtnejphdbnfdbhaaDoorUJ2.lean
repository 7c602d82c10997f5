/- The model: how often loops have to be gone through. -/
import Derived.Test.YtnejphdbnfdbhaaDoorUJ
namespace Go.Proofs.YtnejphdbnfdbhaaDoor
open Go.ChangeShapes Go.WideShapes Go.ChangeAt Go.RowKit Go.Shelf
attribute [local go_sem] Oper.semAt_some
set_option maxRecDepth 100000

theorem and_all {a b : Nat} (hin : a ||| b = b) : (a &&& b = b) ↔ a = b := by
  constructor
  · intro h
    have h1 : a = a &&& b := by
      apply Nat.eq_of_testBit_eq
      intro i
      have h2 := congrArg (fun z => z.testBit i) hin
      simp only [Nat.testBit_or] at h2
      simp only [Nat.testBit_and]
      cases ha' : a.testBit i <;> cases hb' : b.testBit i <;> simp [ha', hb'] at h2 ⊢
    rw [h1, h]
  · rintro rfl
    exact Nat.and_self _
set_option maxHeartbeats 4000000 in
theorem mleast (nd : Node) (hok : nd.ok) (W : World) (lo hi : Nat) (k : Int) (s : ByteArray) (ad : Option Addr) (n cap m : Nat) (h : NodeIs W lo hi nd k s ad n cap) (hhi : hi ≤ W.heap.size) (hm : m < 512) (x : Int) (hx : x = 0 ∨ x = 1) :
    Calls Tryd.prog 34 #[.agg #[.int .u8 k, .string s, .slice ad n cap], .int .i64 (m : Int), .int .i64 x, .int .i64 (exitN x (runR nd m) : Int)] W fun e W' => e = .returned (.int .i64 ((forN nd x m : Nat) : Int)) ∧ Below W.heap.size W W' := by
  have hrun := fun T (hT : T ≤ 12) W lo hi k s ad n cap h h2 => nrun21 T hT nd hok W lo hi k s ad n cap m h h2 hm
  have hex := fun T w => mexit22 (runT T nd m).1 (runT T nd m).2 x hx w
  change ∀ T w, Calls _ _ _ w fun e w' => e = .returned (.int .i64 ((exitN x (runT T nd m) : Nat) : Int)) ∧ Below w.heap.size w w' at hex
  have hlt : ∀ T, exitN x (runT T nd m) < 512 := fun T => by unfold exitN; split <;> first | exact (runT_lt T nd hok m hm).2 | exact (runT_lt T nd hok m hm).1
  have hgl : exitN x (runR nd m) < 512 := by unfold exitN; split <;> first | exact (run_lt nd hok m hm).2 | exact (run_lt nd hok m hm).1
  have hin : ∀ T, (exitN x (runT T nd m) &&& exitN x (runR nd m) = exitN x (runR nd m)) ↔ allAt nd x m T = true := fun T => by
    rw [and_all (exit_in (runT_within T hok hm) x)]
    exact ⟨fun h => decide_eq_true h, fun h => of_decide_eq_true h⟩
  have h12 := all_twelve hok x hm
  have hand : ∀ T, bits .and .i64 ((exitN x (runT T nd m) : Nat) : Int) ((exitN x (runR nd m) : Nat) : Int) = ((exitN x (runT T nd m) &&& exitN x (runR nd m) : Nat) : Int) := fun T => and_nat _ _ (by have := hlt T; omega) (by omega)
  have hA : Below W.heap.size W (W.alloc (.cells #[.int .u8 k, .string s, .slice ad n cap] 35)) := (Below.refl _ W).alloc (Nat.le_refl _) _
  have X0 := Lies.new W #[.int .u8 k, .string s, .slice ad n cap] 35
  have N0 := h.below hA hhi
  have hh0 := Nat.le_trans hhi hA.size
  have hfor : ∀ t, t ≤ 12 → (∀ j, j < t → allAt nd x m j = false) → allAt nd x m t = true → forN nd x m = t := fun t ht hno hy => least_at 12 0 t (Nat.zero_le _) (by omega) (fun j _ hj => hno j hj) hy
  generalize exitN x (runR nd m) = goal at hgl hin hand ⊢
  go_enter Tryd.func34, Tryd.ntmps34
  go_wp2_with fail
  generalize W.alloc (.cells #[.int .u8 k, .string s, .slice ad n cap] 35) = V at hA X0 N0 hh0 ⊢
  generalize hg : W.heap.size = g at X0 ⊢
  have HG := Lib.hid hg
  clear hg
  go_loopw [9] (fun i wr => ∃ T : Nat, T ≤ 12 ∧ i = .int .i64 (T : Int) ∧ (∀ j, j < T → allAt nd x m j = false) ∧ Below V.heap.size V wr) (fun i _ => 13 - (intOf i).toNat)
  case atStart => exact ⟨0, by omega, rfl, fun j hj => by omega, Below.refl _ _⟩
  case round =>
    obtain ⟨T, hT, rfl, hno, hB⟩ := hrel
    have hT12 : (T : Int) ≤ 12 := by omega
    have hT0 : (0 : Int) ≤ (T : Int) := by omega
    have HNO := Lib.hid hno
    clear hno
    have X1 := lies_kept hB X0
    obtain ⟨c0, c1, c2, _⟩ := Var.cells X1
    have hr2 := hrun T hT wr _ _ k s ad n cap (N0.below hB hh0) (Nat.le_trans hh0 hB.size)
    have hex2 := hex T
    have hand2 := hand T
    have hin2 := hin T
    have hl2 := hlt T
    generalize exitN x (runT T nd m) = z at hex2 hand2 hin2 hl2
    generalize runT T nd m = o at hr2 hex2
    have hE : Below W.heap.size W V := hA
    cases hall : allAt nd x m T with
    | true =>
      have hz : z &&& goal = goal := hin2.2 hall
      rw [hz] at hand2
      have HR := Lib.hid (hfor T hT HNO.out hall)
      clear hall hin2 hz hin
      go_wp2_with (first
        | (go_at_call 21; refine hr2.mono ?_; rintro e W2 ⟨rfl, hb2⟩)
        | (go_at_call 20; refine (hex2 _).mono ?_; rintro e W3 ⟨rfl, hb3⟩))
      go_ret
      have h1 := hA.trans (hB.mono hA.size)
      have h2 := h1.trans (hb2.mono h1.size)
      exact ⟨by rw [HR.out]; rfl, by first | exact h2.trans (hb3.mono h2.size) | (rw [← HG.out]; exact h2.trans (hb3.mono h2.size))⟩
    | false =>
      have hz : ¬ (z &&& goal = goal) := fun h => by rw [hin2.1 h] at hall; cases hall
      have hzi : ¬ (((z &&& goal : Nat) : Int) = (goal : Int)) := by omega
      have hTne : T < 12 := by
        rcases Nat.lt_or_ge T 12 with h | h
        · exact h
        · have e : T = 12 := by omega
          rw [e, h12] at hall
          cases hall
      have HA := Lib.hid hall
      clear hall hin2 hz hin
      generalize z &&& goal = zz at hand2 hzi
      go_wp2_with (first
        | (go_at_call 21; refine hr2.mono ?_; rintro e W2 ⟨rfl, hb2⟩)
        | (go_at_call 20; refine (hex2 _).mono ?_; rintro e W3 ⟨rfl, hb3⟩))
      go_roundw
      case rel =>
        refine ⟨T + 1, by omega, by go_num, fun j hj => ?_, (hB.trans (hb2.mono hB.size)).trans (hb3.mono (Nat.le_trans hB.size hb2.size))⟩
        by_cases he : j = T
        · rw [he]; exact HA.out
        · exact HNO.out j (by omega)
      case measure => simp [intOf]; omega
theorem for_no {t : ByteArray} {s x : Int} (h : reachB t s x = false) : forZ t s x = -1 := by
  unfold forZ
  split
  · rw [h]; rfl
  · rfl
set_option maxHeartbeats 2000000 in
theorem mfor (t : ByteArray) (ht : t.size ≤ 9000000) (s x : Int) (w : World) :
    Calls Tryd.prog 12 #[.string t, .int .i64 s, .int .i64 x] w fun e w' => e = .returned (.int .i64 (forZ t s x)) ∧ Below w.heap.size w w' := by
  have hask := masked21 t ht s x
  cases hb : reachB t s x with
  | false =>
    rw [for_no hb]
    rw [hb] at hask
    clear hb
    go_enter Tryd.func12, Tryd.ntmps12
    go_wp2_with (go_at_call 18; refine (hask _).mono ?_; rintro e W1 ⟨hb1, kk, s1, ad, n, cap, rfl, hnd⟩)
    go_ret
    exact ⟨rfl, hb1.alloc hb1.size _⟩
  | true =>
    obtain ⟨nd, m, hP, hm, rfl, hx, hn⟩ := reach_true hb
    have h0 : forZ t (m : Int) x = ((forN nd x m : Nat) : Int) := by
      unfold forZ
      rw [hP]
      dsimp only
      rw [hb]
      rfl
    rw [h0]
    rw [hb] at hask
    obtain ⟨hok, _⟩ := readP_iff.1 hP
    have hrun := fun W lo hi k s ad n cap h h2 => mrun23 nd hok W lo hi k s ad n cap m h h2 hm
    have hex := fun w => mexit22 (runR nd m).1 (runR nd m).2 x hx w
    have hle := fun W lo hi k s ad n cap h h2 => mleast nd hok W lo hi k s ad n cap m h h2 hm x hx
    change ∀ w, Calls _ _ _ w fun e w' => e = .returned (.int .i64 ((exitN x (runR nd m) : Nat) : Int)) ∧ Below w.heap.size w w' at hex
    have HP := Lib.hid hP
    clear hb hn hP h0
    generalize exitN x (runR nd m) = goal at hex hle
    generalize runR nd m = o at hrun hex
    go_enter Tryd.func12, Tryd.ntmps12
    go_wp2_with (go_at_call 18; refine (hask _).mono ?_; rintro e W1 ⟨hb1, k, s1, ad, n, cap, rfl, hnd⟩)
    have hal : Below W1.heap.size W1 (W1.alloc (.cells #[.int .u8 k, .string s1, .slice ad n cap] 35)) := (Below.refl _ W1).alloc (Nat.le_refl _) _
    have hN := (hnd nd HP.out).below hal (Nat.le_refl _)
    have hV := hb1.trans (hal.mono hb1.size)
    have X0 := Lies.new W1 #[.int .u8 k, .string s1, .slice ad n cap] 35
    have hs0 : W1.heap.size ≤ (W1.alloc (.cells #[.int .u8 k, .string s1, .slice ad n cap] 35)).heap.size := hal.size
    clear hal hnd hb1
    generalize W1.alloc (.cells #[.int .u8 k, .string s1, .slice ad n cap] 35) = V at hN hV X0 hs0 ⊢
    generalize W1.heap.size = g at hN X0 hs0 ⊢
    have HV := Lib.hid hV
    clear hV
    obtain ⟨c0, c1, c2, _⟩ := Var.cells X0
    go_wp2_with fail
    go_region_held3 (fun w' => w'.cell? ⟨g, 0, none⟩ = some (.int .u8 k) ∧ w'.cell? ⟨g, 1, none⟩ = some (.string s1) ∧ w'.cell? ⟨g, 2, none⟩ = some (.slice ad n cap))
      (first | exact ⟨c0, c1, c2⟩ | exact ⟨d0, d1, d2⟩ | exact ⟨e0, e1, e2⟩ | exact ⟨f0, f1, f2⟩ | go_keep)
      (first
        | (go_at_call 35; refine (hrun _ _ _ k s1 ad n cap hN.drew hs0).mono ?_; rintro e W2 ⟨rfl, hb2⟩; refine three_then (a := ⟨g, 0, none⟩) (b := ⟨g, 1, none⟩) (c := ⟨g, 2, none⟩) (u := .int .u8 k) (v := .string s1) (x := .slice ad n cap) hb2 ?_ ?_ ?_ ?_; exact c0; exact c1; exact c2; intro d0 d1 d2)
        | (go_at_call 20; refine (hex _).mono ?_; rintro e W3 ⟨rfl, hb3⟩; refine three_then (a := ⟨g, 0, none⟩) (b := ⟨g, 1, none⟩) (c := ⟨g, 2, none⟩) (u := .int .u8 k) (v := .string s1) (x := .slice ad n cap) hb3 ?_ ?_ ?_ ?_; exact d0; exact d1; exact d2; intro e0 e1 e2)
        | (go_at_call 34; have N3 := (hN.drew.below hb2 hs0).below hb3 (Nat.le_trans hs0 hb2.size); refine (hle _ _ _ k s1 ad n cap N3 (Nat.le_trans (Nat.le_trans hs0 hb2.size) hb3.size)).mono ?_; rintro e W4 ⟨rfl, hb4⟩; refine three_then (a := ⟨g, 0, none⟩) (b := ⟨g, 1, none⟩) (c := ⟨g, 2, none⟩) (u := .int .u8 k) (v := .string s1) (x := .slice ad n cap) hb4 ?_ ?_ ?_ ?_; exact e0; exact e1; exact e2; intro f0 f1 f2))
    all_goals go_wp2_with fail
    all_goals
      go_ret
      have h1 := HV.out
      have h2 := h1.drew.trans (hb2.mono h1.size)
      have h3 := h2.trans (hb3.mono h2.size)
      exact ⟨rfl, h3.trans (hb4.mono h3.size)⟩
end Go.Proofs.YtnejphdbnfdbhaaDoor

