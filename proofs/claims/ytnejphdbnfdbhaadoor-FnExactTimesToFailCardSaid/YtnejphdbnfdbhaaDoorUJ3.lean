/- The model: how often loops have to be gone through until a program fails. -/
import Derived.Test.YtnejphdbnfdbhaaDoorUJ2
namespace Go.Proofs.YtnejphdbnfdbhaaDoor
open Go.ChangeShapes Go.WideShapes Go.ChangeAt Go.RowKit Go.Shelf
attribute [local go_sem] Oper.semAt_some
set_option maxRecDepth 100000

theorem failZ_no {t : ByteArray} {s : Int} (h : reachB t s 1 = false) : failZ t s = -1 := by
  unfold failZ
  split
  · rename_i nd hP
    unfold reachB at h
    rw [hP] at h
    have : isSet s = false := by
      cases hs : isSet s with
      | false => rfl
      | true => rw [hs] at h; cases h
    rw [this]
    rfl
  · rfl
set_option maxHeartbeats 2000000 in
theorem mfail_no (t : ByteArray) (ht : t.size ≤ 9000000) (s : Int) (w : World) (hb : reachB t s 1 = false) :
    Calls Tryd.prog 14 #[.string t, .int .i64 s] w fun e w' => e = .returned (.int .i64 (-1)) ∧ Below w.heap.size w w' := by
  have hask := masked21 t ht s 1
  rw [hb] at hask
  clear hb
  go_enter Tryd.func14, Tryd.ntmps14
  go_wp2_with (go_at_call 18; refine (hask _).mono ?_; rintro e W1 ⟨hb1, kk, s1, ad, n, cap, rfl, hnd⟩)
  go_loopw [] (fun wr => Below w.heap.size w wr) (fun _ => 0)
  case atStart => exact hb1.alloc hb1.size _
  case round =>
    go_wp2_with fail
    go_ret
    exact ⟨rfl, hrel⟩
theorem field_err (a b : Int) (W : World) : (Instr.field 41 (.agg #[.int .i64 a, .int .i64 b]) 1).run Tryd.prog W = .ok (.int .i64 b) W := by kernel_rfl
set_option maxHeartbeats 4000000 in
theorem mfail_yes (t : ByteArray) (ht : t.size ≤ 9000000) (m : Nat) (hm : m < 512) {nd : Node} (hP : readP t.toList = some nd) (w : World) :
    Calls Tryd.prog 14 #[.string t, .int .i64 (m : Int)] w fun e w' => e = .returned (.int .i64 (if (runR nd m).2 ≠ 0 then ((failN nd m : Nat) : Int) else -1)) ∧ Below w.heap.size w w' := by
  have hask := masked21 t ht (m : Int) 1
  rw [(reach_ok hP hm (x := 1) (.inr rfl)).2] at hask
  obtain ⟨hok, _⟩ := readP_iff.1 hP
  have hrun := fun T (hT : T ≤ 12) W lo hi k s ad n cap h h2 => nrun21 T hT nd hok W lo hi k s ad n cap m h h2 hm
  have HP := Lib.hid hP
  clear hP
  obtain ⟨res, hres⟩ : ∃ res : Int, res = if (runR nd m).2 ≠ 0 then ((failN nd m : Nat) : Int) else -1 := ⟨_, rfl⟩
  rw [← hres]
  go_enter Tryd.func14, Tryd.ntmps14
  go_wp2_with (go_at_call 18; refine (hask _).mono ?_; rintro e W1 ⟨hb1, k, s1, ad, n, cap, rfl, hnd⟩)
  have hal : Below W1.heap.size W1 (W1.alloc (.cells #[.int .u8 k, .string s1, .slice ad n cap] 35)) := (Below.refl _ W1).alloc (Nat.le_refl _) _
  have hN := (hnd nd HP.out).below hal (Nat.le_refl _)
  have hV := hb1.trans (hal.mono hb1.size)
  have X0 := Lies.new W1 #[.int .u8 k, .string s1, .slice ad n cap] 35
  have hs0 : W1.heap.size ≤ (W1.alloc (.cells #[.int .u8 k, .string s1, .slice ad n cap] 35)).heap.size := hal.size
  clear hal hnd hb1
  generalize W1.alloc (.cells #[.int .u8 k, .string s1, .slice ad n cap] 35) = V at hN hV X0 hs0 ⊢
  generalize W1.heap.size = g at hN X0 hs0 ⊢
  have HV := Lib.hid hV
  clear hV
  have h0T := fun T (h : (runR nd m).2 = 0) => fail_none hok hm h T
  have h12 : (runR nd m).2 ≠ 0 → (runT 12 nd m).2 ≠ 0 := fun h => of_decide_eq_true (fail_twelve hok hm h)
  have hfor : ∀ t, t ≤ 12 → (∀ j, j < t → (runT j nd m).2 = 0) → (runT t nd m).2 ≠ 0 → failN nd m = t := fun t ht hno hy => least_at 12 0 t (Nat.zero_le _) (by omega) (fun j _ hj => decide_eq_false (by simpa using hno j hj)) (decide_eq_true hy)
  generalize (runR nd m).2 = fin at h0T h12 hres
  have hr1 : fin ≠ 0 → res = ((failN nd m : Nat) : Int) := fun h => by rw [hres, if_pos h]
  have hr0 : ¬ (fin ≠ 0) → res = -1 := fun h => by rw [hres, if_neg h]
  clear hres
  go_loopw [7] (fun i wr => ∃ T : Nat, T ≤ 13 ∧ i = .int .i64 (T : Int) ∧ (∀ j, j < T → (runT j nd m).2 = 0) ∧ Below V.heap.size V wr) (fun i _ => 13 - (intOf i).toNat)
  case atStart => exact ⟨0, by omega, rfl, fun j hj => by omega, Below.refl _ _⟩
  case round =>
    obtain ⟨T, hT, rfl, hno, hB⟩ := hrel
    have HNO := Lib.hid hno
    clear hno
    have hfe := field_err
    by_cases hlt : T ≤ 12
    · have hT12 : (T : Int) ≤ 12 := by omega
      have X1 := lies_kept hB X0
      obtain ⟨c0, c1, c2, _⟩ := Var.cells X1
      have hr2 := hrun T hlt wr _ _ k s1 ad n cap (hN.below hB hs0) (Nat.le_trans hs0 hB.size)
      have hfor2 := hfor T hlt HNO.out
      have h0T2 := h0T T
      have hnx : (runT T nd m).2 = 0 → ∀ j, j < T + 1 → (runT j nd m).2 = 0 := fun h j hj => by
        by_cases he : j = T
        · rw [he]; exact h
        · exact HNO.out j (by omega)
      generalize runT T nd m = o at hr2 hfor2 h0T2 hnx
      by_cases ho : o.2 = 0
      · have hoi : ((o.2 : Int) = 0) := by omega
        have HX := Lib.hid (hnx ho)
        clear hfor2 h0T2 hnx h0T h12 hfor hr1 hr0
        obtain ⟨o1, o2⟩ := o
        dsimp only at ho hoi
        subst ho
        go_wp2_with (go_at_call 21; refine hr2.mono ?_; rintro e W2 ⟨rfl, hb2⟩)
        go_roundw
        case rel => exact ⟨T + 1, by omega, by go_num, HX.out, hB.trans (hb2.mono hB.size)⟩
        case measure => simp [intOf]; omega
      · have hoi : ¬ ((o.2 : Int) = 0) := by omega
        have hfin : fin ≠ 0 := fun h => ho (h0T2 h)
        have HR := Lib.hid ((hr1 hfin).trans (by rw [hfor2 ho]))
        clear hr1 hr0 hfor2 h0T2 hnx h0T h12 hfor
        go_wp2_with (go_at_call 21; refine hr2.mono ?_; rintro e W2 ⟨rfl, hb2⟩)
        go_ret
        have h1 := HV.out.trans (hB.mono HV.out.size)
        exact ⟨by rw [show res = (T : Int) from HR.out]; rfl, h1.trans (hb2.mono h1.size)⟩
    · have hT12 : ¬ ((T : Int) ≤ 12) := by omega
      have hfin : ¬ (fin ≠ 0) := fun h => h12 h (HNO.out 12 (by omega))
      have HR := Lib.hid (hr0 hfin)
      clear h0T h12 hfor hr1 hr0
      go_wp2_with fail
      go_ret
      exact ⟨by rw [HR.out]; rfl, HV.out.trans (hB.mono HV.out.size)⟩
theorem mfail9 (t : ByteArray) (ht : t.size ≤ 9000000) (s : Int) (w : World) :
    Calls Tryd.prog 14 #[.string t, .int .i64 s] w fun e w' => e = .returned (.int .i64 (failZ t s)) ∧ Below w.heap.size w w' := by
  cases hb : reachB t s 1 with
  | false =>
    rw [failZ_no hb]
    exact mfail_no t ht s w hb
  | true =>
    obtain ⟨nd, m, hP, hm, rfl, hx, hn⟩ := reach_true hb
    have h0 : failZ t (m : Int) = if (runR nd m).2 ≠ 0 then ((failN nd m : Nat) : Int) else -1 := by
      have h1 : isSet (m : Int) = true := decide_eq_true (by omega)
      unfold failZ
      rw [hP]
      dsimp only
      rw [h1, Int.toNat_natCast, Bool.true_and]
      by_cases h : (runR nd m).2 ≠ 0
      · rw [if_pos h, if_pos (decide_eq_true h)]
      · rw [if_neg h, if_neg (by simpa using h)]
    rw [h0]
    exact mfail_yes t ht m hm hP w
end Go.Proofs.YtnejphdbnfdbhaaDoor

