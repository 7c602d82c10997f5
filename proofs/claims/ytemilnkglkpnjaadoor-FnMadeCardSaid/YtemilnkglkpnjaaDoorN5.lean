/- The program's reader of programs: one program, by its first byte. -/
import Derived.Test.YtemilnkglkpnjaaDoorN4

namespace Go.Proofs.YtemilnkglkpnjaaDoor
open Go.ChangeShapes Go.WideShapes Go.ChangeAt Go.RowKit Go.Shelf
attribute [local go_sem] Oper.semAt_some
set_option maxRecDepth 100000

/-- The reader reads programs whose texts are no longer than n. -/
def PReads (rb n N : Nat) : Prop := ∀ (l : List UInt8) (W : World), l.length ≤ n → Rst W rb l → Laid3 N W → Calls Tryd.prog 59 #[.pointer (some ⟨rb, 0, none⟩)] W (PTo n l rb W)

theorem pto_none {n : Nat} {l : List UInt8} (h : rd n l = none) {rb : Nat} {W : World} {e : Ending} {W' : World} (hg : W.grownBy W' (some rb)) (he : Died e) : PTo n l rb W e W' := by
  refine ⟨hg, ?_⟩
  rw [h]
  exact he
theorem pto_some {n : Nat} {l r : List UInt8} {nd : Node} (h : rd n l = some (nd, r)) {rb : Nat} {W : World} {e : Ending} {W' : World} (hg : W.grownBy W' (some rb)) (he : e = .returned (nodeV nd)) (hr : Rst W' rb r) : PTo n l rb W e W' := by
  refine ⟨hg, ?_⟩
  rw [h]
  exact ⟨he, hr⟩

theorem prog_nil (n : Nat) {rb : Nat} {W : World} (h : Rst W rb []) {N : Nat} (hE : Laid3 N W) :
    Calls Tryd.prog 59 #[.pointer (some ⟨rb, 0, none⟩)] W (PTo n [] rb W) := by
  have HR := Lib.hid (show rd n [] = none by cases n <;> simp [rd])
  go_enter Tryd.func59, Tryd.ntmps59
  go_wp2_with (go_at_call 70; refine (ptake1_nil h hE).mono ?_; rintro e W1 ⟨⟨T, x, rfl⟩, rfl⟩)
  exact ⟨rfl, pto_none HR.out (grown_refl _ _) ⟨T, x, rfl⟩⟩

set_option maxHeartbeats 1000000 in
theorem prog_dot (n : Nat) {c : UInt8} {r : List UInt8} (hc : c = 46 ∨ c = 33) {rb : Nat} {W : World} (h : Rst W rb (c :: r)) {N : Nat} (hE : Laid3 N W) (hN : N ≤ rb) :
    Calls Tryd.prog 59 #[.pointer (some ⟨rb, 0, none⟩)] W (PTo (n + 1) (c :: r) rb W) := by
  have HR := Lib.hid (show rd (n + 1) (c :: r) = some (.atom [c], r) by rw [rd.eq_def]; dsimp only; rw [if_pos hc])
  rcases hc with rfl | rfl <;>
  · go_enter Tryd.func59, Tryd.ntmps59
    go_wp2_with (go_at_call 70; refine (ptake1 rfl h).mono ?_; rintro e W1 ⟨rfl, hr, hg⟩; have hE1 := hE.grown hg hN; obtain ⟨T1, x1, ce⟩ := hE1.err)
    go_ret
    exact pto_some HR.out hg rfl hr

set_option maxHeartbeats 1000000 in
theorem prog_asg (n : Nat) {c : UInt8} {r : List UInt8} (hc : c = 120 ∨ c = 121) {rb : Nat} {W : World} (h : Rst W rb (c :: r)) {N : Nat} (hE : Laid3 N W) (hN : N ≤ rb) :
    Calls Tryd.prog 59 #[.pointer (some ⟨rb, 0, none⟩)] W (PTo (n + 1) (c :: r) rb W) := by
  have hne : ¬ (c = 46 ∨ c = 33) := by rcases hc with rfl | rfl <;> decide
  cases r with
  | nil =>
    have HR := Lib.hid (show rd (n + 1) [c] = none by rw [rd.eq_def]; dsimp only; rw [if_neg hne, if_pos hc])
    clear hne
    rcases hc with rfl | rfl <;>
    · go_enter Tryd.func59, Tryd.ntmps59
      go_wp2_with (first
        | (go_at_call 70; refine (ptake1 rfl h).mono ?_; rintro e W1 ⟨rfl, hr, hg⟩; have hE1 := hE.grown hg hN; obtain ⟨T1, x1, ce⟩ := hE1.err)
        | (go_at_call 71; refine (asg_nil _ hr hE1).mono ?_; rintro e W2 ⟨⟨T, x, rfl⟩, rfl⟩))
      exact ⟨rfl, pto_none HR.out hg ⟨T, x, rfl⟩⟩
  | cons d r =>
    by_cases hm : [c, d] ∈ twos
    · have HR := Lib.hid (show rd (n + 1) (c :: d :: r) = some (.atom [c, d], r) by rw [rd.eq_def]; dsimp only; rw [if_neg hne, if_pos hc, if_pos hm])
      have HM := Lib.hid hm
      clear hne hm
      rcases hc with rfl | rfl <;>
      · go_enter Tryd.func59, Tryd.ntmps59
        go_wp2_with (first
          | (go_at_call 70; refine (ptake1 rfl h).mono ?_; rintro e W1 ⟨rfl, hr, hg⟩; have hE1 := hE.grown hg hN; obtain ⟨T1, x1, ce⟩ := hE1.err)
          | (go_at_call 71; refine (asg_hit _ d r hr hE1 hN HM.out).mono ?_; rintro e W2 ⟨hg2, rfl, hr2⟩))
        go_ret
        exact pto_some HR.out (grown_trans hg hg2) rfl hr2
    · have HR := Lib.hid (show rd (n + 1) (c :: d :: r) = none by rw [rd.eq_def]; dsimp only; rw [if_neg hne, if_pos hc, if_neg hm])
      have HM := Lib.hid hm
      clear hne hm
      rcases hc with rfl | rfl <;>
      · go_enter Tryd.func59, Tryd.ntmps59
        go_wp2_with (first
          | (go_at_call 70; refine (ptake1 rfl h).mono ?_; rintro e W1 ⟨rfl, hr, hg⟩; have hE1 := hE.grown hg hN; obtain ⟨T1, x1, ce⟩ := hE1.err)
          | (go_at_call 71; refine (asg_miss _ d r hr hE1 hN HM.out).mono ?_; rintro e W2 ⟨hg2, ⟨T, x, rfl⟩⟩))
        exact ⟨rfl, pto_none HR.out (grown_trans hg hg2) ⟨T, x, rfl⟩⟩

theorem rdp_test (n : Nat) (r : List UInt8) : rd (n + 1) (91 :: r) = match r with
    | a :: b :: d :: e :: r' => if e = 93 ∧ [a, b, d] ∈ tests then some (.atom [91, a, b, d, 93], r') else none
    | _ => none := by
  rw [rd.eq_def]
  dsimp only
  rw [if_neg (by decide), if_neg (by decide), if_pos rfl]
  rfl

set_option maxHeartbeats 1000000 in
theorem prog_test_short (n : Nat) {l : List UInt8} (hl : l.length < 3) {rb : Nat} {W : World} (h : Rst W rb (91 :: l)) {N : Nat} (hE : Laid3 N W) (hN : N ≤ rb) :
    Calls Tryd.prog 59 #[.pointer (some ⟨rb, 0, none⟩)] W (PTo (n + 1) (91 :: l) rb W) := by
  have HR := Lib.hid (show rd (n + 1) (91 :: l) = none by rw [rdp_test]; match l, hl with | [], _ => rfl | [_], _ => rfl | [_, _], _ => rfl)
  go_enter Tryd.func59, Tryd.ntmps59
  go_wp2_with (first
    | (go_at_call 70; refine (ptake1 rfl h).mono ?_; rintro e W1 ⟨rfl, hr, hg⟩; have hE1 := hE.grown hg hN; obtain ⟨T1, x1, ce⟩ := hE1.err)
    | (go_at_call 72; refine (test_short hl hr hE1).mono ?_; rintro e W2 ⟨⟨T, x, rfl⟩, rfl⟩))
  exact ⟨rfl, pto_none HR.out hg ⟨T, x, rfl⟩⟩
set_option maxHeartbeats 1000000 in
theorem prog_test_wrong (n : Nat) {a b c : UInt8} {r : List UInt8} (hm : ¬ [a, b, c] ∈ tests) {rb : Nat} {W : World} (h : Rst W rb (91 :: a :: b :: c :: r)) {N : Nat} (hE : Laid3 N W) (hN : N ≤ rb) :
    Calls Tryd.prog 59 #[.pointer (some ⟨rb, 0, none⟩)] W (PTo (n + 1) (91 :: a :: b :: c :: r) rb W) := by
  have HR := Lib.hid (show rd (n + 1) (91 :: a :: b :: c :: r) = none by rw [rdp_test]; cases r with | nil => rfl | cons e r => dsimp only; rw [if_neg (fun h => hm h.2)])
  go_enter Tryd.func59, Tryd.ntmps59
  go_wp2_with (first
    | (go_at_call 70; refine (ptake1 rfl h).mono ?_; rintro e W1 ⟨rfl, hr, hg⟩; have hE1 := hE.grown hg hN; obtain ⟨T1, x1, ce⟩ := hE1.err)
    | (go_at_call 72; refine (test_wrong hm hr hE1 hN).mono ?_; rintro e W2 ⟨hg2, ⟨T, x, rfl⟩⟩))
  exact ⟨rfl, pto_none HR.out (grown_trans hg hg2) ⟨T, x, rfl⟩⟩
set_option maxHeartbeats 1000000 in
theorem prog_test_open (n : Nat) {a b c : UInt8} (hm : [a, b, c] ∈ tests) {rb : Nat} {W : World} (h : Rst W rb (91 :: [a, b, c])) {N : Nat} (hE : Laid3 N W) (hN : N ≤ rb) :
    Calls Tryd.prog 59 #[.pointer (some ⟨rb, 0, none⟩)] W (PTo (n + 1) (91 :: [a, b, c]) rb W) := by
  have HR := Lib.hid (show rd (n + 1) (91 :: [a, b, c]) = none by rw [rdp_test])
  go_enter Tryd.func59, Tryd.ntmps59
  go_wp2_with (first
    | (go_at_call 70; refine (ptake1 rfl h).mono ?_; rintro e W1 ⟨rfl, hr, hg⟩; have hE1 := hE.grown hg hN; obtain ⟨T1, x1, ce⟩ := hE1.err)
    | (go_at_call 72; refine (test_open hm hr hE1 hN).mono ?_; rintro e W2 ⟨hg2, ⟨T, x, rfl⟩⟩))
  exact ⟨rfl, pto_none HR.out (grown_trans hg hg2) ⟨T, x, rfl⟩⟩
set_option maxHeartbeats 1000000 in
theorem prog_test_miss (n : Nat) {a b c d : UInt8} {r : List UInt8} (hm : [a, b, c] ∈ tests) (hd : ¬ d = 93) {rb : Nat} {W : World} (h : Rst W rb (91 :: a :: b :: c :: d :: r)) {N : Nat} (hE : Laid3 N W) (hN : N ≤ rb) :
    Calls Tryd.prog 59 #[.pointer (some ⟨rb, 0, none⟩)] W (PTo (n + 1) (91 :: a :: b :: c :: d :: r) rb W) := by
  have HR := Lib.hid (show rd (n + 1) (91 :: a :: b :: c :: d :: r) = none by rw [rdp_test]; dsimp only; rw [if_neg (fun h => hd h.1)])
  go_enter Tryd.func59, Tryd.ntmps59
  go_wp2_with (first
    | (go_at_call 70; refine (ptake1 rfl h).mono ?_; rintro e W1 ⟨rfl, hr, hg⟩; have hE1 := hE.grown hg hN; obtain ⟨T1, x1, ce⟩ := hE1.err)
    | (go_at_call 72; refine (test_miss hm hd hr hE1 hN).mono ?_; rintro e W2 ⟨hg2, ⟨T, x, rfl⟩⟩))
  exact ⟨rfl, pto_none HR.out (grown_trans hg hg2) ⟨T, x, rfl⟩⟩
set_option maxHeartbeats 1000000 in
theorem prog_test_hit (n : Nat) {a b c : UInt8} {r : List UInt8} (hm : [a, b, c] ∈ tests) {rb : Nat} {W : World} (h : Rst W rb (91 :: a :: b :: c :: 93 :: r)) {N : Nat} (hE : Laid3 N W) (hN : N ≤ rb) :
    Calls Tryd.prog 59 #[.pointer (some ⟨rb, 0, none⟩)] W (PTo (n + 1) (91 :: a :: b :: c :: 93 :: r) rb W) := by
  have HR := Lib.hid (show rd (n + 1) (91 :: a :: b :: c :: 93 :: r) = some (.atom [91, a, b, c, 93], r) by rw [rdp_test]; dsimp only; rw [if_pos ⟨rfl, hm⟩])
  go_enter Tryd.func59, Tryd.ntmps59
  go_wp2_with (first
    | (go_at_call 70; refine (ptake1 rfl h).mono ?_; rintro e W1 ⟨rfl, hr, hg⟩; have hE1 := hE.grown hg hN; obtain ⟨T1, x1, ce⟩ := hE1.err)
    | (go_at_call 72; refine (test_hit hm hr hE1 hN).mono ?_; rintro e W2 ⟨hg2, rfl, hr2⟩))
  go_ret
  exact pto_some HR.out (grown_trans hg hg2) rfl hr2
theorem prog_test (n : Nat) {l : List UInt8} {rb : Nat} {W : World} (h : Rst W rb (91 :: l)) {N : Nat} (hE : Laid3 N W) (hN : N ≤ rb) :
    Calls Tryd.prog 59 #[.pointer (some ⟨rb, 0, none⟩)] W (PTo (n + 1) (91 :: l) rb W) := by
  match l, h with
  | [], h => exact prog_test_short n (by simp) h hE hN
  | [_], h => exact prog_test_short n (by simp) h hE hN
  | [_, _], h => exact prog_test_short n (by simp) h hE hN
  | [a, b, c], h =>
    by_cases hm : [a, b, c] ∈ tests
    · exact prog_test_open n hm h hE hN
    · exact prog_test_wrong n hm h hE hN
  | a :: b :: c :: d :: r, h =>
    by_cases hm : [a, b, c] ∈ tests
    · by_cases hd : d = 93
      · subst hd; exact prog_test_hit n hm h hE hN
      · exact prog_test_miss n hm hd h hE hN
    · exact prog_test_wrong n hm h hE hN

set_option maxHeartbeats 1000000 in
theorem prog_other (n : Nat) {c : UInt8} {r : List UInt8} (h1 : ¬ c = 46) (h2 : ¬ c = 33) (h3 : ¬ c = 120) (h4 : ¬ c = 121) (h5 : ¬ c = 91) (h6 : ¬ c = 123) (h7 : ¬ c = 40) {rb : Nat} {W : World} (h : Rst W rb (c :: r)) {N : Nat} (hE : Laid3 N W) (hN : N ≤ rb) :
    Calls Tryd.prog 59 #[.pointer (some ⟨rb, 0, none⟩)] W (PTo (n + 1) (c :: r) rb W) := by
  have HR := Lib.hid (show rd (n + 1) (c :: r) = none by
    rw [rd.eq_def]
    dsimp only
    rw [if_neg (by rintro (h | h) <;> contradiction), if_neg (by rintro (h | h) <;> contradiction), if_neg h5, if_neg h6, if_neg h7])
  have e1 : (c == 46) = false := by simpa using h1
  have e2 : (c == 33) = false := by simpa using h2
  have e3 : (c == 120) = false := by simpa using h3
  have e4 : (c == 121) = false := by simpa using h4
  have e5 : (c == 91) = false := by simpa using h5
  have e6 : (c == 123) = false := by simpa using h6
  have e7 : (c == 40) = false := by simpa using h7
  clear h1 h2 h3 h4 h5 h6 h7
  go_enter Tryd.func59, Tryd.ntmps59
  go_wp2_with (go_at_call 70; refine (ptake1 rfl h).mono ?_; rintro e W1 ⟨rfl, hr, hg⟩; have hE1 := hE.grown hg hN; obtain ⟨T1, x1, ce⟩ := hE1.err)
  exact ⟨rfl, pto_none HR.out hg ⟨T1, x1, rfl⟩⟩

/-! ### A loop -/
theorem rdp_loop (n : Nat) (r : List UInt8) : rd (n + 1) (123 :: r) = match rd n r with
    | some (p, e :: r') => if e = 125 then some (.loop p, r') else none
    | _ => none := by
  rw [rd.eq_def]
  dsimp only
  rw [if_neg (by decide), if_neg (by decide), if_neg (by decide), if_pos rfl]
  rfl
set_option maxHeartbeats 2000000 in
theorem prog_loop (n : Nat) {r : List UInt8} (hl : r.length ≤ n) {rb : Nat} {N : Nat} (IH : PReads rb n N) {W : World} (h : Rst W rb (123 :: r)) (hE : Laid3 N W) (hN : N ≤ rb) :
    Calls Tryd.prog 59 #[.pointer (some ⟨rb, 0, none⟩)] W (PTo (n + 1) (123 :: r) rb W) := by
  cases hq : rd n r with
  | none =>
    have HQ := Lib.hid hq
    have HR := Lib.hid (show rd (n + 1) (123 :: r) = none by rw [rdp_loop, hq])
    clear hq
    go_enter Tryd.func59, Tryd.ntmps59
    go_wp2_with (first
      | (go_at_call 70; refine (ptake1 rfl h).mono ?_; rintro e W1 ⟨rfl, hr, hg⟩; have hE1 := hE.grown hg hN; obtain ⟨T1, x1, ce⟩ := hE1.err)
      | (go_at_call 59; refine (IH r _ hl hr hE1).mono ?_; rintro e W2 ⟨hg2, hm⟩; rw [HQ.out] at hm; obtain ⟨T, x, rfl⟩ := hm))
    exact ⟨rfl, pto_none HR.out (grown_trans hg hg2) ⟨T, x, rfl⟩⟩
  | some y =>
    obtain ⟨nd, r2⟩ := y
    obtain ⟨T0, x0, hv⟩ := nodeV_iface nd
    have HQ := Lib.hid hq
    have HV := Lib.hid hv
    cases r2 with
    | nil =>
      have HR := Lib.hid (show rd (n + 1) (123 :: r) = none by rw [rdp_loop, hq])
      clear hq hv
      go_enter Tryd.func59, Tryd.ntmps59
      go_wp2_with (first
        | (go_at_call 70; refine (ptake1 rfl h).mono ?_; rintro e W1 ⟨rfl, hr, hg⟩; have hE1 := hE.grown hg hN; obtain ⟨T1, x1, ce⟩ := hE1.err)
        | (go_at_call 59; refine (IH r _ hl hr hE1).mono ?_; rintro e W2 ⟨hg2, hm⟩; rw [HQ.out] at hm; obtain ⟨rfl, hr2⟩ := hm; have hE2 := hE1.grown hg2 hN; rw [HV.out])
        | (go_at_call 74; refine (skip_nil hr2 hE2).mono ?_; rintro e W3 ⟨⟨T3, x3, rfl⟩, rfl⟩))
      exact ⟨rfl, pto_none HR.out (grown_trans hg hg2) ⟨T3, x3, rfl⟩⟩
    | cons d r3 =>
      by_cases hd : d = 125
      · subst hd
        have HR := Lib.hid (show rd (n + 1) (123 :: r) = some (.loop nd, r3) by rw [rdp_loop, hq]; dsimp only; rw [if_pos rfl])
        clear hq hv
        go_enter Tryd.func59, Tryd.ntmps59
        go_wp2_with (first
          | (go_at_call 70; refine (ptake1 rfl h).mono ?_; rintro e W1 ⟨rfl, hr, hg⟩; have hE1 := hE.grown hg hN; obtain ⟨T1, x1, ce⟩ := hE1.err)
          | (go_at_call 59; refine (IH r _ hl hr hE1).mono ?_; rintro e W2 ⟨hg2, hm⟩; rw [HQ.out] at hm; obtain ⟨rfl, hr2⟩ := hm; have hE2 := hE1.grown hg2 hN; rw [HV.out])
          | (go_at_call 74; refine (skip_hit rfl hr2).mono ?_; rintro e W3 ⟨rfl, hr3, hg3⟩))
        go_ret
        exact pto_some HR.out (grown_trans (grown_trans hg hg2) hg3) (by rw [nodeV, HV.out]; rfl) hr3
      · have HR := Lib.hid (show rd (n + 1) (123 :: r) = none by rw [rdp_loop, hq]; dsimp only; rw [if_neg hd])
        have HD := Lib.hid hd
        clear hq hv hd
        go_enter Tryd.func59, Tryd.ntmps59
        go_wp2_with (first
          | (go_at_call 70; refine (ptake1 rfl h).mono ?_; rintro e W1 ⟨rfl, hr, hg⟩; have hE1 := hE.grown hg hN; obtain ⟨T1, x1, ce⟩ := hE1.err)
          | (go_at_call 59; refine (IH r _ hl hr hE1).mono ?_; rintro e W2 ⟨hg2, hm⟩; rw [HQ.out] at hm; obtain ⟨rfl, hr2⟩ := hm; have hE2 := hE1.grown hg2 hN; rw [HV.out])
          | (go_at_call 74; refine (skip_miss rfl HD.out hr2 hE2 hN).mono ?_; rintro e W3 ⟨⟨T3, x3, rfl⟩, hg3⟩))
        exact ⟨rfl, pto_none HR.out (grown_trans (grown_trans hg hg2) hg3) ⟨T3, x3, rfl⟩⟩
end Go.Proofs.YtemilnkglkpnjaaDoor
