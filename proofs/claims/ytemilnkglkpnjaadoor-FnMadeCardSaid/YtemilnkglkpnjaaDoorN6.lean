/- The program's reader of programs: two programs with a sign between them; all programs. -/
import Derived.Test.YtemilnkglkpnjaaDoorN5

namespace Go.Proofs.YtemilnkglkpnjaaDoor
open Go.ChangeShapes Go.WideShapes Go.ChangeAt Go.RowKit Go.Shelf
attribute [local go_sem] Oper.semAt_some
set_option maxRecDepth 100000

theorem rd_two (n : Nat) (r : List UInt8) : rd (n + 1) (40 :: r) = match rd n r with
    | some (p, s :: r') => if s = 59 ∨ s = 124 then
        match rd n r' with
        | some (q, e :: r'') => if e = 41 then some (.pair s p q, r'') else none
        | _ => none
      else none
    | _ => none := by
  rw [rd.eq_def]
  dsimp only
  rw [if_neg (by decide), if_neg (by decide), if_neg (by decide), if_neg (by decide), if_pos rfl]
  rfl

set_option maxHeartbeats 2000000 in
theorem ppair_none (n : Nat) {r : List UInt8} (hl : r.length ≤ n) {rb : Nat} {N : Nat} (IH : PReads rb n N) {W : World} (hr : Rst W rb r) (hE : Laid3 N W) (_hN : N ≤ rb) (hq : rd n r = none) :
    Calls Tryd.prog 73 #[.pointer (some ⟨rb, 0, none⟩)] W fun e W' => W.grownBy W' (some rb) ∧ Died e := by
  have HQ := Lib.hid hq
  clear hq
  go_enter Tryd.func73, Tryd.ntmps73
  go_wp2_with (first
    | (go_at_call 59; refine (IH r _ hl hr hE).mono ?_; rintro e W2 ⟨hg2, hm⟩; rw [HQ.out] at hm; obtain ⟨T, x, rfl⟩ := hm))
  exact ⟨rfl, hg2, ⟨T, x, rfl⟩⟩
set_option maxHeartbeats 2000000 in
theorem ppair_nosign (n : Nat) {r : List UInt8} (hl : r.length ≤ n) {rb : Nat} {N : Nat} (IH : PReads rb n N) {W : World} (hr : Rst W rb r) (hE : Laid3 N W) (hN : N ≤ rb) {p : Node} (hq : rd n r = some (p, [])) :
    Calls Tryd.prog 73 #[.pointer (some ⟨rb, 0, none⟩)] W fun e W' => W.grownBy W' (some rb) ∧ Died e := by
  obtain ⟨T0, x0, hv⟩ := nodeV_iface p
  have HV := Lib.hid hv
  have HQ := Lib.hid hq
  clear hv hq
  go_enter Tryd.func73, Tryd.ntmps73
  go_wp2_with (first
    | (go_at_call 59; refine (IH r _ hl hr hE).mono ?_; rintro e W2 ⟨hg2, hm⟩; rw [HQ.out] at hm; obtain ⟨rfl, hr2⟩ := hm; have hE2 := hE.grown hg2 hN; rw [HV.out])
    | (go_at_call 70; refine (ptake1_nil hr2 hE2).mono ?_; rintro e W3 ⟨⟨T, x, rfl⟩, rfl⟩))
  exact ⟨rfl, hg2, ⟨T, x, rfl⟩⟩
set_option maxHeartbeats 2000000 in
theorem ppair_second (n : Nat) {r : List UInt8} (hl : r.length ≤ n) {rb : Nat} {N : Nat} (IH : PReads rb n N) {W : World} (hr : Rst W rb r) (hE : Laid3 N W) (hN : N ≤ rb) {p : Node} {s : UInt8} {r2 : List UInt8} (hq : rd n r = some (p, s :: r2)) (hq2 : rd n r2 = none) :
    Calls Tryd.prog 73 #[.pointer (some ⟨rb, 0, none⟩)] W fun e W' => W.grownBy W' (some rb) ∧ Died e := by
  have hl2 : r2.length ≤ n := by
    have h1 := (rd_text _ _ _ _ hq).1
    have := congrArg List.length h1
    simp at this
    omega
  obtain ⟨T0, x0, hv⟩ := nodeV_iface p
  have HV := Lib.hid hv
  have HQ := Lib.hid hq
  clear hv hq
  have HQ2 := Lib.hid hq2
  clear hq2
  go_enter Tryd.func73, Tryd.ntmps73
  go_wp2_with (first
    | (go_at_call 59; refine (IH r _ hl hr hE).mono ?_; rintro e W2 ⟨hg2, hm⟩; rw [HQ.out] at hm; obtain ⟨rfl, hr2⟩ := hm; have hE2 := hE.grown hg2 hN; rw [HV.out])
    | (go_at_call 70; refine (ptake1 rfl hr2).mono ?_; rintro e W3 ⟨rfl, hr3, hg3⟩; have hE3 := hE2.grown hg3 hN)
    | (go_at_call 59; refine (IH r2 _ hl2 hr3 hE3).mono ?_; rintro e W4 ⟨hg4, hm⟩; rw [HQ2.out] at hm; obtain ⟨T, x, rfl⟩ := hm))
  exact ⟨rfl, grown_trans (grown_trans hg2 hg3) hg4, ⟨T, x, rfl⟩⟩
set_option maxHeartbeats 2000000 in
theorem ppair_open (n : Nat) {r : List UInt8} (hl : r.length ≤ n) {rb : Nat} {N : Nat} (IH : PReads rb n N) {W : World} (hr : Rst W rb r) (hE : Laid3 N W) (hN : N ≤ rb) {p : Node} {s : UInt8} {r2 : List UInt8} (hq : rd n r = some (p, s :: r2)) {q : Node} (hq2 : rd n r2 = some (q, [])) :
    Calls Tryd.prog 73 #[.pointer (some ⟨rb, 0, none⟩)] W fun e W' => W.grownBy W' (some rb) ∧ Died e := by
  have hl2 : r2.length ≤ n := by
    have h1 := (rd_text _ _ _ _ hq).1
    have := congrArg List.length h1
    simp at this
    omega
  obtain ⟨T0, x0, hv⟩ := nodeV_iface p
  have HV := Lib.hid hv
  have HQ := Lib.hid hq
  clear hv hq
  obtain ⟨T9, x9, hv2⟩ := nodeV_iface q
  have HV2 := Lib.hid hv2
  have HQ2 := Lib.hid hq2
  clear hv2 hq2
  go_enter Tryd.func73, Tryd.ntmps73
  go_wp2_with (first
    | (go_at_call 59; refine (IH r _ hl hr hE).mono ?_; rintro e W2 ⟨hg2, hm⟩; rw [HQ.out] at hm; obtain ⟨rfl, hr2⟩ := hm; have hE2 := hE.grown hg2 hN; rw [HV.out])
    | (go_at_call 70; refine (ptake1 rfl hr2).mono ?_; rintro e W3 ⟨rfl, hr3, hg3⟩; have hE3 := hE2.grown hg3 hN)
    | (go_at_call 59; refine (IH r2 _ hl2 hr3 hE3).mono ?_; rintro e W4 ⟨hg4, hm⟩; rw [HQ2.out] at hm; obtain ⟨rfl, hr4⟩ := hm; have hE4 := hE3.grown hg4 hN; rw [HV2.out])
    | (go_at_call 74; refine (skip_nil hr4 hE4).mono ?_; rintro e W5 ⟨⟨T, x, rfl⟩, rfl⟩))
  exact ⟨rfl, grown_trans (grown_trans hg2 hg3) hg4, ⟨T, x, rfl⟩⟩
set_option maxHeartbeats 2000000 in
theorem ppair_miss (n : Nat) {r : List UInt8} (hl : r.length ≤ n) {rb : Nat} {N : Nat} (IH : PReads rb n N) {W : World} (hr : Rst W rb r) (hE : Laid3 N W) (hN : N ≤ rb) {p : Node} {s : UInt8} {r2 : List UInt8} (hq : rd n r = some (p, s :: r2)) {q : Node} {d : UInt8} {r3 : List UInt8} (hq2 : rd n r2 = some (q, d :: r3)) (hd : ¬ d = 41) :
    Calls Tryd.prog 73 #[.pointer (some ⟨rb, 0, none⟩)] W fun e W' => W.grownBy W' (some rb) ∧ Died e := by
  have hl2 : r2.length ≤ n := by
    have h1 := (rd_text _ _ _ _ hq).1
    have := congrArg List.length h1
    simp at this
    omega
  obtain ⟨T0, x0, hv⟩ := nodeV_iface p
  have HV := Lib.hid hv
  have HQ := Lib.hid hq
  clear hv hq
  obtain ⟨T9, x9, hv2⟩ := nodeV_iface q
  have HV2 := Lib.hid hv2
  have HQ2 := Lib.hid hq2
  clear hv2 hq2
  have HD := Lib.hid hd
  clear hd
  go_enter Tryd.func73, Tryd.ntmps73
  go_wp2_with (first
    | (go_at_call 59; refine (IH r _ hl hr hE).mono ?_; rintro e W2 ⟨hg2, hm⟩; rw [HQ.out] at hm; obtain ⟨rfl, hr2⟩ := hm; have hE2 := hE.grown hg2 hN; rw [HV.out])
    | (go_at_call 70; refine (ptake1 rfl hr2).mono ?_; rintro e W3 ⟨rfl, hr3, hg3⟩; have hE3 := hE2.grown hg3 hN)
    | (go_at_call 59; refine (IH r2 _ hl2 hr3 hE3).mono ?_; rintro e W4 ⟨hg4, hm⟩; rw [HQ2.out] at hm; obtain ⟨rfl, hr4⟩ := hm; have hE4 := hE3.grown hg4 hN; rw [HV2.out])
    | (go_at_call 74; refine (skip_miss rfl HD.out hr4 hE4 hN).mono ?_; rintro e W5 ⟨⟨T, x, rfl⟩, hg5⟩))
  exact ⟨rfl, grown_trans (grown_trans (grown_trans hg2 hg3) hg4) hg5, ⟨T, x, rfl⟩⟩
set_option maxHeartbeats 2000000 in
theorem ppair_other (n : Nat) {r : List UInt8} (hl : r.length ≤ n) {rb : Nat} {N : Nat} (IH : PReads rb n N) {W : World} (hr : Rst W rb r) (hE : Laid3 N W) (hN : N ≤ rb) {p : Node} {s : UInt8} {r2 : List UInt8} (hq : rd n r = some (p, s :: r2)) {q : Node} {r3 : List UInt8} (hq2 : rd n r2 = some (q, 41 :: r3)) (hs1 : ¬ s = 59) (hs2 : ¬ s = 124) :
    Calls Tryd.prog 73 #[.pointer (some ⟨rb, 0, none⟩)] W fun e W' => W.grownBy W' (some rb) ∧ Died e := by
  have hl2 : r2.length ≤ n := by
    have h1 := (rd_text _ _ _ _ hq).1
    have := congrArg List.length h1
    simp at this
    omega
  obtain ⟨T0, x0, hv⟩ := nodeV_iface p
  have HV := Lib.hid hv
  have HQ := Lib.hid hq
  clear hv hq
  obtain ⟨T9, x9, hv2⟩ := nodeV_iface q
  have HV2 := Lib.hid hv2
  have HQ2 := Lib.hid hq2
  clear hv2 hq2
  have f1 : (s == 59) = false := by simpa using hs1
  have f2 : (s == 124) = false := by simpa using hs2
  clear hs1 hs2
  go_enter Tryd.func73, Tryd.ntmps73
  go_wp2_with (first
    | (go_at_call 59; refine (IH r _ hl hr hE).mono ?_; rintro e W2 ⟨hg2, hm⟩; rw [HQ.out] at hm; obtain ⟨rfl, hr2⟩ := hm; have hE2 := hE.grown hg2 hN; rw [HV.out])
    | (go_at_call 70; refine (ptake1 rfl hr2).mono ?_; rintro e W3 ⟨rfl, hr3, hg3⟩; have hE3 := hE2.grown hg3 hN)
    | (go_at_call 59; refine (IH r2 _ hl2 hr3 hE3).mono ?_; rintro e W4 ⟨hg4, hm⟩; rw [HQ2.out] at hm; obtain ⟨rfl, hr4⟩ := hm; have hE4 := hE3.grown hg4 hN; rw [HV2.out])
    | (go_at_call 74; refine (skip_hit rfl hr4).mono ?_; rintro e W5 ⟨rfl, hr5, hg5⟩; obtain ⟨T5, x5, ce⟩ := (hE4.grown hg5 hN).err))
  exact ⟨rfl, grown_trans (grown_trans (grown_trans hg2 hg3) hg4) hg5, ⟨T5, x5, rfl⟩⟩
set_option maxHeartbeats 2000000 in
theorem ppair_seq (n : Nat) {r : List UInt8} (hl : r.length ≤ n) {rb : Nat} {N : Nat} (IH : PReads rb n N) {W : World} (hr : Rst W rb r) (hE : Laid3 N W) (hN : N ≤ rb) {p : Node} {r2 : List UInt8} (hq : rd n r = some (p, 59 :: r2)) {q : Node} {r3 : List UInt8} (hq2 : rd n r2 = some (q, 41 :: r3)) :
    Calls Tryd.prog 73 #[.pointer (some ⟨rb, 0, none⟩)] W fun e W' => W.grownBy W' (some rb) ∧ e = .returned (nodeV (.pair 59 p q)) ∧ Rst W' rb r3 := by
  have hl2 : r2.length ≤ n := by
    have h1 := (rd_text _ _ _ _ hq).1
    have := congrArg List.length h1
    simp at this
    omega
  obtain ⟨T0, x0, hv⟩ := nodeV_iface p
  have HV := Lib.hid hv
  have HQ := Lib.hid hq
  clear hv hq
  obtain ⟨T9, x9, hv2⟩ := nodeV_iface q
  have HV2 := Lib.hid hv2
  have HQ2 := Lib.hid hq2
  clear hv2 hq2
  go_enter Tryd.func73, Tryd.ntmps73
  go_wp2_with (first
    | (go_at_call 59; refine (IH r _ hl hr hE).mono ?_; rintro e W2 ⟨hg2, hm⟩; rw [HQ.out] at hm; obtain ⟨rfl, hr2⟩ := hm; have hE2 := hE.grown hg2 hN; rw [HV.out])
    | (go_at_call 70; refine (ptake1 rfl hr2).mono ?_; rintro e W3 ⟨rfl, hr3, hg3⟩; have hE3 := hE2.grown hg3 hN)
    | (go_at_call 59; refine (IH r2 _ hl2 hr3 hE3).mono ?_; rintro e W4 ⟨hg4, hm⟩; rw [HQ2.out] at hm; obtain ⟨rfl, hr4⟩ := hm; have hE4 := hE3.grown hg4 hN; rw [HV2.out])
    | (go_at_call 74; refine (skip_hit rfl hr4).mono ?_; rintro e W5 ⟨rfl, hr5, hg5⟩; obtain ⟨T5, x5, ce⟩ := (hE4.grown hg5 hN).err))
  go_ret
  exact ⟨grown_trans (grown_trans (grown_trans hg2 hg3) hg4) hg5, by rw [nodeV_seq, HV.out, HV2.out]; rfl, hr5⟩
set_option maxHeartbeats 2000000 in
theorem ppair_choice (n : Nat) {r : List UInt8} (hl : r.length ≤ n) {rb : Nat} {N : Nat} (IH : PReads rb n N) {W : World} (hr : Rst W rb r) (hE : Laid3 N W) (hN : N ≤ rb) {p : Node} {r2 : List UInt8} (hq : rd n r = some (p, 124 :: r2)) {q : Node} {r3 : List UInt8} (hq2 : rd n r2 = some (q, 41 :: r3)) :
    Calls Tryd.prog 73 #[.pointer (some ⟨rb, 0, none⟩)] W fun e W' => W.grownBy W' (some rb) ∧ e = .returned (nodeV (.pair 124 p q)) ∧ Rst W' rb r3 := by
  have hl2 : r2.length ≤ n := by
    have h1 := (rd_text _ _ _ _ hq).1
    have := congrArg List.length h1
    simp at this
    omega
  obtain ⟨T0, x0, hv⟩ := nodeV_iface p
  have HV := Lib.hid hv
  have HQ := Lib.hid hq
  clear hv hq
  obtain ⟨T9, x9, hv2⟩ := nodeV_iface q
  have HV2 := Lib.hid hv2
  have HQ2 := Lib.hid hq2
  clear hv2 hq2
  go_enter Tryd.func73, Tryd.ntmps73
  go_wp2_with (first
    | (go_at_call 59; refine (IH r _ hl hr hE).mono ?_; rintro e W2 ⟨hg2, hm⟩; rw [HQ.out] at hm; obtain ⟨rfl, hr2⟩ := hm; have hE2 := hE.grown hg2 hN; rw [HV.out])
    | (go_at_call 70; refine (ptake1 rfl hr2).mono ?_; rintro e W3 ⟨rfl, hr3, hg3⟩; have hE3 := hE2.grown hg3 hN)
    | (go_at_call 59; refine (IH r2 _ hl2 hr3 hE3).mono ?_; rintro e W4 ⟨hg4, hm⟩; rw [HQ2.out] at hm; obtain ⟨rfl, hr4⟩ := hm; have hE4 := hE3.grown hg4 hN; rw [HV2.out])
    | (go_at_call 74; refine (skip_hit rfl hr4).mono ?_; rintro e W5 ⟨rfl, hr5, hg5⟩; obtain ⟨T5, x5, ce⟩ := (hE4.grown hg5 hN).err))
  go_ret
  exact ⟨grown_trans (grown_trans (grown_trans hg2 hg3) hg4) hg5, by rw [nodeV_choice, HV.out, HV2.out]; rfl, hr5⟩

/-- What a call of the reader of two programs leaves is what the reader leaves. -/
theorem prog_pair_died (n : Nat) {r : List UInt8} {rb : Nat} {N : Nat} {W : World} (h : Rst W rb (40 :: r)) (hE : Laid3 N W) (hN : N ≤ rb) (hrd : rd (n + 1) (40 :: r) = none)
    (hc : ∀ W1, Rst W1 rb r → Laid3 N W1 → Calls Tryd.prog 73 #[.pointer (some ⟨rb, 0, none⟩)] W1 fun e W' => W1.grownBy W' (some rb) ∧ Died e) :
    Calls Tryd.prog 59 #[.pointer (some ⟨rb, 0, none⟩)] W (PTo (n + 1) (40 :: r) rb W) := by
  have HR := Lib.hid hrd
  have HC := Lib.hid hc
  clear hrd hc
  go_enter Tryd.func59, Tryd.ntmps59
  go_wp2_with (first
    | (go_at_call 70; refine (ptake1 rfl h).mono ?_; rintro e W1 ⟨rfl, hr, hg⟩; have hE1 := hE.grown hg hN)
    | (go_at_call 73; refine (HC.out _ hr hE1).mono ?_; rintro e W2 ⟨hg2, ⟨T, x, rfl⟩⟩))
  exact ⟨rfl, pto_none HR.out (grown_trans hg hg2) ⟨T, x, rfl⟩⟩
theorem prog_pair_hit (n : Nat) {r r3 : List UInt8} {nd : Node} {rb : Nat} {N : Nat} {W : World} (h : Rst W rb (40 :: r)) (hE : Laid3 N W) (hN : N ≤ rb) (hrd : rd (n + 1) (40 :: r) = some (nd, r3))
    (hc : ∀ W1, Rst W1 rb r → Laid3 N W1 → Calls Tryd.prog 73 #[.pointer (some ⟨rb, 0, none⟩)] W1 fun e W' => W1.grownBy W' (some rb) ∧ e = .returned (nodeV nd) ∧ Rst W' rb r3) :
    Calls Tryd.prog 59 #[.pointer (some ⟨rb, 0, none⟩)] W (PTo (n + 1) (40 :: r) rb W) := by
  have HR := Lib.hid hrd
  have HC := Lib.hid hc
  obtain ⟨T0, x0, hv⟩ := nodeV_iface nd
  have HV := Lib.hid hv
  clear hrd hc hv
  go_enter Tryd.func59, Tryd.ntmps59
  go_wp2_with (first
    | (go_at_call 70; refine (ptake1 rfl h).mono ?_; rintro e W1 ⟨rfl, hr, hg⟩; have hE1 := hE.grown hg hN)
    | (go_at_call 73; refine (HC.out _ hr hE1).mono ?_; rintro e W2 ⟨hg2, rfl, hr2⟩; rw [HV.out]))
  go_ret
  exact pto_some HR.out (grown_trans hg hg2) (by rw [HV.out]; rfl) hr2

theorem prog_pair (n : Nat) {r : List UInt8} (hl : r.length ≤ n) {rb : Nat} {N : Nat} (IH : PReads rb n N) {W : World} (h : Rst W rb (40 :: r)) (hE : Laid3 N W) (hN : N ≤ rb) :
    Calls Tryd.prog 59 #[.pointer (some ⟨rb, 0, none⟩)] W (PTo (n + 1) (40 :: r) rb W) := by
  cases hq : rd n r with
  | none => exact prog_pair_died n h hE hN (by rw [rd_two, hq]) fun W1 hr hE1 => ppair_none n hl IH hr hE1 hN hq
  | some y =>
    obtain ⟨p, r1⟩ := y
    cases r1 with
    | nil => exact prog_pair_died n h hE hN (by rw [rd_two, hq]) fun W1 hr hE1 => ppair_nosign n hl IH hr hE1 hN hq
    | cons s r2 =>
      cases hq2 : rd n r2 with
      | none => exact prog_pair_died n h hE hN (by rw [rd_two, hq]; dsimp only; rw [hq2]; simp) fun W1 hr hE1 => ppair_second n hl IH hr hE1 hN hq hq2
      | some z =>
        obtain ⟨q, r3⟩ := z
        cases r3 with
        | nil => exact prog_pair_died n h hE hN (by rw [rd_two, hq]; dsimp only; rw [hq2]; simp) fun W1 hr hE1 => ppair_open n hl IH hr hE1 hN hq hq2
        | cons d r4 =>
          by_cases hd : d = 41
          · subst hd
            by_cases hs1 : s = 59
            · subst hs1
              exact prog_pair_hit n h hE hN (by rw [rd_two, hq]; dsimp only; rw [hq2]; simp) fun W1 hr hE1 => ppair_seq n hl IH hr hE1 hN hq hq2
            · by_cases hs2 : s = 124
              · subst hs2
                exact prog_pair_hit n h hE hN (by rw [rd_two, hq]; dsimp only; rw [hq2]; simp) fun W1 hr hE1 => ppair_choice n hl IH hr hE1 hN hq hq2
              · exact prog_pair_died n h hE hN (by rw [rd_two, hq]; dsimp only; rw [if_neg (by rintro (h | h) <;> contradiction)]) fun W1 hr hE1 => ppair_other n hl IH hr hE1 hN hq hq2 hs1 hs2
          · exact prog_pair_died n h hE hN (by rw [rd_two, hq]; dsimp only; rw [hq2]; dsimp only; rw [if_neg hd]; simp) fun W1 hr hE1 => ppair_miss n hl IH hr hE1 hN hq hq2 hd

theorem preads_all (rb N : Nat) (hN : N ≤ rb) : ∀ n, PReads rb n N := by
  intro n
  induction n with
  | zero =>
    intro l W hl h hE
    match l, hl, h with
    | [], _, h => exact prog_nil 0 h hE
  | succ n IH =>
    intro l W hl h hE
    match l, hl, h with
    | [], _, h => exact prog_nil (n + 1) h hE
    | c :: r, hl, h =>
      have hl' : r.length ≤ n := by simpa using hl
      by_cases h1 : c = 46
      · exact prog_dot n (.inl h1) h hE hN
      by_cases h2 : c = 33
      · exact prog_dot n (.inr h2) h hE hN
      by_cases h3 : c = 120
      · exact prog_asg n (.inl h3) h hE hN
      by_cases h4 : c = 121
      · exact prog_asg n (.inr h4) h hE hN
      by_cases h5 : c = 91
      · subst h5; exact prog_test n h hE hN
      by_cases h6 : c = 123
      · subst h6; exact prog_loop n hl' IH h hE hN
      by_cases h7 : c = 40
      · subst h7; exact prog_pair n hl' IH h hE hN
      exact prog_other n h1 h2 h3 h4 h5 h6 h7 h hE hN
end Go.Proofs.YtemilnkglkpnjaaDoor
