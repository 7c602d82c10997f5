/- The program's reader of programs: going past a word, assignments, tests. -/
import Derived.Test.YtemilnkglkpnjaaDoorN1
import Derived.Test.YtemilnkglkpnjaaDoorN2
import Derived.Test.YtemilnkglkpnjaaDoorQ3

namespace Go.Proofs.YtemilnkglkpnjaaDoor
open Go.ChangeShapes Go.WideShapes Go.ChangeAt Go.RowKit Go.Shelf
attribute [local go_sem] Oper.semAt_some
set_option maxRecDepth 100000

theorem ptake1 {l r : List UInt8} {c : UInt8} (hl : l = c :: r) {rb : Nat} {W : World} (h : Rst W rb l) :
    Calls Tryd.prog 70 #[.pointer (some ⟨rb, 0, none⟩), .int .i64 1] W fun e W' => e = .returned (.string ⟨#[c]⟩) ∧ Rst W' rb r ∧ W.grownBy W' (some rb) := by
  subst hl
  exact ptake_ok (c :: r) rb 1 (by simp) W h
theorem ptake1_nil {rb : Nat} {W : World} (h : Rst W rb []) {N : Nat} (hE : Laid3 N W) :
    Calls Tryd.prog 70 #[.pointer (some ⟨rb, 0, none⟩), .int .i64 1] W fun e W' => Died e ∧ W = W' :=
  ptake_bad [] rb 1 (by simp) W h hE

set_option maxHeartbeats 1000000 in
theorem skip_hit {l r : List UInt8} {c : UInt8} (hl : l = c :: r) {rb : Nat} {W : World} (h : Rst W rb l) :
    Calls Tryd.prog 74 #[.pointer (some ⟨rb, 0, none⟩), .string ⟨#[c]⟩] W fun e W' => e = .returned (.tuple #[]) ∧ Rst W' rb r ∧ W.grownBy W' (some rb) := by
  go_enter Tryd.func74, Tryd.ntmps74
  go_wp2_with (go_at_call 70; refine (ptake1 hl h).mono ?_; rintro e W1 ⟨rfl, hr, hg⟩)
  go_end0
  exact ⟨rfl, hr, hg⟩
set_option maxHeartbeats 1000000 in
theorem skip_miss {l r : List UInt8} {c d : UInt8} (hl : l = d :: r) (hd : ¬ d = c) {rb : Nat} {W : World} (h : Rst W rb l) {N : Nat} (hE : Laid3 N W) (hN : N ≤ rb) :
    Calls Tryd.prog 74 #[.pointer (some ⟨rb, 0, none⟩), .string ⟨#[c]⟩] W fun e W' => Died e ∧ W.grownBy W' (some rb) := by
  have hne : (d == c) = false := by simpa using hd
  go_enter Tryd.func74, Tryd.ntmps74
  go_wp2_with (go_at_call 70; refine (ptake1 hl h).mono ?_; rintro e W1 ⟨rfl, hr, hg⟩; obtain ⟨T, v, ce⟩ := (hE.grown hg hN).err)
  exact ⟨rfl, ⟨T, v, rfl⟩, hg⟩
set_option maxHeartbeats 1000000 in
theorem skip_nil {c : UInt8} {rb : Nat} {W : World} (h : Rst W rb []) {N : Nat} (hE : Laid3 N W) :
    Calls Tryd.prog 74 #[.pointer (some ⟨rb, 0, none⟩), .string ⟨#[c]⟩] W fun e W' => Died e ∧ W = W' := by
  go_enter Tryd.func74, Tryd.ntmps74
  go_wp2_with (go_at_call 70; refine (ptake1_nil h hE).mono ?_; rintro e W1 ⟨⟨T, v, rfl⟩, rfl⟩)
  exact ⟨rfl, ⟨T, v, rfl⟩, rfl⟩

set_option maxHeartbeats 1000000 in
theorem indexT (ts : List (List UInt8)) (hn : ts.length ≤ 1000) (t : ByteArray) (W : World) (g : Addr) (cap : Nat) (hc : ∀ (i : Nat) b, ts[i]? = some b → W.cell? (g.add i) = some (.string ⟨b.toArray⟩)) :
    Calls Tryd.prog 95 #[.slice (some g) ts.length cap, .string t] W fun e w' => W = w' ∧ ((t.toList ∈ ts ∧ ∃ k : Nat, k < 1000 ∧ e = .returned (.int .i64 (k : Int))) ∨ (¬ t.toList ∈ ts ∧ e = .returned (.int .i64 (-1)))) := by
  have HC := Lib.hid hc
  clear hc
  obtain ⟨n, hln⟩ : ∃ n, n = ts.length := ⟨_, rfl⟩
  rw [← hln] at hn ⊢
  have HL := Lib.hid hln
  clear hln
  go_enter Tryd.func95, Tryd.ntmps95
  go_wp2
  go_loop [8] (fun i => ∃ k : Nat, k ≤ n ∧ i = .int .i64 k ∧ (∀ j p, j < k → ts[j]? = some p → p ≠ t.toList)) (fun i => n - (intOf i).toNat)
  case atStart => exact ⟨0, by omega, rfl, fun j p hj => by omega⟩
  case round =>
    obtain ⟨k, hk, rfl, hno⟩ := hrel
    have HN := Lib.hid hno
    clear hno
    by_cases hlt : k < n
    · obtain ⟨p, hp⟩ : ∃ p, ts[k]? = some p := ⟨_, List.getElem?_eq_getElem (by rw [← HL.out]; exact hlt)⟩
      have c1 := HC.out k p hp
      have HP := Lib.hid hp
      clear hp
      by_cases hq : p = t.toList
      · have he : (t.toList == p) = true := by simpa using hq.symm
        have HQ := Lib.hid hq
        clear hq
        go_wp2
        go_ret
        exact ⟨rfl, .inl ⟨by rw [← HQ.out]; exact List.mem_of_getElem? HP.out, k, by omega, rfl⟩⟩
      · have he : (t.toList == p) = false := by simpa using fun h => hq h.symm
        have HQ := Lib.hid hq
        clear hq
        go_wp2
        go_round
        case rel =>
          exact ⟨k + 1, by omega, by go_num, fun j q hj hjq => by
            by_cases e : j = k
            · subst e; rw [HP.out] at hjq; cases hjq; exact HQ.out
            · exact HN.out j q (by omega) hjq⟩
        case measure => simp [intOf]; omega
    · obtain rfl : k = n := by omega
      go_wp2
      go_ret
      exact ⟨rfl, .inr ⟨fun hm => by
        obtain ⟨j, hj, e⟩ := List.getElem_of_mem hm
        exact HN.out j _ (by rw [HL.out]; exact hj) (List.getElem?_eq_getElem hj) e, rfl⟩⟩

theorem containsT (ts : List (List UInt8)) (hn : ts.length ≤ 1000) (t : ByteArray) (W : World) (g : Addr) (cap : Nat) (hc : ∀ (i : Nat) b, ts[i]? = some b → W.cell? (g.add i) = some (.string ⟨b.toArray⟩)) :
    Calls Tryd.prog 84 #[.slice (some g) ts.length cap, .string t] W fun e w' => e = .returned (.bool (decide (t.toList ∈ ts))) ∧ W = w' := by
  have HI := indexT ts hn t W g cap hc
  clear hc
  obtain ⟨n, hln⟩ : ∃ n, n = ts.length := ⟨_, rfl⟩
  rw [← hln] at HI ⊢
  have HL := Lib.hid hln
  clear hln hn
  by_cases h : t.toList ∈ ts
  · have H := Lib.hid h
    rw [decide_eq_true h]
    clear h
    go_enter Tryd.func84, Tryd.ntmps84
    go_wp2_with (go_at_call 95; refine HI.mono ?_; rintro e W2 ⟨rfl, ⟨_, k, hk, rfl⟩ | ⟨hx, _⟩⟩; rotate_left; exact absurd H.out hx)
    go_ret
    exact ⟨rfl, rfl⟩
  · have H := Lib.hid h
    rw [decide_eq_false h]
    clear h
    go_enter Tryd.func84, Tryd.ntmps84
    go_wp2_with (go_at_call 95; refine HI.mono ?_; rintro e W2 ⟨rfl, ⟨hx, k, hk, rfl⟩ | ⟨_, rfl⟩⟩; exact absurd hx H.out)
    go_ret
    exact ⟨rfl, rfl⟩

/-- What reading one program leaves (n: a bound on what is left to be read). -/
def PTo (n : Nat) (l : List UInt8) (rb : Nat) (W : World) (e : Ending) (W' : World) : Prop :=
  W.grownBy W' (some rb) ∧ match rd n l with
    | some (nd, r) => e = .returned (nodeV nd) ∧ Rst W' rb r
    | none => Died e
theorem twos_len12 : twos.length = 12 := by decide

set_option maxHeartbeats 1000000 in
theorem asg_nil (v : UInt8) {rb : Nat} {W : World} (h : Rst W rb []) {N : Nat} (hE : Laid3 N W) :
    Calls Tryd.prog 71 #[.pointer (some ⟨rb, 0, none⟩), .string ⟨#[v]⟩] W fun e W' => Died e ∧ W = W' := by
  go_enter Tryd.func71, Tryd.ntmps71
  go_wp2_with (go_at_call 70; refine (ptake1_nil h hE).mono ?_; rintro e W1 ⟨⟨T, x, rfl⟩, rfl⟩)
  exact ⟨rfl, ⟨T, x, rfl⟩, rfl⟩
set_option maxHeartbeats 1000000 in
theorem asg_hit (v d : UInt8) (r : List UInt8) {rb : Nat} {W : World} (h : Rst W rb (d :: r)) {N : Nat} (hE : Laid3 N W) (hN : N ≤ rb) (hm : [v, d] ∈ twos) :
    Calls Tryd.prog 71 #[.pointer (some ⟨rb, 0, none⟩), .string ⟨#[v]⟩] W fun e W' => W.grownBy W' (some rb) ∧ e = .returned (.iface 93 (.string ⟨#[v, d]⟩)) ∧ Rst W' rb r := by
  obtain ⟨_, ⟨g, c, a0, hb, _, _⟩, _⟩ := id hE
  have hcat : (⟨#[v]⟩ : ByteArray) ++ ⟨#[d]⟩ = ⟨#[v, d]⟩ := cat_one v [d]
  have hcon := containsT twos (by decide) ⟨#[v, d]⟩ 
  rw [twos_len12] at hcon
  have H := Lib.hid (show decide ((⟨#[v, d]⟩ : ByteArray).toList ∈ twos) = true from decide_eq_true (by rw [Lib.toList_data]; exact hm))
  clear hm
  go_enter Tryd.func71, Tryd.ntmps71
  go_wp2_with (first
    | (go_at_call 70; refine (ptake1 rfl h).mono ?_; rintro e W1 ⟨rfl, hr, hg⟩; obtain ⟨_, ⟨g1, c1, b0, hb1, _, _⟩, ⟨T, x, ce⟩, _⟩ := hE.grown hg hN)
    | (go_at_call 84; refine (hcon _ g1 c1 hb1).mono ?_; rintro e W2 ⟨rfl, rfl⟩; rw [H.out]))
  go_ret
  exact ⟨hg, rfl, hr⟩
set_option maxHeartbeats 1000000 in
theorem asg_miss (v d : UInt8) (r : List UInt8) {rb : Nat} {W : World} (h : Rst W rb (d :: r)) {N : Nat} (hE : Laid3 N W) (hN : N ≤ rb) (hm : ¬ [v, d] ∈ twos) :
    Calls Tryd.prog 71 #[.pointer (some ⟨rb, 0, none⟩), .string ⟨#[v]⟩] W fun e W' => W.grownBy W' (some rb) ∧ Died e := by
  obtain ⟨_, ⟨g, c, a0, hb, _, _⟩, _⟩ := id hE
  have hcat : (⟨#[v]⟩ : ByteArray) ++ ⟨#[d]⟩ = ⟨#[v, d]⟩ := cat_one v [d]
  have hcon := containsT twos (by decide) ⟨#[v, d]⟩ 
  rw [twos_len12] at hcon
  have H := Lib.hid (show decide ((⟨#[v, d]⟩ : ByteArray).toList ∈ twos) = false from decide_eq_false (by rw [Lib.toList_data]; exact hm))
  clear hm
  go_enter Tryd.func71, Tryd.ntmps71
  go_wp2_with (first
    | (go_at_call 70; refine (ptake1 rfl h).mono ?_; rintro e W1 ⟨rfl, hr, hg⟩; obtain ⟨_, ⟨g1, c1, b0, hb1, _, _⟩, ⟨T, x, ce⟩, _⟩ := hE.grown hg hN)
    | (go_at_call 84; refine (hcon _ g1 c1 hb1).mono ?_; rintro e W2 ⟨rfl, rfl⟩; rw [H.out]))
  exact ⟨rfl, hg, ⟨T, x, rfl⟩⟩

/-! ### A test -/
set_option maxHeartbeats 1000000 in
theorem test_short {l : List UInt8} (hl : l.length < 3) {rb : Nat} {W : World} (h : Rst W rb l) {N : Nat} (hE : Laid3 N W) :
    Calls Tryd.prog 72 #[.pointer (some ⟨rb, 0, none⟩)] W fun e W' => Died e ∧ W = W' := by
  go_enter Tryd.func72, Tryd.ntmps72
  go_wp2_with (go_at_call 70; refine (ptake_bad l rb 3 hl W h hE).mono ?_; rintro e W1 ⟨⟨T, x, rfl⟩, rfl⟩)
  exact ⟨rfl, ⟨T, x, rfl⟩, rfl⟩
theorem isTest_of {a b c : UInt8} {q : Bool} (h : decide ([a, b, c] ∈ tests) = q) : isTest (⟨#[a, b, c]⟩ : ByteArray) = q := by
  unfold isTest
  rw [← h, Lib.toList_data]
set_option maxHeartbeats 1000000 in
theorem test_wrong {a b c : UInt8} {r : List UInt8} (hm : ¬ [a, b, c] ∈ tests) {rb : Nat} {W : World} (h : Rst W rb (a :: b :: c :: r)) {N : Nat} (hE : Laid3 N W) (hN : N ≤ rb) :
    Calls Tryd.prog 72 #[.pointer (some ⟨rb, 0, none⟩)] W fun e W' => W.grownBy W' (some rb) ∧ Died e := by
  have H := Lib.hid (isTest_of (decide_eq_false hm))
  clear hm
  go_enter Tryd.func72, Tryd.ntmps72
  go_wp2_with (first
    | (go_at_call 70; refine (ptake_ok (a :: b :: c :: r) rb 3 (by simp) W h).mono ?_; rintro e W1 ⟨rfl, hr, hg⟩; have hE1 := hE.grown hg hN)
    | (go_at_call 85; refine (valid15 _ _ hE1.1).mono ?_; rintro e W2 ⟨rfl, hb⟩; rw [H.out]; have hE2 := hE1.below hb hE1.lt; obtain ⟨T, x, ce⟩ := hE2.err; have hr2 := hr.grown (below_grown hb none) (by simp); have hg2 := grown_trans hg (below_grown hb (some rb))))
  exact ⟨rfl, hg2, ⟨T, x, rfl⟩⟩
set_option maxHeartbeats 1000000 in
theorem test_open {a b c : UInt8} (hm : [a, b, c] ∈ tests) {rb : Nat} {W : World} (h : Rst W rb [a, b, c]) {N : Nat} (hE : Laid3 N W) (hN : N ≤ rb) :
    Calls Tryd.prog 72 #[.pointer (some ⟨rb, 0, none⟩)] W fun e W' => W.grownBy W' (some rb) ∧ Died e := by
  have H := Lib.hid (isTest_of (decide_eq_true hm))
  clear hm
  go_enter Tryd.func72, Tryd.ntmps72
  go_wp2_with (first
    | (go_at_call 70; refine (ptake_ok [a, b, c] rb 3 (by simp) W h).mono ?_; rintro e W1 ⟨rfl, hr, hg⟩; have hE1 := hE.grown hg hN)
    | (go_at_call 85; refine (valid15 _ _ hE1.1).mono ?_; rintro e W2 ⟨rfl, hb⟩; rw [H.out]; have hE2 := hE1.below hb hE1.lt; obtain ⟨T, x, ce⟩ := hE2.err; have hr2 := hr.grown (below_grown hb none) (by simp); have hg2 := grown_trans hg (below_grown hb (some rb)))
    | (go_at_call 74; refine (skip_nil hr2 hE2).mono ?_; rintro e W3 ⟨⟨T3, x3, rfl⟩, rfl⟩))
  exact ⟨rfl, hg2, ⟨T3, x3, rfl⟩⟩
set_option maxHeartbeats 1000000 in
theorem test_miss {a b c d : UInt8} {r : List UInt8} (hm : [a, b, c] ∈ tests) (hd : ¬ d = 93) {rb : Nat} {W : World} (h : Rst W rb (a :: b :: c :: d :: r)) {N : Nat} (hE : Laid3 N W) (hN : N ≤ rb) :
    Calls Tryd.prog 72 #[.pointer (some ⟨rb, 0, none⟩)] W fun e W' => W.grownBy W' (some rb) ∧ Died e := by
  have H := Lib.hid (isTest_of (decide_eq_true hm))
  clear hm
  go_enter Tryd.func72, Tryd.ntmps72
  go_wp2_with (first
    | (go_at_call 70; refine (ptake_ok (a :: b :: c :: d :: r) rb 3 (by simp) W h).mono ?_; rintro e W1 ⟨rfl, hr, hg⟩; have hE1 := hE.grown hg hN)
    | (go_at_call 85; refine (valid15 _ _ hE1.1).mono ?_; rintro e W2 ⟨rfl, hb⟩; rw [H.out]; have hE2 := hE1.below hb hE1.lt; obtain ⟨T, x, ce⟩ := hE2.err; have hr2 := hr.grown (below_grown hb none) (by simp); have hg2 := grown_trans hg (below_grown hb (some rb)))
    | (go_at_call 74; refine (skip_miss rfl hd hr2 hE2 hN).mono ?_; rintro e W3 ⟨⟨T3, x3, rfl⟩, hg3⟩))
  exact ⟨rfl, grown_trans hg2 hg3, ⟨T3, x3, rfl⟩⟩
theorem test_tx (a b c : UInt8) : (⟨#[91]⟩ : ByteArray) ++ ⟨#[a, b, c]⟩ ++ ⟨#[93]⟩ = ⟨#[91, a, b, c, 93]⟩ := by
  apply ByteArray.ext
  simp [ByteArray.data_append]
set_option maxHeartbeats 1000000 in
theorem test_hit {a b c : UInt8} {r : List UInt8} (hm : [a, b, c] ∈ tests) {rb : Nat} {W : World} (h : Rst W rb (a :: b :: c :: 93 :: r)) {N : Nat} (hE : Laid3 N W) (hN : N ≤ rb) :
    Calls Tryd.prog 72 #[.pointer (some ⟨rb, 0, none⟩)] W fun e W' => W.grownBy W' (some rb) ∧ e = .returned (.iface 93 (.string ⟨#[91, a, b, c, 93]⟩)) ∧ Rst W' rb r := by
  have H := Lib.hid (isTest_of (decide_eq_true hm))
  have HT := Lib.hid (test_tx a b c)
  clear hm
  go_enter Tryd.func72, Tryd.ntmps72
  go_wp2_with (first
    | (go_at_call 70; refine (ptake_ok (a :: b :: c :: 93 :: r) rb 3 (by simp) W h).mono ?_; rintro e W1 ⟨rfl, hr, hg⟩; have hE1 := hE.grown hg hN)
    | (go_at_call 85; refine (valid15 _ _ hE1.1).mono ?_; rintro e W2 ⟨rfl, hb⟩; rw [H.out]; have hE2 := hE1.below hb hE1.lt; obtain ⟨T, x, ce⟩ := hE2.err; have hr2 := hr.grown (below_grown hb none) (by simp); have hg2 := grown_trans hg (below_grown hb (some rb)))
    | (go_at_call 74; refine (skip_hit rfl hr2).mono ?_; rintro e W3 ⟨rfl, hr3, hg3⟩))
  go_ret
  exact ⟨grown_trans hg2 hg3, by rw [← HT.out]; rfl, hr3⟩
end Go.Proofs.YtemilnkglkpnjaaDoor
