/- The program's reader of programs: going past a word, assignments, tests. The program's reader of programs: one program, by its first byte. The program's reader of programs: two programs with a sign between them; all programs. The program's reading of a whole text: a program, or its own error. -/
import Derived.Test.YtgkgkaapjljpcaaDoorNA
import Derived.Test.YtgkgkaapjljpcaaDoorQA
import Derived.Recover
namespace Go.Proofs.YtgkgkaapjljpcaaDoor
open Go.ChangeShapes Go.WideShapes Go.ChangeAt Go.RowKit Go.Shelf
attribute [local go_sem] Oper.semAt_some
set_option maxRecDepth 100000

theorem ptake1 {l r : List UInt8} {c : UInt8} (hl : l = c :: r) {rb : Nat} {W : World} (h : Rst W rb l) :
    Calls Tryd.prog 98 #[.pointer (some ⟨rb, 0, none⟩), .int .i64 1] W fun e W' => e = .returned (.string ⟨#[c]⟩) ∧ Rst W' rb r ∧ W.grownBy W' (some rb) := by
  subst hl
  exact ptake_ok (c :: r) rb 1 (by simp) W h
theorem ptake1_nil {rb : Nat} {W : World} (h : Rst W rb []) {N : Nat} (hE : Laid3 N W) :
    Calls Tryd.prog 98 #[.pointer (some ⟨rb, 0, none⟩), .int .i64 1] W fun e W' => Died e ∧ W = W' :=
  ptake_bad [] rb 1 (by simp) W h hE

set_option maxHeartbeats 1000000 in
theorem skip_hit {l r : List UInt8} {c : UInt8} (hl : l = c :: r) {rb : Nat} {W : World} (h : Rst W rb l) :
    Calls Tryd.prog 102 #[.pointer (some ⟨rb, 0, none⟩), .string ⟨#[c]⟩] W fun e W' => e = .returned (.tuple #[]) ∧ Rst W' rb r ∧ W.grownBy W' (some rb) := by
  go_enter Tryd.func102, Tryd.ntmps102
  go_wp2_with (go_at_call 98; refine (ptake1 hl h).mono ?_; rintro e W1 ⟨rfl, hr, hg⟩)
  go_end0
  exact ⟨rfl, hr, hg⟩
set_option maxHeartbeats 1000000 in
theorem skip_miss {l r : List UInt8} {c d : UInt8} (hl : l = d :: r) (hd : ¬ d = c) {rb : Nat} {W : World} (h : Rst W rb l) {N : Nat} (hE : Laid3 N W) (hN : N ≤ rb) :
    Calls Tryd.prog 102 #[.pointer (some ⟨rb, 0, none⟩), .string ⟨#[c]⟩] W fun e W' => Died e ∧ W.grownBy W' (some rb) := by
  have hne : (d == c) = false := by simpa using hd
  go_enter Tryd.func102, Tryd.ntmps102
  go_wp2_with (go_at_call 98; refine (ptake1 hl h).mono ?_; rintro e W1 ⟨rfl, hr, hg⟩; obtain ⟨T, v, ce⟩ := (hE.grown hg hN).err)
  exact ⟨rfl, ⟨T, v, rfl⟩, hg⟩
set_option maxHeartbeats 1000000 in
theorem skip_nil {c : UInt8} {rb : Nat} {W : World} (h : Rst W rb []) {N : Nat} (hE : Laid3 N W) :
    Calls Tryd.prog 102 #[.pointer (some ⟨rb, 0, none⟩), .string ⟨#[c]⟩] W fun e W' => Died e ∧ W = W' := by
  go_enter Tryd.func102, Tryd.ntmps102
  go_wp2_with (go_at_call 98; refine (ptake1_nil h hE).mono ?_; rintro e W1 ⟨⟨T, v, rfl⟩, rfl⟩)
  exact ⟨rfl, ⟨T, v, rfl⟩, rfl⟩

set_option maxHeartbeats 1000000 in
theorem indexT (ts : List (List UInt8)) (hn : ts.length ≤ 1000) (t : ByteArray) (W : World) (g : Addr) (cap : Nat) (hc : ∀ (i : Nat) b, ts[i]? = some b → W.cell? (g.add i) = some (.string ⟨b.toArray⟩)) :
    Calls Tryd.prog 123 #[.slice (some g) ts.length cap, .string t] W fun e w' => W = w' ∧ ((t.toList ∈ ts ∧ ∃ k : Nat, k < 1000 ∧ e = .returned (.int .i64 (k : Int))) ∨ (¬ t.toList ∈ ts ∧ e = .returned (.int .i64 (-1)))) := by
  have HC := Lib.hid hc
  clear hc
  obtain ⟨n, hln⟩ : ∃ n, n = ts.length := ⟨_, rfl⟩
  rw [← hln] at hn ⊢
  have HL := Lib.hid hln
  clear hln
  go_enter Tryd.func123, Tryd.ntmps123
  go_wp2
  go_loop [8] (fun i => ∃ k : Nat, k ≤ n ∧ i = .int .i64 k ∧ (∀ j p, j < k → ts[j]? = some p → p ≠ t.toList)) (fun i => n - (intOf i).toNat)
  case atStart => exact ⟨0, by omega, rfl, fun j p hj => by omega⟩
  case round =>
    obtain ⟨k, hk, rfl, hno⟩ := hrel
    have HN := Lib.hid hno
    clear hno
    by_cases hlt : k < n
    · obtain ⟨p, hp⟩ : ∃ p, ts[k]? = some p := ⟨_, List.getElem?_eq_getElem (by rw [← HL.out]; exact hlt)⟩
      have c1 := HC.out k p hp
      have HP := Lib.hid hp
      clear hp
      by_cases hq : p = t.toList
      · have he : (t.toList == p) = true := by simpa using hq.symm
        have HQ := Lib.hid hq
        clear hq
        go_wp2
        go_ret
        exact ⟨rfl, .inl ⟨by rw [← HQ.out]; exact List.mem_of_getElem? HP.out, k, by omega, rfl⟩⟩
      · have he : (t.toList == p) = false := by simpa using fun h => hq h.symm
        have HQ := Lib.hid hq
        clear hq
        go_wp2
        go_round
        case rel =>
          exact ⟨k + 1, by omega, by go_num, fun j q hj hjq => by
            by_cases e : j = k
            · subst e; rw [HP.out] at hjq; cases hjq; exact HQ.out
            · exact HN.out j q (by omega) hjq⟩
        case measure => simp [intOf]; omega
    · obtain rfl : k = n := by omega
      go_wp2
      go_ret
      exact ⟨rfl, .inr ⟨fun hm => by
        obtain ⟨j, hj, e⟩ := List.getElem_of_mem hm
        exact HN.out j _ (by rw [HL.out]; exact hj) (List.getElem?_eq_getElem hj) e, rfl⟩⟩

theorem containsT (ts : List (List UInt8)) (hn : ts.length ≤ 1000) (t : ByteArray) (W : World) (g : Addr) (cap : Nat) (hc : ∀ (i : Nat) b, ts[i]? = some b → W.cell? (g.add i) = some (.string ⟨b.toArray⟩)) :
    Calls Tryd.prog 105 #[.slice (some g) ts.length cap, .string t] W fun e w' => e = .returned (.bool (decide (t.toList ∈ ts))) ∧ W = w' := by
  have HI := indexT ts hn t W g cap hc
  clear hc
  obtain ⟨n, hln⟩ : ∃ n, n = ts.length := ⟨_, rfl⟩
  rw [← hln] at HI ⊢
  have HL := Lib.hid hln
  clear hln hn
  by_cases h : t.toList ∈ ts
  · have H := Lib.hid h
    rw [decide_eq_true h]
    clear h
    go_enter Tryd.func105, Tryd.ntmps105
    go_wp2_with (go_at_call 123; refine HI.mono ?_; rintro e W2 ⟨rfl, ⟨_, k, hk, rfl⟩ | ⟨hx, _⟩⟩; rotate_left; exact absurd H.out hx)
    go_ret
    exact ⟨rfl, rfl⟩
  · have H := Lib.hid h
    rw [decide_eq_false h]
    clear h
    go_enter Tryd.func105, Tryd.ntmps105
    go_wp2_with (go_at_call 123; refine HI.mono ?_; rintro e W2 ⟨rfl, ⟨hx, k, hk, rfl⟩ | ⟨_, rfl⟩⟩; exact absurd hx H.out)
    go_ret
    exact ⟨rfl, rfl⟩

/-- What reading one program leaves (n: a bound on what is left to be read). -/
def PTo (n : Nat) (l : List UInt8) (rb : Nat) (W : World) (e : Ending) (W' : World) : Prop :=
  W.grownBy W' (some rb) ∧ match rd n l with
    | some (nd, r) => e = .returned (nodeV nd) ∧ Rst W' rb r
    | none => Died e
theorem twos_len12 : twos.length = 12 := by decide

set_option maxHeartbeats 1000000 in
theorem asg_nil (v : UInt8) {rb : Nat} {W : World} (h : Rst W rb []) {N : Nat} (hE : Laid3 N W) :
    Calls Tryd.prog 99 #[.pointer (some ⟨rb, 0, none⟩), .string ⟨#[v]⟩] W fun e W' => Died e ∧ W = W' := by
  go_enter Tryd.func99, Tryd.ntmps99
  go_wp2_with (go_at_call 98; refine (ptake1_nil h hE).mono ?_; rintro e W1 ⟨⟨T, x, rfl⟩, rfl⟩)
  exact ⟨rfl, ⟨T, x, rfl⟩, rfl⟩
set_option maxHeartbeats 1000000 in
theorem asg_hit (v d : UInt8) (r : List UInt8) {rb : Nat} {W : World} (h : Rst W rb (d :: r)) {N : Nat} (hE : Laid3 N W) (hN : N ≤ rb) (hm : [v, d] ∈ twos) :
    Calls Tryd.prog 99 #[.pointer (some ⟨rb, 0, none⟩), .string ⟨#[v]⟩] W fun e W' => W.grownBy W' (some rb) ∧ e = .returned (.iface 133 (.string ⟨#[v, d]⟩)) ∧ Rst W' rb r := by
  obtain ⟨_, ⟨g, c, a0, hb, _, _⟩, _⟩ := id hE
  have hcat : (⟨#[v]⟩ : ByteArray) ++ ⟨#[d]⟩ = ⟨#[v, d]⟩ := cat_one v [d]
  have hcon := containsT twos (by decide) ⟨#[v, d]⟩ 
  rw [twos_len12] at hcon
  have H := Lib.hid (show decide ((⟨#[v, d]⟩ : ByteArray).toList ∈ twos) = true from decide_eq_true (by rw [Lib.toList_data]; exact hm))
  clear hm
  go_enter Tryd.func99, Tryd.ntmps99
  go_wp2_with (first
    | (go_at_call 98; refine (ptake1 rfl h).mono ?_; rintro e W1 ⟨rfl, hr, hg⟩; obtain ⟨_, ⟨g1, c1, b0, hb1, _, _⟩, ⟨T, x, ce⟩, _⟩ := hE.grown hg hN)
    | (go_at_call 105; refine (hcon _ g1 c1 hb1).mono ?_; rintro e W2 ⟨rfl, rfl⟩; rw [H.out]))
  go_ret
  exact ⟨hg, rfl, hr⟩
set_option maxHeartbeats 1000000 in
theorem asg_miss (v d : UInt8) (r : List UInt8) {rb : Nat} {W : World} (h : Rst W rb (d :: r)) {N : Nat} (hE : Laid3 N W) (hN : N ≤ rb) (hm : ¬ [v, d] ∈ twos) :
    Calls Tryd.prog 99 #[.pointer (some ⟨rb, 0, none⟩), .string ⟨#[v]⟩] W fun e W' => W.grownBy W' (some rb) ∧ Died e := by
  obtain ⟨_, ⟨g, c, a0, hb, _, _⟩, _⟩ := id hE
  have hcat : (⟨#[v]⟩ : ByteArray) ++ ⟨#[d]⟩ = ⟨#[v, d]⟩ := cat_one v [d]
  have hcon := containsT twos (by decide) ⟨#[v, d]⟩ 
  rw [twos_len12] at hcon
  have H := Lib.hid (show decide ((⟨#[v, d]⟩ : ByteArray).toList ∈ twos) = false from decide_eq_false (by rw [Lib.toList_data]; exact hm))
  clear hm
  go_enter Tryd.func99, Tryd.ntmps99
  go_wp2_with (first
    | (go_at_call 98; refine (ptake1 rfl h).mono ?_; rintro e W1 ⟨rfl, hr, hg⟩; obtain ⟨_, ⟨g1, c1, b0, hb1, _, _⟩, ⟨T, x, ce⟩, _⟩ := hE.grown hg hN)
    | (go_at_call 105; refine (hcon _ g1 c1 hb1).mono ?_; rintro e W2 ⟨rfl, rfl⟩; rw [H.out]))
  exact ⟨rfl, hg, ⟨T, x, rfl⟩⟩

/-! ### A test -/
set_option maxHeartbeats 1000000 in
theorem test_short {l : List UInt8} (hl : l.length < 3) {rb : Nat} {W : World} (h : Rst W rb l) {N : Nat} (hE : Laid3 N W) :
    Calls Tryd.prog 100 #[.pointer (some ⟨rb, 0, none⟩)] W fun e W' => Died e ∧ W = W' := by
  go_enter Tryd.func100, Tryd.ntmps100
  go_wp2_with (go_at_call 98; refine (ptake_bad l rb 3 hl W h hE).mono ?_; rintro e W1 ⟨⟨T, x, rfl⟩, rfl⟩)
  exact ⟨rfl, ⟨T, x, rfl⟩, rfl⟩
theorem isTest_of {a b c : UInt8} {q : Bool} (h : decide ([a, b, c] ∈ tests) = q) : isTest (⟨#[a, b, c]⟩ : ByteArray) = q := by
  unfold isTest
  rw [← h, Lib.toList_data]
set_option maxHeartbeats 1000000 in
theorem test_wrong {a b c : UInt8} {r : List UInt8} (hm : ¬ [a, b, c] ∈ tests) {rb : Nat} {W : World} (h : Rst W rb (a :: b :: c :: r)) {N : Nat} (hE : Laid3 N W) (hN : N ≤ rb) :
    Calls Tryd.prog 100 #[.pointer (some ⟨rb, 0, none⟩)] W fun e W' => W.grownBy W' (some rb) ∧ Died e := by
  have H := Lib.hid (isTest_of (decide_eq_false hm))
  clear hm
  go_enter Tryd.func100, Tryd.ntmps100
  go_wp2_with (first
    | (go_at_call 98; refine (ptake_ok (a :: b :: c :: r) rb 3 (by simp) W h).mono ?_; rintro e W1 ⟨rfl, hr, hg⟩; have hE1 := hE.grown hg hN)
    | (go_at_call 122; refine (valid15 _ _ hE1.1).mono ?_; rintro e W2 ⟨rfl, hb⟩; rw [H.out]; have hE2 := hE1.below hb hE1.lt; obtain ⟨T, x, ce⟩ := hE2.err; have hr2 := hr.grown (below_grown hb none) (by simp); have hg2 := grown_trans hg (below_grown hb (some rb))))
  exact ⟨rfl, hg2, ⟨T, x, rfl⟩⟩
set_option maxHeartbeats 1000000 in
theorem test_open {a b c : UInt8} (hm : [a, b, c] ∈ tests) {rb : Nat} {W : World} (h : Rst W rb [a, b, c]) {N : Nat} (hE : Laid3 N W) (hN : N ≤ rb) :
    Calls Tryd.prog 100 #[.pointer (some ⟨rb, 0, none⟩)] W fun e W' => W.grownBy W' (some rb) ∧ Died e := by
  have H := Lib.hid (isTest_of (decide_eq_true hm))
  clear hm
  go_enter Tryd.func100, Tryd.ntmps100
  go_wp2_with (first
    | (go_at_call 98; refine (ptake_ok [a, b, c] rb 3 (by simp) W h).mono ?_; rintro e W1 ⟨rfl, hr, hg⟩; have hE1 := hE.grown hg hN)
    | (go_at_call 122; refine (valid15 _ _ hE1.1).mono ?_; rintro e W2 ⟨rfl, hb⟩; rw [H.out]; have hE2 := hE1.below hb hE1.lt; obtain ⟨T, x, ce⟩ := hE2.err; have hr2 := hr.grown (below_grown hb none) (by simp); have hg2 := grown_trans hg (below_grown hb (some rb)))
    | (go_at_call 102; refine (skip_nil hr2 hE2).mono ?_; rintro e W3 ⟨⟨T3, x3, rfl⟩, rfl⟩))
  exact ⟨rfl, hg2, ⟨T3, x3, rfl⟩⟩
set_option maxHeartbeats 1000000 in
theorem test_miss {a b c d : UInt8} {r : List UInt8} (hm : [a, b, c] ∈ tests) (hd : ¬ d = 93) {rb : Nat} {W : World} (h : Rst W rb (a :: b :: c :: d :: r)) {N : Nat} (hE : Laid3 N W) (hN : N ≤ rb) :
    Calls Tryd.prog 100 #[.pointer (some ⟨rb, 0, none⟩)] W fun e W' => W.grownBy W' (some rb) ∧ Died e := by
  have H := Lib.hid (isTest_of (decide_eq_true hm))
  clear hm
  go_enter Tryd.func100, Tryd.ntmps100
  go_wp2_with (first
    | (go_at_call 98; refine (ptake_ok (a :: b :: c :: d :: r) rb 3 (by simp) W h).mono ?_; rintro e W1 ⟨rfl, hr, hg⟩; have hE1 := hE.grown hg hN)
    | (go_at_call 122; refine (valid15 _ _ hE1.1).mono ?_; rintro e W2 ⟨rfl, hb⟩; rw [H.out]; have hE2 := hE1.below hb hE1.lt; obtain ⟨T, x, ce⟩ := hE2.err; have hr2 := hr.grown (below_grown hb none) (by simp); have hg2 := grown_trans hg (below_grown hb (some rb)))
    | (go_at_call 102; refine (skip_miss rfl hd hr2 hE2 hN).mono ?_; rintro e W3 ⟨⟨T3, x3, rfl⟩, hg3⟩))
  exact ⟨rfl, grown_trans hg2 hg3, ⟨T3, x3, rfl⟩⟩
theorem test_tx (a b c : UInt8) : (⟨#[91]⟩ : ByteArray) ++ ⟨#[a, b, c]⟩ ++ ⟨#[93]⟩ = ⟨#[91, a, b, c, 93]⟩ := by
  apply ByteArray.ext
  simp [ByteArray.data_append]
set_option maxHeartbeats 1000000 in
theorem test_hit {a b c : UInt8} {r : List UInt8} (hm : [a, b, c] ∈ tests) {rb : Nat} {W : World} (h : Rst W rb (a :: b :: c :: 93 :: r)) {N : Nat} (hE : Laid3 N W) (hN : N ≤ rb) :
    Calls Tryd.prog 100 #[.pointer (some ⟨rb, 0, none⟩)] W fun e W' => W.grownBy W' (some rb) ∧ e = .returned (.iface 133 (.string ⟨#[91, a, b, c, 93]⟩)) ∧ Rst W' rb r := by
  have H := Lib.hid (isTest_of (decide_eq_true hm))
  have HT := Lib.hid (test_tx a b c)
  clear hm
  go_enter Tryd.func100, Tryd.ntmps100
  go_wp2_with (first
    | (go_at_call 98; refine (ptake_ok (a :: b :: c :: 93 :: r) rb 3 (by simp) W h).mono ?_; rintro e W1 ⟨rfl, hr, hg⟩; have hE1 := hE.grown hg hN)
    | (go_at_call 122; refine (valid15 _ _ hE1.1).mono ?_; rintro e W2 ⟨rfl, hb⟩; rw [H.out]; have hE2 := hE1.below hb hE1.lt; obtain ⟨T, x, ce⟩ := hE2.err; have hr2 := hr.grown (below_grown hb none) (by simp); have hg2 := grown_trans hg (below_grown hb (some rb)))
    | (go_at_call 102; refine (skip_hit rfl hr2).mono ?_; rintro e W3 ⟨rfl, hr3, hg3⟩))
  go_ret
  exact ⟨grown_trans hg2 hg3, by rw [← HT.out]; rfl, hr3⟩
end Go.Proofs.YtgkgkaapjljpcaaDoor

namespace Go.Proofs.YtgkgkaapjljpcaaDoor
open Go.ChangeShapes Go.WideShapes Go.ChangeAt Go.RowKit Go.Shelf
attribute [local go_sem] Oper.semAt_some
set_option maxRecDepth 100000

/-- The reader reads programs whose texts are no longer than n. -/
def PReads (rb n N : Nat) : Prop := ∀ (l : List UInt8) (W : World), l.length ≤ n → Rst W rb l → Laid3 N W → Calls Tryd.prog 68 #[.pointer (some ⟨rb, 0, none⟩)] W (PTo n l rb W)

theorem pto_none {n : Nat} {l : List UInt8} (h : rd n l = none) {rb : Nat} {W : World} {e : Ending} {W' : World} (hg : W.grownBy W' (some rb)) (he : Died e) : PTo n l rb W e W' := by
  refine ⟨hg, ?_⟩
  rw [h]
  exact he
theorem pto_some {n : Nat} {l r : List UInt8} {nd : Node} (h : rd n l = some (nd, r)) {rb : Nat} {W : World} {e : Ending} {W' : World} (hg : W.grownBy W' (some rb)) (he : e = .returned (nodeV nd)) (hr : Rst W' rb r) : PTo n l rb W e W' := by
  refine ⟨hg, ?_⟩
  rw [h]
  exact ⟨he, hr⟩

theorem prog_nil (n : Nat) {rb : Nat} {W : World} (h : Rst W rb []) {N : Nat} (hE : Laid3 N W) :
    Calls Tryd.prog 68 #[.pointer (some ⟨rb, 0, none⟩)] W (PTo n [] rb W) := by
  have HR := Lib.hid (show rd n [] = none by cases n <;> simp [rd])
  go_enter Tryd.func68, Tryd.ntmps68
  go_wp2_with (go_at_call 98; refine (ptake1_nil h hE).mono ?_; rintro e W1 ⟨⟨T, x, rfl⟩, rfl⟩)
  exact ⟨rfl, pto_none HR.out (grown_refl _ _) ⟨T, x, rfl⟩⟩

set_option maxHeartbeats 1000000 in
theorem prog_dot (n : Nat) {c : UInt8} {r : List UInt8} (hc : c = 46 ∨ c = 33) {rb : Nat} {W : World} (h : Rst W rb (c :: r)) {N : Nat} (hE : Laid3 N W) (hN : N ≤ rb) :
    Calls Tryd.prog 68 #[.pointer (some ⟨rb, 0, none⟩)] W (PTo (n + 1) (c :: r) rb W) := by
  have HR := Lib.hid (show rd (n + 1) (c :: r) = some (.atom [c], r) by rw [rd.eq_def]; dsimp only; rw [if_pos hc])
  rcases hc with rfl | rfl <;>
  · go_enter Tryd.func68, Tryd.ntmps68
    go_wp2_with (go_at_call 98; refine (ptake1 rfl h).mono ?_; rintro e W1 ⟨rfl, hr, hg⟩; have hE1 := hE.grown hg hN; obtain ⟨T1, x1, ce⟩ := hE1.err)
    go_ret
    exact pto_some HR.out hg rfl hr

set_option maxHeartbeats 1000000 in
theorem prog_asg (n : Nat) {c : UInt8} {r : List UInt8} (hc : c = 120 ∨ c = 121) {rb : Nat} {W : World} (h : Rst W rb (c :: r)) {N : Nat} (hE : Laid3 N W) (hN : N ≤ rb) :
    Calls Tryd.prog 68 #[.pointer (some ⟨rb, 0, none⟩)] W (PTo (n + 1) (c :: r) rb W) := by
  have hne : ¬ (c = 46 ∨ c = 33) := by rcases hc with rfl | rfl <;> decide
  cases r with
  | nil =>
    have HR := Lib.hid (show rd (n + 1) [c] = none by rw [rd.eq_def]; dsimp only; rw [if_neg hne, if_pos hc])
    clear hne
    rcases hc with rfl | rfl <;>
    · go_enter Tryd.func68, Tryd.ntmps68
      go_wp2_with (first
        | (go_at_call 98; refine (ptake1 rfl h).mono ?_; rintro e W1 ⟨rfl, hr, hg⟩; have hE1 := hE.grown hg hN; obtain ⟨T1, x1, ce⟩ := hE1.err)
        | (go_at_call 99; refine (asg_nil _ hr hE1).mono ?_; rintro e W2 ⟨⟨T, x, rfl⟩, rfl⟩))
      exact ⟨rfl, pto_none HR.out hg ⟨T, x, rfl⟩⟩
  | cons d r =>
    by_cases hm : [c, d] ∈ twos
    · have HR := Lib.hid (show rd (n + 1) (c :: d :: r) = some (.atom [c, d], r) by rw [rd.eq_def]; dsimp only; rw [if_neg hne, if_pos hc, if_pos hm])
      have HM := Lib.hid hm
      clear hne hm
      rcases hc with rfl | rfl <;>
      · go_enter Tryd.func68, Tryd.ntmps68
        go_wp2_with (first
          | (go_at_call 98; refine (ptake1 rfl h).mono ?_; rintro e W1 ⟨rfl, hr, hg⟩; have hE1 := hE.grown hg hN; obtain ⟨T1, x1, ce⟩ := hE1.err)
          | (go_at_call 99; refine (asg_hit _ d r hr hE1 hN HM.out).mono ?_; rintro e W2 ⟨hg2, rfl, hr2⟩))
        go_ret
        exact pto_some HR.out (grown_trans hg hg2) rfl hr2
    · have HR := Lib.hid (show rd (n + 1) (c :: d :: r) = none by rw [rd.eq_def]; dsimp only; rw [if_neg hne, if_pos hc, if_neg hm])
      have HM := Lib.hid hm
      clear hne hm
      rcases hc with rfl | rfl <;>
      · go_enter Tryd.func68, Tryd.ntmps68
        go_wp2_with (first
          | (go_at_call 98; refine (ptake1 rfl h).mono ?_; rintro e W1 ⟨rfl, hr, hg⟩; have hE1 := hE.grown hg hN; obtain ⟨T1, x1, ce⟩ := hE1.err)
          | (go_at_call 99; refine (asg_miss _ d r hr hE1 hN HM.out).mono ?_; rintro e W2 ⟨hg2, ⟨T, x, rfl⟩⟩))
        exact ⟨rfl, pto_none HR.out (grown_trans hg hg2) ⟨T, x, rfl⟩⟩

theorem rdp_test (n : Nat) (r : List UInt8) : rd (n + 1) (91 :: r) = match r with
    | a :: b :: d :: e :: r' => if e = 93 ∧ [a, b, d] ∈ tests then some (.atom [91, a, b, d, 93], r') else none
    | _ => none := by
  rw [rd.eq_def]
  dsimp only
  rw [if_neg (by decide), if_neg (by decide), if_pos rfl]
  rfl

set_option maxHeartbeats 1000000 in
theorem prog_test_short (n : Nat) {l : List UInt8} (hl : l.length < 3) {rb : Nat} {W : World} (h : Rst W rb (91 :: l)) {N : Nat} (hE : Laid3 N W) (hN : N ≤ rb) :
    Calls Tryd.prog 68 #[.pointer (some ⟨rb, 0, none⟩)] W (PTo (n + 1) (91 :: l) rb W) := by
  have HR := Lib.hid (show rd (n + 1) (91 :: l) = none by rw [rdp_test]; match l, hl with | [], _ => rfl | [_], _ => rfl | [_, _], _ => rfl)
  go_enter Tryd.func68, Tryd.ntmps68
  go_wp2_with (first
    | (go_at_call 98; refine (ptake1 rfl h).mono ?_; rintro e W1 ⟨rfl, hr, hg⟩; have hE1 := hE.grown hg hN; obtain ⟨T1, x1, ce⟩ := hE1.err)
    | (go_at_call 100; refine (test_short hl hr hE1).mono ?_; rintro e W2 ⟨⟨T, x, rfl⟩, rfl⟩))
  exact ⟨rfl, pto_none HR.out hg ⟨T, x, rfl⟩⟩
set_option maxHeartbeats 1000000 in
theorem prog_test_wrong (n : Nat) {a b c : UInt8} {r : List UInt8} (hm : ¬ [a, b, c] ∈ tests) {rb : Nat} {W : World} (h : Rst W rb (91 :: a :: b :: c :: r)) {N : Nat} (hE : Laid3 N W) (hN : N ≤ rb) :
    Calls Tryd.prog 68 #[.pointer (some ⟨rb, 0, none⟩)] W (PTo (n + 1) (91 :: a :: b :: c :: r) rb W) := by
  have HR := Lib.hid (show rd (n + 1) (91 :: a :: b :: c :: r) = none by rw [rdp_test]; cases r with | nil => rfl | cons e r => dsimp only; rw [if_neg (fun h => hm h.2)])
  go_enter Tryd.func68, Tryd.ntmps68
  go_wp2_with (first
    | (go_at_call 98; refine (ptake1 rfl h).mono ?_; rintro e W1 ⟨rfl, hr, hg⟩; have hE1 := hE.grown hg hN; obtain ⟨T1, x1, ce⟩ := hE1.err)
    | (go_at_call 100; refine (test_wrong hm hr hE1 hN).mono ?_; rintro e W2 ⟨hg2, ⟨T, x, rfl⟩⟩))
  exact ⟨rfl, pto_none HR.out (grown_trans hg hg2) ⟨T, x, rfl⟩⟩
set_option maxHeartbeats 1000000 in
theorem prog_test_open (n : Nat) {a b c : UInt8} (hm : [a, b, c] ∈ tests) {rb : Nat} {W : World} (h : Rst W rb (91 :: [a, b, c])) {N : Nat} (hE : Laid3 N W) (hN : N ≤ rb) :
    Calls Tryd.prog 68 #[.pointer (some ⟨rb, 0, none⟩)] W (PTo (n + 1) (91 :: [a, b, c]) rb W) := by
  have HR := Lib.hid (show rd (n + 1) (91 :: [a, b, c]) = none by rw [rdp_test])
  go_enter Tryd.func68, Tryd.ntmps68
  go_wp2_with (first
    | (go_at_call 98; refine (ptake1 rfl h).mono ?_; rintro e W1 ⟨rfl, hr, hg⟩; have hE1 := hE.grown hg hN; obtain ⟨T1, x1, ce⟩ := hE1.err)
    | (go_at_call 100; refine (test_open hm hr hE1 hN).mono ?_; rintro e W2 ⟨hg2, ⟨T, x, rfl⟩⟩))
  exact ⟨rfl, pto_none HR.out (grown_trans hg hg2) ⟨T, x, rfl⟩⟩
set_option maxHeartbeats 1000000 in
theorem prog_test_miss (n : Nat) {a b c d : UInt8} {r : List UInt8} (hm : [a, b, c] ∈ tests) (hd : ¬ d = 93) {rb : Nat} {W : World} (h : Rst W rb (91 :: a :: b :: c :: d :: r)) {N : Nat} (hE : Laid3 N W) (hN : N ≤ rb) :
    Calls Tryd.prog 68 #[.pointer (some ⟨rb, 0, none⟩)] W (PTo (n + 1) (91 :: a :: b :: c :: d :: r) rb W) := by
  have HR := Lib.hid (show rd (n + 1) (91 :: a :: b :: c :: d :: r) = none by rw [rdp_test]; dsimp only; rw [if_neg (fun h => hd h.1)])
  go_enter Tryd.func68, Tryd.ntmps68
  go_wp2_with (first
    | (go_at_call 98; refine (ptake1 rfl h).mono ?_; rintro e W1 ⟨rfl, hr, hg⟩; have hE1 := hE.grown hg hN; obtain ⟨T1, x1, ce⟩ := hE1.err)
    | (go_at_call 100; refine (test_miss hm hd hr hE1 hN).mono ?_; rintro e W2 ⟨hg2, ⟨T, x, rfl⟩⟩))
  exact ⟨rfl, pto_none HR.out (grown_trans hg hg2) ⟨T, x, rfl⟩⟩
set_option maxHeartbeats 1000000 in
theorem prog_test_hit (n : Nat) {a b c : UInt8} {r : List UInt8} (hm : [a, b, c] ∈ tests) {rb : Nat} {W : World} (h : Rst W rb (91 :: a :: b :: c :: 93 :: r)) {N : Nat} (hE : Laid3 N W) (hN : N ≤ rb) :
    Calls Tryd.prog 68 #[.pointer (some ⟨rb, 0, none⟩)] W (PTo (n + 1) (91 :: a :: b :: c :: 93 :: r) rb W) := by
  have HR := Lib.hid (show rd (n + 1) (91 :: a :: b :: c :: 93 :: r) = some (.atom [91, a, b, c, 93], r) by rw [rdp_test]; dsimp only; rw [if_pos ⟨rfl, hm⟩])
  go_enter Tryd.func68, Tryd.ntmps68
  go_wp2_with (first
    | (go_at_call 98; refine (ptake1 rfl h).mono ?_; rintro e W1 ⟨rfl, hr, hg⟩; have hE1 := hE.grown hg hN; obtain ⟨T1, x1, ce⟩ := hE1.err)
    | (go_at_call 100; refine (test_hit hm hr hE1 hN).mono ?_; rintro e W2 ⟨hg2, rfl, hr2⟩))
  go_ret
  exact pto_some HR.out (grown_trans hg hg2) rfl hr2
theorem prog_test (n : Nat) {l : List UInt8} {rb : Nat} {W : World} (h : Rst W rb (91 :: l)) {N : Nat} (hE : Laid3 N W) (hN : N ≤ rb) :
    Calls Tryd.prog 68 #[.pointer (some ⟨rb, 0, none⟩)] W (PTo (n + 1) (91 :: l) rb W) := by
  match l, h with
  | [], h => exact prog_test_short n (by simp) h hE hN
  | [_], h => exact prog_test_short n (by simp) h hE hN
  | [_, _], h => exact prog_test_short n (by simp) h hE hN
  | [a, b, c], h =>
    by_cases hm : [a, b, c] ∈ tests
    · exact prog_test_open n hm h hE hN
    · exact prog_test_wrong n hm h hE hN
  | a :: b :: c :: d :: r, h =>
    by_cases hm : [a, b, c] ∈ tests
    · by_cases hd : d = 93
      · subst hd; exact prog_test_hit n hm h hE hN
      · exact prog_test_miss n hm hd h hE hN
    · exact prog_test_wrong n hm h hE hN

set_option maxHeartbeats 1000000 in
theorem prog_other (n : Nat) {c : UInt8} {r : List UInt8} (h1 : ¬ c = 46) (h2 : ¬ c = 33) (h3 : ¬ c = 120) (h4 : ¬ c = 121) (h5 : ¬ c = 91) (h6 : ¬ c = 123) (h7 : ¬ c = 40) {rb : Nat} {W : World} (h : Rst W rb (c :: r)) {N : Nat} (hE : Laid3 N W) (hN : N ≤ rb) :
    Calls Tryd.prog 68 #[.pointer (some ⟨rb, 0, none⟩)] W (PTo (n + 1) (c :: r) rb W) := by
  have HR := Lib.hid (show rd (n + 1) (c :: r) = none by
    rw [rd.eq_def]
    dsimp only
    rw [if_neg (by rintro (h | h) <;> contradiction), if_neg (by rintro (h | h) <;> contradiction), if_neg h5, if_neg h6, if_neg h7])
  have e1 : (c == 46) = false := by simpa using h1
  have e2 : (c == 33) = false := by simpa using h2
  have e3 : (c == 120) = false := by simpa using h3
  have e4 : (c == 121) = false := by simpa using h4
  have e5 : (c == 91) = false := by simpa using h5
  have e6 : (c == 123) = false := by simpa using h6
  have e7 : (c == 40) = false := by simpa using h7
  clear h1 h2 h3 h4 h5 h6 h7
  go_enter Tryd.func68, Tryd.ntmps68
  go_wp2_with (go_at_call 98; refine (ptake1 rfl h).mono ?_; rintro e W1 ⟨rfl, hr, hg⟩; have hE1 := hE.grown hg hN; obtain ⟨T1, x1, ce⟩ := hE1.err)
  exact ⟨rfl, pto_none HR.out hg ⟨T1, x1, rfl⟩⟩

/-! ### A loop -/
theorem rdp_loop (n : Nat) (r : List UInt8) : rd (n + 1) (123 :: r) = match rd n r with
    | some (p, e :: r') => if e = 125 then some (.loop p, r') else none
    | _ => none := by
  rw [rd.eq_def]
  dsimp only
  rw [if_neg (by decide), if_neg (by decide), if_neg (by decide), if_pos rfl]
  rfl
set_option maxHeartbeats 2000000 in
theorem prog_loop (n : Nat) {r : List UInt8} (hl : r.length ≤ n) {rb : Nat} {N : Nat} (IH : PReads rb n N) {W : World} (h : Rst W rb (123 :: r)) (hE : Laid3 N W) (hN : N ≤ rb) :
    Calls Tryd.prog 68 #[.pointer (some ⟨rb, 0, none⟩)] W (PTo (n + 1) (123 :: r) rb W) := by
  cases hq : rd n r with
  | none =>
    have HQ := Lib.hid hq
    have HR := Lib.hid (show rd (n + 1) (123 :: r) = none by rw [rdp_loop, hq])
    clear hq
    go_enter Tryd.func68, Tryd.ntmps68
    go_wp2_with (first
      | (go_at_call 98; refine (ptake1 rfl h).mono ?_; rintro e W1 ⟨rfl, hr, hg⟩; have hE1 := hE.grown hg hN; obtain ⟨T1, x1, ce⟩ := hE1.err)
      | (go_at_call 68; refine (IH r _ hl hr hE1).mono ?_; rintro e W2 ⟨hg2, hm⟩; rw [HQ.out] at hm; obtain ⟨T, x, rfl⟩ := hm))
    exact ⟨rfl, pto_none HR.out (grown_trans hg hg2) ⟨T, x, rfl⟩⟩
  | some y =>
    obtain ⟨nd, r2⟩ := y
    obtain ⟨T0, x0, hv⟩ := nodeV_iface nd
    have HQ := Lib.hid hq
    have HV := Lib.hid hv
    cases r2 with
    | nil =>
      have HR := Lib.hid (show rd (n + 1) (123 :: r) = none by rw [rdp_loop, hq])
      clear hq hv
      go_enter Tryd.func68, Tryd.ntmps68
      go_wp2_with (first
        | (go_at_call 98; refine (ptake1 rfl h).mono ?_; rintro e W1 ⟨rfl, hr, hg⟩; have hE1 := hE.grown hg hN; obtain ⟨T1, x1, ce⟩ := hE1.err)
        | (go_at_call 68; refine (IH r _ hl hr hE1).mono ?_; rintro e W2 ⟨hg2, hm⟩; rw [HQ.out] at hm; obtain ⟨rfl, hr2⟩ := hm; have hE2 := hE1.grown hg2 hN; rw [HV.out])
        | (go_at_call 102; refine (skip_nil hr2 hE2).mono ?_; rintro e W3 ⟨⟨T3, x3, rfl⟩, rfl⟩))
      exact ⟨rfl, pto_none HR.out (grown_trans hg hg2) ⟨T3, x3, rfl⟩⟩
    | cons d r3 =>
      by_cases hd : d = 125
      · subst hd
        have HR := Lib.hid (show rd (n + 1) (123 :: r) = some (.loop nd, r3) by rw [rdp_loop, hq]; dsimp only; rw [if_pos rfl])
        clear hq hv
        go_enter Tryd.func68, Tryd.ntmps68
        go_wp2_with (first
          | (go_at_call 98; refine (ptake1 rfl h).mono ?_; rintro e W1 ⟨rfl, hr, hg⟩; have hE1 := hE.grown hg hN; obtain ⟨T1, x1, ce⟩ := hE1.err)
          | (go_at_call 68; refine (IH r _ hl hr hE1).mono ?_; rintro e W2 ⟨hg2, hm⟩; rw [HQ.out] at hm; obtain ⟨rfl, hr2⟩ := hm; have hE2 := hE1.grown hg2 hN; rw [HV.out])
          | (go_at_call 102; refine (skip_hit rfl hr2).mono ?_; rintro e W3 ⟨rfl, hr3, hg3⟩))
        go_ret
        exact pto_some HR.out (grown_trans (grown_trans hg hg2) hg3) (by rw [nodeV, HV.out]; rfl) hr3
      · have HR := Lib.hid (show rd (n + 1) (123 :: r) = none by rw [rdp_loop, hq]; dsimp only; rw [if_neg hd])
        have HD := Lib.hid hd
        clear hq hv hd
        go_enter Tryd.func68, Tryd.ntmps68
        go_wp2_with (first
          | (go_at_call 98; refine (ptake1 rfl h).mono ?_; rintro e W1 ⟨rfl, hr, hg⟩; have hE1 := hE.grown hg hN; obtain ⟨T1, x1, ce⟩ := hE1.err)
          | (go_at_call 68; refine (IH r _ hl hr hE1).mono ?_; rintro e W2 ⟨hg2, hm⟩; rw [HQ.out] at hm; obtain ⟨rfl, hr2⟩ := hm; have hE2 := hE1.grown hg2 hN; rw [HV.out])
          | (go_at_call 102; refine (skip_miss rfl HD.out hr2 hE2 hN).mono ?_; rintro e W3 ⟨⟨T3, x3, rfl⟩, hg3⟩))
        exact ⟨rfl, pto_none HR.out (grown_trans (grown_trans hg hg2) hg3) ⟨T3, x3, rfl⟩⟩
end Go.Proofs.YtgkgkaapjljpcaaDoor

namespace Go.Proofs.YtgkgkaapjljpcaaDoor
open Go.ChangeShapes Go.WideShapes Go.ChangeAt Go.RowKit Go.Shelf
attribute [local go_sem] Oper.semAt_some
set_option maxRecDepth 100000

theorem rd_two (n : Nat) (r : List UInt8) : rd (n + 1) (40 :: r) = match rd n r with
    | some (p, s :: r') => if s = 59 ∨ s = 124 then
        match rd n r' with
        | some (q, e :: r'') => if e = 41 then some (.pair s p q, r'') else none
        | _ => none
      else none
    | _ => none := by
  rw [rd.eq_def]
  dsimp only
  rw [if_neg (by decide), if_neg (by decide), if_neg (by decide), if_neg (by decide), if_pos rfl]
  rfl

set_option maxHeartbeats 2000000 in
theorem ppair_none (n : Nat) {r : List UInt8} (hl : r.length ≤ n) {rb : Nat} {N : Nat} (IH : PReads rb n N) {W : World} (hr : Rst W rb r) (hE : Laid3 N W) (_hN : N ≤ rb) (hq : rd n r = none) :
    Calls Tryd.prog 101 #[.pointer (some ⟨rb, 0, none⟩)] W fun e W' => W.grownBy W' (some rb) ∧ Died e := by
  have HQ := Lib.hid hq
  clear hq
  go_enter Tryd.func101, Tryd.ntmps101
  go_wp2_with (first
    | (go_at_call 68; refine (IH r _ hl hr hE).mono ?_; rintro e W2 ⟨hg2, hm⟩; rw [HQ.out] at hm; obtain ⟨T, x, rfl⟩ := hm))
  exact ⟨rfl, hg2, ⟨T, x, rfl⟩⟩
set_option maxHeartbeats 2000000 in
theorem ppair_nosign (n : Nat) {r : List UInt8} (hl : r.length ≤ n) {rb : Nat} {N : Nat} (IH : PReads rb n N) {W : World} (hr : Rst W rb r) (hE : Laid3 N W) (hN : N ≤ rb) {p : Node} (hq : rd n r = some (p, [])) :
    Calls Tryd.prog 101 #[.pointer (some ⟨rb, 0, none⟩)] W fun e W' => W.grownBy W' (some rb) ∧ Died e := by
  obtain ⟨T0, x0, hv⟩ := nodeV_iface p
  have HV := Lib.hid hv
  have HQ := Lib.hid hq
  clear hv hq
  go_enter Tryd.func101, Tryd.ntmps101
  go_wp2_with (first
    | (go_at_call 68; refine (IH r _ hl hr hE).mono ?_; rintro e W2 ⟨hg2, hm⟩; rw [HQ.out] at hm; obtain ⟨rfl, hr2⟩ := hm; have hE2 := hE.grown hg2 hN; rw [HV.out])
    | (go_at_call 98; refine (ptake1_nil hr2 hE2).mono ?_; rintro e W3 ⟨⟨T, x, rfl⟩, rfl⟩))
  exact ⟨rfl, hg2, ⟨T, x, rfl⟩⟩
set_option maxHeartbeats 2000000 in
theorem ppair_second (n : Nat) {r : List UInt8} (hl : r.length ≤ n) {rb : Nat} {N : Nat} (IH : PReads rb n N) {W : World} (hr : Rst W rb r) (hE : Laid3 N W) (hN : N ≤ rb) {p : Node} {s : UInt8} {r2 : List UInt8} (hq : rd n r = some (p, s :: r2)) (hq2 : rd n r2 = none) :
    Calls Tryd.prog 101 #[.pointer (some ⟨rb, 0, none⟩)] W fun e W' => W.grownBy W' (some rb) ∧ Died e := by
  have hl2 : r2.length ≤ n := by
    have h1 := (rd_text _ _ _ _ hq).1
    have := congrArg List.length h1
    simp at this
    omega
  obtain ⟨T0, x0, hv⟩ := nodeV_iface p
  have HV := Lib.hid hv
  have HQ := Lib.hid hq
  clear hv hq
  have HQ2 := Lib.hid hq2
  clear hq2
  go_enter Tryd.func101, Tryd.ntmps101
  go_wp2_with (first
    | (go_at_call 68; refine (IH r _ hl hr hE).mono ?_; rintro e W2 ⟨hg2, hm⟩; rw [HQ.out] at hm; obtain ⟨rfl, hr2⟩ := hm; have hE2 := hE.grown hg2 hN; rw [HV.out])
    | (go_at_call 98; refine (ptake1 rfl hr2).mono ?_; rintro e W3 ⟨rfl, hr3, hg3⟩; have hE3 := hE2.grown hg3 hN)
    | (go_at_call 68; refine (IH r2 _ hl2 hr3 hE3).mono ?_; rintro e W4 ⟨hg4, hm⟩; rw [HQ2.out] at hm; obtain ⟨T, x, rfl⟩ := hm))
  exact ⟨rfl, grown_trans (grown_trans hg2 hg3) hg4, ⟨T, x, rfl⟩⟩
set_option maxHeartbeats 2000000 in
theorem ppair_open (n : Nat) {r : List UInt8} (hl : r.length ≤ n) {rb : Nat} {N : Nat} (IH : PReads rb n N) {W : World} (hr : Rst W rb r) (hE : Laid3 N W) (hN : N ≤ rb) {p : Node} {s : UInt8} {r2 : List UInt8} (hq : rd n r = some (p, s :: r2)) {q : Node} (hq2 : rd n r2 = some (q, [])) :
    Calls Tryd.prog 101 #[.pointer (some ⟨rb, 0, none⟩)] W fun e W' => W.grownBy W' (some rb) ∧ Died e := by
  have hl2 : r2.length ≤ n := by
    have h1 := (rd_text _ _ _ _ hq).1
    have := congrArg List.length h1
    simp at this
    omega
  obtain ⟨T0, x0, hv⟩ := nodeV_iface p
  have HV := Lib.hid hv
  have HQ := Lib.hid hq
  clear hv hq
  obtain ⟨T9, x9, hv2⟩ := nodeV_iface q
  have HV2 := Lib.hid hv2
  have HQ2 := Lib.hid hq2
  clear hv2 hq2
  go_enter Tryd.func101, Tryd.ntmps101
  go_wp2_with (first
    | (go_at_call 68; refine (IH r _ hl hr hE).mono ?_; rintro e W2 ⟨hg2, hm⟩; rw [HQ.out] at hm; obtain ⟨rfl, hr2⟩ := hm; have hE2 := hE.grown hg2 hN; rw [HV.out])
    | (go_at_call 98; refine (ptake1 rfl hr2).mono ?_; rintro e W3 ⟨rfl, hr3, hg3⟩; have hE3 := hE2.grown hg3 hN)
    | (go_at_call 68; refine (IH r2 _ hl2 hr3 hE3).mono ?_; rintro e W4 ⟨hg4, hm⟩; rw [HQ2.out] at hm; obtain ⟨rfl, hr4⟩ := hm; have hE4 := hE3.grown hg4 hN; rw [HV2.out])
    | (go_at_call 102; refine (skip_nil hr4 hE4).mono ?_; rintro e W5 ⟨⟨T, x, rfl⟩, rfl⟩))
  exact ⟨rfl, grown_trans (grown_trans hg2 hg3) hg4, ⟨T, x, rfl⟩⟩
set_option maxHeartbeats 2000000 in
theorem ppair_miss (n : Nat) {r : List UInt8} (hl : r.length ≤ n) {rb : Nat} {N : Nat} (IH : PReads rb n N) {W : World} (hr : Rst W rb r) (hE : Laid3 N W) (hN : N ≤ rb) {p : Node} {s : UInt8} {r2 : List UInt8} (hq : rd n r = some (p, s :: r2)) {q : Node} {d : UInt8} {r3 : List UInt8} (hq2 : rd n r2 = some (q, d :: r3)) (hd : ¬ d = 41) :
    Calls Tryd.prog 101 #[.pointer (some ⟨rb, 0, none⟩)] W fun e W' => W.grownBy W' (some rb) ∧ Died e := by
  have hl2 : r2.length ≤ n := by
    have h1 := (rd_text _ _ _ _ hq).1
    have := congrArg List.length h1
    simp at this
    omega
  obtain ⟨T0, x0, hv⟩ := nodeV_iface p
  have HV := Lib.hid hv
  have HQ := Lib.hid hq
  clear hv hq
  obtain ⟨T9, x9, hv2⟩ := nodeV_iface q
  have HV2 := Lib.hid hv2
  have HQ2 := Lib.hid hq2
  clear hv2 hq2
  have HD := Lib.hid hd
  clear hd
  go_enter Tryd.func101, Tryd.ntmps101
  go_wp2_with (first
    | (go_at_call 68; refine (IH r _ hl hr hE).mono ?_; rintro e W2 ⟨hg2, hm⟩; rw [HQ.out] at hm; obtain ⟨rfl, hr2⟩ := hm; have hE2 := hE.grown hg2 hN; rw [HV.out])
    | (go_at_call 98; refine (ptake1 rfl hr2).mono ?_; rintro e W3 ⟨rfl, hr3, hg3⟩; have hE3 := hE2.grown hg3 hN)
    | (go_at_call 68; refine (IH r2 _ hl2 hr3 hE3).mono ?_; rintro e W4 ⟨hg4, hm⟩; rw [HQ2.out] at hm; obtain ⟨rfl, hr4⟩ := hm; have hE4 := hE3.grown hg4 hN; rw [HV2.out])
    | (go_at_call 102; refine (skip_miss rfl HD.out hr4 hE4 hN).mono ?_; rintro e W5 ⟨⟨T, x, rfl⟩, hg5⟩))
  exact ⟨rfl, grown_trans (grown_trans (grown_trans hg2 hg3) hg4) hg5, ⟨T, x, rfl⟩⟩
set_option maxHeartbeats 2000000 in
theorem ppair_other (n : Nat) {r : List UInt8} (hl : r.length ≤ n) {rb : Nat} {N : Nat} (IH : PReads rb n N) {W : World} (hr : Rst W rb r) (hE : Laid3 N W) (hN : N ≤ rb) {p : Node} {s : UInt8} {r2 : List UInt8} (hq : rd n r = some (p, s :: r2)) {q : Node} {r3 : List UInt8} (hq2 : rd n r2 = some (q, 41 :: r3)) (hs1 : ¬ s = 59) (hs2 : ¬ s = 124) :
    Calls Tryd.prog 101 #[.pointer (some ⟨rb, 0, none⟩)] W fun e W' => W.grownBy W' (some rb) ∧ Died e := by
  have hl2 : r2.length ≤ n := by
    have h1 := (rd_text _ _ _ _ hq).1
    have := congrArg List.length h1
    simp at this
    omega
  obtain ⟨T0, x0, hv⟩ := nodeV_iface p
  have HV := Lib.hid hv
  have HQ := Lib.hid hq
  clear hv hq
  obtain ⟨T9, x9, hv2⟩ := nodeV_iface q
  have HV2 := Lib.hid hv2
  have HQ2 := Lib.hid hq2
  clear hv2 hq2
  have f1 : (s == 59) = false := by simpa using hs1
  have f2 : (s == 124) = false := by simpa using hs2
  clear hs1 hs2
  go_enter Tryd.func101, Tryd.ntmps101
  go_wp2_with (first
    | (go_at_call 68; refine (IH r _ hl hr hE).mono ?_; rintro e W2 ⟨hg2, hm⟩; rw [HQ.out] at hm; obtain ⟨rfl, hr2⟩ := hm; have hE2 := hE.grown hg2 hN; rw [HV.out])
    | (go_at_call 98; refine (ptake1 rfl hr2).mono ?_; rintro e W3 ⟨rfl, hr3, hg3⟩; have hE3 := hE2.grown hg3 hN)
    | (go_at_call 68; refine (IH r2 _ hl2 hr3 hE3).mono ?_; rintro e W4 ⟨hg4, hm⟩; rw [HQ2.out] at hm; obtain ⟨rfl, hr4⟩ := hm; have hE4 := hE3.grown hg4 hN; rw [HV2.out])
    | (go_at_call 102; refine (skip_hit rfl hr4).mono ?_; rintro e W5 ⟨rfl, hr5, hg5⟩; obtain ⟨T5, x5, ce⟩ := (hE4.grown hg5 hN).err))
  exact ⟨rfl, grown_trans (grown_trans (grown_trans hg2 hg3) hg4) hg5, ⟨T5, x5, rfl⟩⟩
set_option maxHeartbeats 2000000 in
theorem ppair_seq (n : Nat) {r : List UInt8} (hl : r.length ≤ n) {rb : Nat} {N : Nat} (IH : PReads rb n N) {W : World} (hr : Rst W rb r) (hE : Laid3 N W) (hN : N ≤ rb) {p : Node} {r2 : List UInt8} (hq : rd n r = some (p, 59 :: r2)) {q : Node} {r3 : List UInt8} (hq2 : rd n r2 = some (q, 41 :: r3)) :
    Calls Tryd.prog 101 #[.pointer (some ⟨rb, 0, none⟩)] W fun e W' => W.grownBy W' (some rb) ∧ e = .returned (nodeV (.pair 59 p q)) ∧ Rst W' rb r3 := by
  have hl2 : r2.length ≤ n := by
    have h1 := (rd_text _ _ _ _ hq).1
    have := congrArg List.length h1
    simp at this
    omega
  obtain ⟨T0, x0, hv⟩ := nodeV_iface p
  have HV := Lib.hid hv
  have HQ := Lib.hid hq
  clear hv hq
  obtain ⟨T9, x9, hv2⟩ := nodeV_iface q
  have HV2 := Lib.hid hv2
  have HQ2 := Lib.hid hq2
  clear hv2 hq2
  go_enter Tryd.func101, Tryd.ntmps101
  go_wp2_with (first
    | (go_at_call 68; refine (IH r _ hl hr hE).mono ?_; rintro e W2 ⟨hg2, hm⟩; rw [HQ.out] at hm; obtain ⟨rfl, hr2⟩ := hm; have hE2 := hE.grown hg2 hN; rw [HV.out])
    | (go_at_call 98; refine (ptake1 rfl hr2).mono ?_; rintro e W3 ⟨rfl, hr3, hg3⟩; have hE3 := hE2.grown hg3 hN)
    | (go_at_call 68; refine (IH r2 _ hl2 hr3 hE3).mono ?_; rintro e W4 ⟨hg4, hm⟩; rw [HQ2.out] at hm; obtain ⟨rfl, hr4⟩ := hm; have hE4 := hE3.grown hg4 hN; rw [HV2.out])
    | (go_at_call 102; refine (skip_hit rfl hr4).mono ?_; rintro e W5 ⟨rfl, hr5, hg5⟩; obtain ⟨T5, x5, ce⟩ := (hE4.grown hg5 hN).err))
  go_ret
  exact ⟨grown_trans (grown_trans (grown_trans hg2 hg3) hg4) hg5, by rw [nodeV_seq, HV.out, HV2.out]; rfl, hr5⟩
set_option maxHeartbeats 2000000 in
theorem ppair_choice (n : Nat) {r : List UInt8} (hl : r.length ≤ n) {rb : Nat} {N : Nat} (IH : PReads rb n N) {W : World} (hr : Rst W rb r) (hE : Laid3 N W) (hN : N ≤ rb) {p : Node} {r2 : List UInt8} (hq : rd n r = some (p, 124 :: r2)) {q : Node} {r3 : List UInt8} (hq2 : rd n r2 = some (q, 41 :: r3)) :
    Calls Tryd.prog 101 #[.pointer (some ⟨rb, 0, none⟩)] W fun e W' => W.grownBy W' (some rb) ∧ e = .returned (nodeV (.pair 124 p q)) ∧ Rst W' rb r3 := by
  have hl2 : r2.length ≤ n := by
    have h1 := (rd_text _ _ _ _ hq).1
    have := congrArg List.length h1
    simp at this
    omega
  obtain ⟨T0, x0, hv⟩ := nodeV_iface p
  have HV := Lib.hid hv
  have HQ := Lib.hid hq
  clear hv hq
  obtain ⟨T9, x9, hv2⟩ := nodeV_iface q
  have HV2 := Lib.hid hv2
  have HQ2 := Lib.hid hq2
  clear hv2 hq2
  go_enter Tryd.func101, Tryd.ntmps101
  go_wp2_with (first
    | (go_at_call 68; refine (IH r _ hl hr hE).mono ?_; rintro e W2 ⟨hg2, hm⟩; rw [HQ.out] at hm; obtain ⟨rfl, hr2⟩ := hm; have hE2 := hE.grown hg2 hN; rw [HV.out])
    | (go_at_call 98; refine (ptake1 rfl hr2).mono ?_; rintro e W3 ⟨rfl, hr3, hg3⟩; have hE3 := hE2.grown hg3 hN)
    | (go_at_call 68; refine (IH r2 _ hl2 hr3 hE3).mono ?_; rintro e W4 ⟨hg4, hm⟩; rw [HQ2.out] at hm; obtain ⟨rfl, hr4⟩ := hm; have hE4 := hE3.grown hg4 hN; rw [HV2.out])
    | (go_at_call 102; refine (skip_hit rfl hr4).mono ?_; rintro e W5 ⟨rfl, hr5, hg5⟩; obtain ⟨T5, x5, ce⟩ := (hE4.grown hg5 hN).err))
  go_ret
  exact ⟨grown_trans (grown_trans (grown_trans hg2 hg3) hg4) hg5, by rw [nodeV_choice, HV.out, HV2.out]; rfl, hr5⟩

/-- What a call of the reader of two programs leaves is what the reader leaves. -/
theorem prog_pair_died (n : Nat) {r : List UInt8} {rb : Nat} {N : Nat} {W : World} (h : Rst W rb (40 :: r)) (hE : Laid3 N W) (hN : N ≤ rb) (hrd : rd (n + 1) (40 :: r) = none)
    (hc : ∀ W1, Rst W1 rb r → Laid3 N W1 → Calls Tryd.prog 101 #[.pointer (some ⟨rb, 0, none⟩)] W1 fun e W' => W1.grownBy W' (some rb) ∧ Died e) :
    Calls Tryd.prog 68 #[.pointer (some ⟨rb, 0, none⟩)] W (PTo (n + 1) (40 :: r) rb W) := by
  have HR := Lib.hid hrd
  have HC := Lib.hid hc
  clear hrd hc
  go_enter Tryd.func68, Tryd.ntmps68
  go_wp2_with (first
    | (go_at_call 98; refine (ptake1 rfl h).mono ?_; rintro e W1 ⟨rfl, hr, hg⟩; have hE1 := hE.grown hg hN)
    | (go_at_call 101; refine (HC.out _ hr hE1).mono ?_; rintro e W2 ⟨hg2, ⟨T, x, rfl⟩⟩))
  exact ⟨rfl, pto_none HR.out (grown_trans hg hg2) ⟨T, x, rfl⟩⟩
theorem prog_pair_hit (n : Nat) {r r3 : List UInt8} {nd : Node} {rb : Nat} {N : Nat} {W : World} (h : Rst W rb (40 :: r)) (hE : Laid3 N W) (hN : N ≤ rb) (hrd : rd (n + 1) (40 :: r) = some (nd, r3))
    (hc : ∀ W1, Rst W1 rb r → Laid3 N W1 → Calls Tryd.prog 101 #[.pointer (some ⟨rb, 0, none⟩)] W1 fun e W' => W1.grownBy W' (some rb) ∧ e = .returned (nodeV nd) ∧ Rst W' rb r3) :
    Calls Tryd.prog 68 #[.pointer (some ⟨rb, 0, none⟩)] W (PTo (n + 1) (40 :: r) rb W) := by
  have HR := Lib.hid hrd
  have HC := Lib.hid hc
  obtain ⟨T0, x0, hv⟩ := nodeV_iface nd
  have HV := Lib.hid hv
  clear hrd hc hv
  go_enter Tryd.func68, Tryd.ntmps68
  go_wp2_with (first
    | (go_at_call 98; refine (ptake1 rfl h).mono ?_; rintro e W1 ⟨rfl, hr, hg⟩; have hE1 := hE.grown hg hN)
    | (go_at_call 101; refine (HC.out _ hr hE1).mono ?_; rintro e W2 ⟨hg2, rfl, hr2⟩; rw [HV.out]))
  go_ret
  exact pto_some HR.out (grown_trans hg hg2) (by rw [HV.out]; rfl) hr2

theorem prog_pair (n : Nat) {r : List UInt8} (hl : r.length ≤ n) {rb : Nat} {N : Nat} (IH : PReads rb n N) {W : World} (h : Rst W rb (40 :: r)) (hE : Laid3 N W) (hN : N ≤ rb) :
    Calls Tryd.prog 68 #[.pointer (some ⟨rb, 0, none⟩)] W (PTo (n + 1) (40 :: r) rb W) := by
  cases hq : rd n r with
  | none => exact prog_pair_died n h hE hN (by rw [rd_two, hq]) fun W1 hr hE1 => ppair_none n hl IH hr hE1 hN hq
  | some y =>
    obtain ⟨p, r1⟩ := y
    cases r1 with
    | nil => exact prog_pair_died n h hE hN (by rw [rd_two, hq]) fun W1 hr hE1 => ppair_nosign n hl IH hr hE1 hN hq
    | cons s r2 =>
      cases hq2 : rd n r2 with
      | none => exact prog_pair_died n h hE hN (by rw [rd_two, hq]; dsimp only; rw [hq2]; simp) fun W1 hr hE1 => ppair_second n hl IH hr hE1 hN hq hq2
      | some z =>
        obtain ⟨q, r3⟩ := z
        cases r3 with
        | nil => exact prog_pair_died n h hE hN (by rw [rd_two, hq]; dsimp only; rw [hq2]; simp) fun W1 hr hE1 => ppair_open n hl IH hr hE1 hN hq hq2
        | cons d r4 =>
          by_cases hd : d = 41
          · subst hd
            by_cases hs1 : s = 59
            · subst hs1
              exact prog_pair_hit n h hE hN (by rw [rd_two, hq]; dsimp only; rw [hq2]; simp) fun W1 hr hE1 => ppair_seq n hl IH hr hE1 hN hq hq2
            · by_cases hs2 : s = 124
              · subst hs2
                exact prog_pair_hit n h hE hN (by rw [rd_two, hq]; dsimp only; rw [hq2]; simp) fun W1 hr hE1 => ppair_choice n hl IH hr hE1 hN hq hq2
              · exact prog_pair_died n h hE hN (by rw [rd_two, hq]; dsimp only; rw [if_neg (by rintro (h | h) <;> contradiction)]) fun W1 hr hE1 => ppair_other n hl IH hr hE1 hN hq hq2 hs1 hs2
          · exact prog_pair_died n h hE hN (by rw [rd_two, hq]; dsimp only; rw [hq2]; dsimp only; rw [if_neg hd]; simp) fun W1 hr hE1 => ppair_miss n hl IH hr hE1 hN hq hq2 hd

theorem preads_all (rb N : Nat) (hN : N ≤ rb) : ∀ n, PReads rb n N := by
  intro n
  induction n with
  | zero =>
    intro l W hl h hE
    match l, hl, h with
    | [], _, h => exact prog_nil 0 h hE
  | succ n IH =>
    intro l W hl h hE
    match l, hl, h with
    | [], _, h => exact prog_nil (n + 1) h hE
    | c :: r, hl, h =>
      have hl' : r.length ≤ n := by simpa using hl
      by_cases h1 : c = 46
      · exact prog_dot n (.inl h1) h hE hN
      by_cases h2 : c = 33
      · exact prog_dot n (.inr h2) h hE hN
      by_cases h3 : c = 120
      · exact prog_asg n (.inl h3) h hE hN
      by_cases h4 : c = 121
      · exact prog_asg n (.inr h4) h hE hN
      by_cases h5 : c = 91
      · subst h5; exact prog_test n h hE hN
      by_cases h6 : c = 123
      · subst h6; exact prog_loop n hl' IH h hE hN
      by_cases h7 : c = 40
      · subst h7; exact prog_pair n hl' IH h hE hN
      exact prog_other n h1 h2 h3 h4 h5 h6 h7 h hE hN
end Go.Proofs.YtgkgkaapjljpcaaDoor

namespace Go.Proofs.YtgkgkaapjljpcaaDoor
open Go.ChangeShapes Go.WideShapes Go.ChangeAt Go.RowKit Go.Shelf
attribute [local go_sem] Oper.semAt_some
set_option maxRecDepth 100000

theorem catch_idle (p q : Addr) (w : World) :
    CallsD Tryd.prog 67 #[.pointer (some p), .pointer (some q)] .returning w fun e u' w' => e = .returned (.tuple #[]) ∧ u' = .returning ∧ w' = w := by
  refine callsD_of_wpS Tryd.func67 rfl fun c₀ cs hu => ?_
  apply wpS_seq
  apply wpS_region
  simp [wpOpsS, go_sem, recoverD, hu, Tryd.ntmps67, Exit.thenS]
  refine wpS_cond (t := false) (by simp [Act.eval, Array.replicate]) ?_
  simp only [Bool.false_eq_true, if_false]
  refine wpS_of_wp (wp_skip ?_)
  cases c₀
  simp_all [bodyPostS, results, Tryd.results67]

theorem catch_panicking (b b' : Nat) (hbb : b ≠ b') (x y : Value) (T : TypeId) (v : Value) (u : TypeId) (pv : Value) (older : List PanicEntry) (w : World) (hp : w.cell? ⟨b, 0, none⟩ = some x) (hq : w.cell? ⟨b', 0, none⟩ = some y) (fp : w.frozen? ⟨b, 0, none⟩ = false) (fq : w.frozen? ⟨b', 0, none⟩ = false) (he : w.cell? ⟨1, 0, none⟩ = some (.iface T v)) :
    CallsD Tryd.prog 67 #[.pointer (some ⟨b, 0, none⟩), .pointer (some ⟨b', 0, none⟩)] (.panicking ({ v := .iface u pv, recovered := false } :: older)) w fun e u' w' =>
      e = .returned (.tuple #[]) ∧ u' = .panicking ({ v := .iface u pv, recovered := true } :: older) ∧ w' = (w.setCell ⟨b, 0, none⟩ .nilIface).setCell ⟨b', 0, none⟩ (.iface T v) := by
  have hq1 : (w.setCell ⟨b, 0, none⟩ .nilIface).cell? ⟨b', 0, none⟩ = some y := by
    rw [World.cell?_setCell_other _ _ _ _ (by simp)]
    exact hq
  have fq1 : (w.setCell ⟨b, 0, none⟩ .nilIface).frozen? ⟨b', 0, none⟩ = false := by simp [fq]
  refine callsD_of_wpS Tryd.func67 rfl fun c₀ cs hu => ?_
  apply wpS_seq
  apply wpS_region
  simp [wpOpsS, go_sem, recoverD, hu, Tryd.ntmps67, Exit.thenS]
  refine wpS_cond (t := true) (by simp [Act.eval, Array.replicate]) ?_
  simp only [if_true]
  apply wpS_region
  simp [wpOpsS, go_sem, he, hp, fp, hq1, fq1, bodyPostS, results, Tryd.results67]

/-- The two named results lie in blocks b and b + 1. -/
def Two (W : World) (b : Nat) (x y : Value) : Prop := W.heap[b]? = some (.cells #[x] 71 (0, 0)) ∧ W.heap[b + 1]? = some (.cells #[y] 46 (0, 0))
theorem Two.cells {W : World} {b : Nat} {x y : Value} (h : Two W b x y) : W.cell? ⟨b, 0, none⟩ = some x ∧ W.cell? ⟨b + 1, 0, none⟩ = some y ∧ W.frozen? ⟨b, 0, none⟩ = false ∧ W.frozen? ⟨b + 1, 0, none⟩ = false := by
  obtain ⟨h1, h2⟩ := h
  exact ⟨by rw [cell_of_row _ b 0 _ 71 (0, 0) h1]; rfl, by rw [cell_of_row _ (b + 1) 0 _ 46 (0, 0) h2]; rfl, by simp [World.frozen?, h1], by simp [World.frozen?, h2]⟩
theorem Two.new (w : World) : Two ((w.alloc (.cells #[.nilIface] 71)).alloc (.cells #[.nilIface] 46)) w.heap.size .nilIface .nilIface := by
  refine ⟨?_, ?_⟩
  · have := heap_alloc_new w (.cells #[.nilIface] 71)
    exact ((World.grownBy_alloc (w.alloc (.cells #[.nilIface] 71)) (.cells #[.nilIface] 46) none).block w.heap.size (by simp) (by simp)).trans this
  · have := heap_alloc_new (w.alloc (.cells #[.nilIface] 71)) (.cells #[.nilIface] 46)
    rw [World.size_alloc] at this
    exact this
theorem Two.lt {W : World} {b : Nat} {x y : Value} (h : Two W b x y) : b + 1 < W.heap.size := (Array.getElem?_eq_some_iff.1 h.2).1
theorem Two.grown {W W' : World} {b : Nat} {x y : Value} (h : Two W b x y) {row : Option Nat} (hg : W.grownBy W' row) (h1 : some b ≠ row) (h2 : some (b + 1) ≠ row) : Two W' b x y :=
  ⟨(hg.block b (by have := h.lt; omega) h1).trans h.1, (hg.block (b + 1) h.lt h2).trans h.2⟩
theorem Two.set1 {W : World} {b : Nat} {x y : Value} (h : Two W b x y) (z : Value) : Two (W.setCell ⟨b, 0, none⟩ z) b z y := by
  refine ⟨?_, ?_⟩
  · rw [heap_setCell_same W b 0 _ 71 _ h.1]; rfl
  · rw [heap_setCell_other W ⟨b, 0, none⟩ (b + 1) _ (by simp)]; exact h.2
theorem Two.set2 {W : World} {b : Nat} {x y : Value} (h : Two W b x y) (z : Value) : Two (W.setCell ⟨b + 1, 0, none⟩ z) b x z := by
  refine ⟨?_, ?_⟩
  · rw [heap_setCell_other W ⟨b + 1, 0, none⟩ b _ (by simp)]; exact h.1
  · rw [heap_setCell_same W (b + 1) 0 _ 46 _ h.2]; rfl

theorem ret40 {Z : World} {tm : Array Value} {x y : Value} {b : Nat} {R : Ending → World → Prop} (t2 : tm[2]?.getD undef = .pointer (some ⟨b, 0, none⟩)) (t3 : tm[3]?.getD undef = .pointer (some ⟨b + 1, 0, none⟩))
    (h2 : Two Z b x y) (h : R (.returned (.tuple #[x, y])) Z) : Leaves Tryd.prog Tryd.f50 tm R [] .returning Z := by
  obtain ⟨c1, c2, _, _⟩ := h2.cells
  exact ⟨.tuple #[x, y], by simp [results, Tryd.results50, go_sem, t2, t3, c1, c2], h⟩

/-- What reading a whole text leaves. -/
def PWhole (l : List UInt8) (w : World) (e : Ending) (w' : World) : Prop := Below w.heap.size w w' ∧
  match readP l with
  | some nd => e = .returned (.tuple #[nodeV nd, .nilIface])
  | none => ∃ T v, e = .returned (.tuple #[.nilIface, .iface T v])
theorem pwhole_none {l : List UInt8} (h : readP l = none) {w w' : World} {e : Ending} (hb : Below w.heap.size w w') (he : ∃ T v, e = .returned (.tuple #[.nilIface, .iface T v])) : PWhole l w e w' := by
  refine ⟨hb, ?_⟩
  rw [h]
  exact he
theorem pwhole_some {l : List UInt8} {nd : Node} (h : readP l = some nd) {w w' : World} {e : Ending} (hb : Below w.heap.size w w') (he : e = .returned (.tuple #[nodeV nd, .nilIface])) : PWhole l w e w' := by
  refine ⟨hb, ?_⟩
  rw [h]
  exact he

theorem read_long (l : List UInt8) (h : (60 : Int) < (l.length : Int)) (w : World) {N : Nat} (hE : Laid3 N w) :
    Calls Tryd.prog 50 #[.string ⟨l.toArray⟩] w (PWhole l w) := by
  have hmf : ∀ (fn : Fn) (first cap : Array Value) (w : World), (Instr.makeFunc fn first cap).run Tryd.prog w = .ok (.func fn first cap) w := fun _ _ _ _ => rfl
  have hP : readP l = none := by
    unfold readP
    split
    · rw [if_neg (by omega)]
    · rfl
  have h2 := Two.new w
  obtain ⟨V, hV⟩ : ∃ V, V = (w.alloc (.cells #[.nilIface] 71)).alloc (.cells #[.nilIface] 46) := ⟨_, rfl⟩
  rw [← hV] at h2
  have hA : Below w.heap.size w V := by rw [hV]; exact ((Below.refl _ _).alloc (Nat.le_refl _) _).alloc (by simp) _
  have hEV := hE.below hA hE.lt
  obtain ⟨T, v, ce⟩ := hEV.err
  have hz := hE.lt
  have h0 := hE.2.2.2
  obtain ⟨b, hb⟩ : ∃ b, b = w.heap.size := ⟨_, rfl⟩
  rw [← hb] at h2
  obtain ⟨c1, c2, f1, f2⟩ := h2.cells
  have n0 : ¬ b = 1 := by omega
  have n1 : ¬ 1 = b := by omega
  go_enter_defers Tryd.func50, Tryd.ntmps50
  go_wp2_with fail
  rw [← hV, ← hb]
  have HV := Lib.hid hV
  have HB := Lib.hid hb
  have HA := Lib.hid hA
  have HP := Lib.hid hP
  have H2 := Lib.hid h2
  clear hV hb hA h2 hz h0 hE hEV hP
  go_region
  go_wp2_with fail
  have hbw := HB.out
  exact ret40 (Z := ((V.setCell ⟨b, 0, none⟩ .nilIface).setCell ⟨b + 1, 0, none⟩ (.iface T v)).drew) rfl rfl ((H2.out.set1 _).set2 _) (pwhole_none HP.out (((HA.out.setCell (by simp; omega) _).setCell (by simp; omega) _).drew) ⟨T, v, rfl⟩)

theorem door_died {w Z : World} {tm : Array Value} {l : List UInt8} {x y : Value} {b N : Nat} {T : TypeId} {v : Value} (t2 : tm[2]?.getD undef = .pointer (some ⟨b, 0, none⟩)) (t3 : tm[3]?.getD undef = .pointer (some ⟨b + 1, 0, none⟩))
    (h2 : Two Z b x y) (hE : Laid3 N Z) (hb : b = w.heap.size) (hB : Below w.heap.size w Z) (hP : readP l = none) :
    Leaves Tryd.prog Tryd.f50 tm (PWhole l w) [{ target := Target.fn (Fn.func 67) #[.pointer (some ⟨b, 0, none⟩), .pointer (some ⟨b + 1, 0, none⟩)], args := #[] }] (.panicking [{ v := .iface T v, recovered := false }]) Z := by
  obtain ⟨c1, c2, f1, f2⟩ := h2.cells
  obtain ⟨T', v', ce⟩ := hE.err
  refine leaves_cons (f := 67) (args := #[.pointer (some ⟨b, 0, none⟩), .pointer (some ⟨b + 1, 0, none⟩)]) (by simp) (by simp [go_sem]) ?_
  refine (catch_panicking b (b + 1) (by omega) x y T' v' T v [] Z c1 c2 f1 f2 ce).mono ?_
  rintro e u' w'' ⟨rfl, rfl, rfl⟩
  exact ret40 t2 t3 ((h2.set1 _).set2 _) (pwhole_none hP ((hB.setCell (by simp; omega) _).setCell (by simp; omega) _) ⟨T', v', rfl⟩)
theorem door_fine {w Z : World} {tm : Array Value} {l : List UInt8} {nd : Node} {b : Nat} (t2 : tm[2]?.getD undef = .pointer (some ⟨b, 0, none⟩)) (t3 : tm[3]?.getD undef = .pointer (some ⟨b + 1, 0, none⟩))
    (h2 : Two Z b (nodeV nd) .nilIface) (hB : Below w.heap.size w Z) (hP : readP l = some nd) :
    Leaves Tryd.prog Tryd.f50 tm (PWhole l w) [{ target := Target.fn (Fn.func 67) #[.pointer (some ⟨b, 0, none⟩), .pointer (some ⟨b + 1, 0, none⟩)], args := #[] }] .returning Z := by
  refine leaves_cons (f := 67) (args := #[.pointer (some ⟨b, 0, none⟩), .pointer (some ⟨b + 1, 0, none⟩)]) (by simp) (by simp [go_sem]) ?_
  refine (catch_idle ⟨b, 0, none⟩ ⟨b + 1, 0, none⟩ Z).mono ?_
  rintro e u' w'' ⟨rfl, rfl, rfl⟩
  exact ret40 t2 t3 h2 (pwhole_some hP hB rfl)

theorem ploops_le : ∀ nd : Node, nd.loops ≤ nd.text.length
  | .atom _ => Nat.zero_le _
  | .loop p => by have := ploops_le p; simp [Node.loops, Node.text]; omega
  | .pair k p q => by have := ploops_le p; have := ploops_le q; simp [Node.loops, Node.text]; omega

set_option maxHeartbeats 4000000 in
theorem read_short (l : List UInt8) (h : (l.length : Int) ≤ 60) (w : World) {N : Nat} (hE : Laid3 N w) :
    Calls Tryd.prog 50 #[.string ⟨l.toArray⟩] w (PWhole l w) := by
  have hmf : ∀ (fn : Fn) (first cap : Array Value) (w : World), (Instr.makeFunc fn first cap).run Tryd.prog w = .ok (.func fn first cap) w := fun _ _ _ _ => rfl
  have h2 := Two.new w
  obtain ⟨V, hV⟩ : ∃ V, V = (w.alloc (.cells #[.nilIface] 71)).alloc (.cells #[.nilIface] 46) := ⟨_, rfl⟩
  rw [← hV] at h2
  have hA : Below w.heap.size w V := by rw [hV]; exact ((Below.refl _ _).alloc (Nat.le_refl _) _).alloc (by simp) _
  have sV : V.heap.size = w.heap.size + 1 + 1 := by rw [hV]; simp
  have hEV := hE.below hA hE.lt
  have hz := hE.lt
  obtain ⟨b, hb⟩ : ∃ b, b = w.heap.size := ⟨_, rfl⟩
  rw [← hb] at h2 sV
  obtain ⟨rb, hrb⟩ : ∃ rb, rb = b + 1 + 1 := ⟨_, rfl⟩
  obtain ⟨VR, hVR⟩ : ∃ VR, VR = V.alloc (.cells #[.string ⟨l.toArray⟩] 103) := ⟨_, rfl⟩
  have hr : Rst VR rb l := by
    rw [hVR, hrb, ← sV]
    exact heap_alloc_new V _
  have hAR : Below w.heap.size w VR := by rw [hVR]; exact hA.alloc (by omega) _
  have h2R : Two VR b .nilIface .nilIface := by rw [hVR]; exact h2.grown (World.grownBy_alloc V _ none) (by simp) (by simp)
  have hER := hE.below hAR hE.lt
  go_enter_defers Tryd.func50, Tryd.ntmps50
  go_wp2_with fail
  rw [← hV, ← hb, ← hrb, ← hVR]
  go_at_call 68
  refine (preads_all rb N (by omega) l.length l VR (Nat.le_refl _) hr hER).mono ?_
  rintro e W2 ⟨hg2, hm⟩
  have h22 := h2R.grown hg2 (by simp; omega) (by simp; omega)
  have hE2 := hER.grown hg2 (by omega)
  have hA2 : Below w.heap.size w W2 := hAR.grown hg2 (by have := hAR.size; omega) (fun k e => by cases e; omega)
  cases hrn : rd l.length l with
  | none =>
    rw [hrn] at hm
    obtain ⟨T, v, rfl⟩ := hm
    have hP : readP l = none := by unfold readP; rw [hrn]
    exact door_died rfl rfl h22 hE2 hb hA2 hP
  | some z =>
    obtain ⟨nd, r⟩ := z
    rw [hrn] at hm
    obtain ⟨rfl, hr2⟩ := hm
    have h23 := h22.set1 (nodeV nd)
    obtain ⟨T0, x0, hv⟩ := nodeV_iface nd
    have hr3 : Rst (W2.setCell ⟨b, 0, none⟩ (nodeV nd)) rb r := by
      unfold Rst at *
      rw [heap_setCell_other W2 ⟨b, 0, none⟩ rb _ (by simp; omega)]
      exact hr2
    have hA3 : Below w.heap.size w (W2.setCell ⟨b, 0, none⟩ (nodeV nd)) := hA2.setCell (by simp; omega) _
    have hE3 := hE.below hA3 hE.lt
    obtain ⟨c1, c2, f1, f2⟩ := h22.cells
    have HV := Lib.hid hV
    have HVR := Lib.hid hVR
    have HB := Lib.hid hb
    have HRB := Lib.hid hrb
    rw [hv] at h23 hr3 hA3 hE3 ⊢
    have HVv := Lib.hid hv
    obtain ⟨e1, _⟩ := hr2.cells
    have n1 : ¬ b = rb := by omega
    have n2 : ¬ rb = b := by omega
    have hnd := (rd_text _ _ _ _ hrn)
    clear hV hVR hb hrb hr hAR h2R hER hg2 h22 hE2 hA2 hr2 hz hEV hA h2 sV hv
    cases r with
    | cons d r =>
      have hP : readP l = none := by unfold readP; rw [hrn]
      have HP := Lib.hid hP
      have HN := Lib.hid hnd
      have HN2 := Lib.hid hrn
      obtain ⟨T, v, ce⟩ := hE3.err
      have HE3 := Lib.hid hE3
      have H23 := Lib.hid h23
      have HA3 := Lib.hid hA3
      have HR3 := Lib.hid hr3
      clear hP hnd hrn hE3 h23 hA3 hr3 hE
      go_wp2_with fail
      exact door_died rfl rfl H23.out HE3.out HB.out HA3.out HP.out
    | nil =>
      have hlen : l.length = nd.text.length := by rw [hnd.1]; simp
      have hle := ploops_le nd
      have hlp := ploops46 nd hnd.2 (by omega)
      rw [HVv.out] at hlp
      have hl1000 : (nd.loops : Int) ≤ 1000 := by omega
      have HE3 := Lib.hid hE3
      have H23 := Lib.hid h23
      have HA3 := Lib.hid hA3
      have hEN := Lib.hid hE.lt
      by_cases h6 : nd.loops ≤ 6
      · have hP : readP l = some nd := by unfold readP; rw [hrn]; dsimp only; rw [if_pos ⟨by omega, h6⟩]
        have h6i : (nd.loops : Int) ≤ 6 := by omega
        have HP := Lib.hid hP
        clear hP hnd hrn hE3 h23 hA3 hr3 hE hlen hle h6
        go_wp2_with (go_at_call 69; refine (hlp _).mono ?_; rintro e W4 ⟨rfl, hb4⟩; have h24 := H23.out.grown (below_grown hb4 none) (by simp) (by simp); obtain ⟨d1, d2, g1, g2⟩ := h24.cells; have H24 := Lib.hid h24; clear h24)
        have hA4 := HA3.out.trans (hb4.mono HA3.out.size)
        have hbw := HB.out
        exact door_fine (nd := nd) rfl rfl (by rw [HVv.out]; exact (H24.out.set1 _).set2 _) ((hA4.setCell (by simp; omega) _).setCell (by simp; omega) _) HP.out
      · have hP : readP l = none := by unfold readP; rw [hrn]; dsimp only; rw [if_neg (fun h => h6 h.2)]
        have h6i : (6 : Int) < (nd.loops : Int) := by omega
        have HP := Lib.hid hP
        clear hP hnd hrn hE3 h23 hA3 hr3 hE hlen hle h6
        go_wp2_with (go_at_call 69; refine (hlp _).mono ?_; rintro e W4 ⟨rfl, hb4⟩; have hA4 := HA3.out.trans (hb4.mono HA3.out.size); have hE4 := HE3.out.below hb4 HE3.out.lt; obtain ⟨T, v, ce⟩ := hE4.err; have h24 := H23.out.grown (below_grown hb4 none) (by simp) (by simp))
        exact door_died rfl rfl h24 hE4 HB.out hA4 HP.out

theorem pread40 (l : List UInt8) (w : World) {N : Nat} (hE : Laid3 N w) : Calls Tryd.prog 50 #[.string ⟨l.toArray⟩] w (PWhole l w) := by
  by_cases h : (l.length : Int) ≤ 60
  · exact read_short l h w hE
  · exact read_long l (by omega) w hE
theorem bytes_eta (t : ByteArray) : (⟨t.toList.toArray⟩ : ByteArray) = t := by
  rw [Lib.toList_data]

end Go.Proofs.YtgkgkaapjljpcaaDoor

