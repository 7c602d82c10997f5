/- Chapter 11, the program: the other rules. -/
import Derived.Test.YtgkgkaapjljpcaaDoorZE
namespace Go.Proofs.YtgkgkaapjljpcaaDoor
open Go.ChangeShapes Go.WideShapes Go.ChangeAt Go.RowKit Go.Shelf
attribute [local go_sem] Oper.semAt_some
set_option maxRecDepth 100000

set_option maxHeartbeats 2000000 in
theorem rule5 (p q : Node) (hp : p.ok) (w : World) :
    Calls Tryd.prog 75 #[.agg #[nodeV p, nodeV q]] w (Fits (leanN p q) w) := by
  obtain ⟨U, y, hv2⟩ := nodeV_iface q
  have HV2 := Lib.hid hv2
  unfold Fits
  cases p with
  | atom a =>
    rw [show nodeV (.atom a) = .iface 133 (.string ⟨a.toArray⟩) from rfl, hv2]
    show Calls _ _ _ _ fun e w' => Below w.heap.size w w' ∧ ∃ x, e = .returned (.tuple #[x, .bool false])
    obtain ⟨c0, c1⟩ := @two_new 133 U (.string ⟨a.toArray⟩) y w 107
    have hA : Below w.heap.size w (w.alloc (.cells #[.iface 133 (.string ⟨a.toArray⟩), .iface U y] 107)) := (Below.refl _ _).alloc (Nat.le_refl _) _
    have t1 := as93_77 ⟨a.toArray⟩
    go_enter Tryd.func75, Tryd.ntmps75
    go_wp2_with fail
    go_ret2
    exact ⟨hA.alloc hA.size _, _, rfl⟩
  | loop r =>
    obtain ⟨T, x, hv⟩ := nodeV_iface r
    rw [show nodeV (.loop r) = .iface 117 (.agg #[nodeV r]) from rfl, hv2, hv]
    show Calls _ _ _ _ fun e w' => Below w.heap.size w w' ∧ ∃ x, e = .returned (.tuple #[x, .bool false])
    obtain ⟨c0, c1⟩ := @two_new 117 U (.agg #[.iface T x]) y w 107
    have hA : Below w.heap.size w (w.alloc (.cells #[.iface 117 (.agg #[.iface T x]), .iface U y] 107)) := (Below.refl _ _).alloc (Nat.le_refl _) _
    have t1 := as81_77 (.iface T x)
    go_enter Tryd.func75, Tryd.ntmps75
    go_wp2_with fail
    go_ret2
    exact ⟨hA.alloc hA.size _, _, rfl⟩
  | pair k r s =>
    obtain ⟨T, x, hv⟩ := nodeV_iface r
    obtain ⟨T', x', hv'⟩ := nodeV_iface s
    have HV := Lib.hid hv
    have HV' := Lib.hid hv'
    obtain ⟨rfl | rfl, _, _⟩ := hp
    · rw [nodeV_seq, hv2, hv, hv']
      show Calls _ _ _ _ fun e w' => Below w.heap.size w w' ∧ e = .returned (.tuple #[nodeV (.pair 59 r (.pair 59 s q)), .bool true])
      obtain ⟨c0, c1⟩ := @two_new 107 U (.agg #[.iface T x, .iface T' x']) y w 107
      have hA : Below w.heap.size w (w.alloc (.cells #[.iface 107 (.agg #[.iface T x, .iface T' x']), .iface U y] 107)) := (Below.refl _ _).alloc (Nat.le_refl _) _
      have t1 := as77_77 (.iface T x) (.iface T' x')
      go_enter Tryd.func75, Tryd.ntmps75
      go_wp2_with fail
      go_ret2
      exact ⟨hA.alloc hA.size _, by rw [nodeV_seq, nodeV_seq, HV.out, HV'.out, HV2.out]; rfl⟩
    · rw [nodeV_choice, hv2, hv, hv']
      show Calls _ _ _ _ fun e w' => Below w.heap.size w w' ∧ ∃ x, e = .returned (.tuple #[x, .bool false])
      obtain ⟨c0, c1⟩ := @two_new 112 U (.agg #[.iface T x, .iface T' x']) y w 107
      have hA : Below w.heap.size w (w.alloc (.cells #[.iface 112 (.agg #[.iface T x, .iface T' x']), .iface U y] 107)) := (Below.refl _ _).alloc (Nat.le_refl _) _
      have t1 := as79_77 (.iface T x) (.iface T' x')
      go_enter Tryd.func75, Tryd.ntmps75
      go_wp2_with fail
      go_ret2
      exact ⟨hA.alloc hA.size _, _, rfl⟩

set_option maxHeartbeats 4000000 in
theorem rule6 (p q : Node) (hp : p.ok) (hq : q.ok) (lp : p.text.length ≤ 1000) (lq : q.text.length ≤ 1000) (w : World) :
    Calls Tryd.prog 77 #[.agg #[nodeV p, nodeV q]] w (Fits (if p.text = q.text then some p else none) w) := by
  have ht1 := ptext p hp lp
  have ht2 := ptext q hq lq
  have hm1 := meth_text p hp
  have hm2 := meth_text q hq
  have hcf1 := call_text p hp
  have hcf2 := call_text q hq
  have hv := nodeV_eq p hp
  have hv2 := nodeV_eq q hq
  have HV := Lib.hid hv
  unfold Fits
  rw [hv, hv2]
  clear hv hv2
  obtain ⟨c0, c1⟩ := @two_new (nodeT p) (nodeT q) (nodeX p) (nodeX q) w 112
  have hA : Below w.heap.size w (w.alloc (.cells #[.iface (nodeT p) (nodeX p), .iface (nodeT q) (nodeX q)] 112)) := (Below.refl _ _).alloc (Nat.le_refl _) _
  have hsz : w.heap.size < (w.alloc (.cells #[.iface (nodeT p) (nodeX p), .iface (nodeT q) (nodeX q)] 112)).heap.size := by simp
  obtain ⟨g0, hg0⟩ : ∃ g0, g0 = w.heap.size := ⟨_, rfl⟩
  obtain ⟨V, hV⟩ : ∃ V, V = w.alloc (.cells #[.iface (nodeT p) (nodeX p), .iface (nodeT q) (nodeX q)] 112) := ⟨_, rfl⟩
  rw [← hV] at c0 c1 hA hsz
  rw [← hg0] at c0 c1 hsz
  generalize hTp : nodeT p = Tp at *
  generalize hXp : nodeX p = Xp at *
  generalize hTq : nodeT q = Tq at *
  generalize hXq : nodeX q = Xq at *
  generalize hFp : textFn p = Fp at *
  generalize hFq : textFn q = Fq at *
  cases hq2 : decide (p.text = q.text) with
  | true =>
    have hpq : p.text = q.text := of_decide_eq_true hq2
    have hbe : (p.text == q.text) = true := by simpa using hpq
    rw [if_pos hpq]
    clear hq2 hpq
    generalize p.text = tp at *
    generalize q.text = tq at *
    go_enter Tryd.func77, Tryd.ntmps77
    go_wp2_with fail
    rw [← hV, ← hg0]
    have HVV := Lib.hid hV
    have HG := Lib.hid hg0
    have HA := Lib.hid hA
    clear hV hg0 hA
    refine wp_region_held (S := fun w' => w'.cell? ⟨g0, 0, none⟩ = some (.iface Tp Xp) ∧ w'.cell? ⟨g0, 1, none⟩ = some (.iface Tq Xq)) (by kernel_rfl) ?_
    have hS : V.drew.cell? ⟨g0, 0, none⟩ = some (.iface Tp Xp) ∧ V.drew.cell? ⟨g0, 1, none⟩ = some (.iface Tq Xq) := ⟨c0, c1⟩
    refine wpAnyH_take (i := 0) (v := .pointer (some ⟨g0, 0, none⟩)) rfl (by kernel_rfl) (by kernel_rfl) (by kernel_rfl) (fun _ _ _ h => h) (Or.inl ⟨by rfl, fun w hw => by go_simp⟩) hS ?_
    go_simp
    refine wpAnyH_take (i := 1) (v := .iface Tp Xp) rfl (by kernel_rfl) (by kernel_rfl) (by kernel_rfl) (fun _ _ _ h => h) (Or.inl ⟨by rfl, fun w hw => by obtain ⟨l0, l1⟩ := hw; first | (go_simp; done) | rfl⟩) hS ?_
    go_simp
    refine wpAnyH_take (i := 2) (v := .pointer (some ⟨g0, 0, none⟩)) rfl (by kernel_rfl) (by kernel_rfl) (by kernel_rfl) (fun _ _ _ h => h) (Or.inl ⟨by rfl, fun w hw => by go_simp⟩) hS ?_
    go_simp
    refine wpAnyH_take (i := 3) (v := .iface Tp Xp) rfl (by kernel_rfl) (by kernel_rfl) (by kernel_rfl) (fun _ _ _ h => h) (Or.inl ⟨by rfl, fun w hw => by obtain ⟨l0, l1⟩ := hw; first | (go_simp; done) | rfl⟩) hS ?_
    go_simp
    refine wpAnyH_take (i := 5) (v := .pointer (some ⟨g0, 1, none⟩)) rfl (by kernel_rfl) (by kernel_rfl) (by kernel_rfl) (fun _ _ _ h => h) (Or.inl ⟨by rfl, fun w hw => by go_simp⟩) hS ?_
    go_simp
    refine wpAnyH_take (i := 6) (v := .iface Tq Xq) rfl (by kernel_rfl) (by kernel_rfl) (by kernel_rfl) (fun _ _ _ h => h) (Or.inl ⟨by rfl, fun w hw => by obtain ⟨l0, l1⟩ := hw; first | (go_simp; done) | rfl⟩) hS ?_
    go_simp
    refine wpAnyH_ready (rs := [4]) (by kernel_rfl) (by simp) ?_
    refine AllReadyH.cons rfl (fun K hK => ?_) AllReadyH.nil
    go_simp
    go_wp2_with (refine (ht1 _).mono ?_; rintro e W1 ⟨rfl, hb1⟩)
    refine hK _ _ (⟨(hb1.cell (p := ⟨g0, 0, none⟩) hsz).trans hS.1, (hb1.cell (p := ⟨g0, 1, none⟩) hsz).trans hS.2⟩) (fun hR1 => ?_)
    clear hK K
    go_simp
    have hs1 := Nat.lt_of_lt_of_le hsz hb1.size
    refine wpAnyH_ready (rs := [7]) (by kernel_rfl) (by simp) ?_
    refine AllReadyH.cons rfl (fun K hK => ?_) AllReadyH.nil
    go_simp
    go_wp2_with (refine (ht2 _).mono ?_; rintro e W2 ⟨rfl, hb2⟩)
    refine hK _ _ (⟨(hb2.cell (p := ⟨g0, 0, none⟩) hs1).trans hR1.1, (hb2.cell (p := ⟨g0, 1, none⟩) hs1).trans hR1.2⟩) (fun hR2 => ?_)
    clear hK K
    go_simp
    refine wpAnyH_take (i := 8) (v := .bool true) rfl (by kernel_rfl) (by kernel_rfl) (by kernel_rfl) (fun _ _ _ h => h) (Or.inl ⟨by rfl, fun w hw => by go_simp⟩) hR2 ?_
    go_simp
    refine wpAnyH_take (i := 9) (v := .iface Tp Xp) rfl (by kernel_rfl) (by kernel_rfl) (by kernel_rfl) (fun _ _ _ h => h) (Or.inl ⟨by rfl, fun w hw => by go_simp⟩) hR2 ?_
    go_simp
    refine wpAnyH_take (i := 10) (v := .bool true) rfl (by kernel_rfl) (by kernel_rfl) (by kernel_rfl) (fun _ _ _ h => h) (Or.inl ⟨by rfl, fun w hw => by go_simp⟩) hR2 ?_
    go_simp
    refine wpAnyH_done (by kernel_rfl) ?_ _
    go_wp2_with fail
    go_ret2
    have hA := HA.out
    have h1 : Below w.heap.size w W1 := by first | exact hA.trans (hb1.mono hA.size) | exact hA.drew.trans (hb1.mono hA.size) | exact hA.drew.drew.trans (hb1.mono hA.size)
    have hE := h1.trans (hb2.mono h1.size)
    first | exact ⟨hE, congrArg (fun z => Ending.returned (.tuple #[z, .bool true])) HV.out.symm⟩ | exact ⟨hE.drew, congrArg (fun z => Ending.returned (.tuple #[z, .bool true])) HV.out.symm⟩
  | false =>
    have hpq : ¬ p.text = q.text := of_decide_eq_false hq2
    have hbe : (p.text == q.text) = false := by simpa using hpq
    rw [if_neg hpq]
    clear hq2 hpq
    generalize p.text = tp at *
    generalize q.text = tq at *
    go_enter Tryd.func77, Tryd.ntmps77
    go_wp2_with fail
    rw [← hV, ← hg0]
    have HVV := Lib.hid hV
    have HG := Lib.hid hg0
    have HA := Lib.hid hA
    clear hV hg0 hA
    refine wp_region_held (S := fun w' => w'.cell? ⟨g0, 0, none⟩ = some (.iface Tp Xp) ∧ w'.cell? ⟨g0, 1, none⟩ = some (.iface Tq Xq)) (by kernel_rfl) ?_
    have hS : V.drew.cell? ⟨g0, 0, none⟩ = some (.iface Tp Xp) ∧ V.drew.cell? ⟨g0, 1, none⟩ = some (.iface Tq Xq) := ⟨c0, c1⟩
    refine wpAnyH_take (i := 0) (v := .pointer (some ⟨g0, 0, none⟩)) rfl (by kernel_rfl) (by kernel_rfl) (by kernel_rfl) (fun _ _ _ h => h) (Or.inl ⟨by rfl, fun w hw => by go_simp⟩) hS ?_
    go_simp
    refine wpAnyH_take (i := 1) (v := .iface Tp Xp) rfl (by kernel_rfl) (by kernel_rfl) (by kernel_rfl) (fun _ _ _ h => h) (Or.inl ⟨by rfl, fun w hw => by obtain ⟨l0, l1⟩ := hw; first | (go_simp; done) | rfl⟩) hS ?_
    go_simp
    refine wpAnyH_take (i := 2) (v := .pointer (some ⟨g0, 0, none⟩)) rfl (by kernel_rfl) (by kernel_rfl) (by kernel_rfl) (fun _ _ _ h => h) (Or.inl ⟨by rfl, fun w hw => by go_simp⟩) hS ?_
    go_simp
    refine wpAnyH_take (i := 3) (v := .iface Tp Xp) rfl (by kernel_rfl) (by kernel_rfl) (by kernel_rfl) (fun _ _ _ h => h) (Or.inl ⟨by rfl, fun w hw => by obtain ⟨l0, l1⟩ := hw; first | (go_simp; done) | rfl⟩) hS ?_
    go_simp
    refine wpAnyH_take (i := 5) (v := .pointer (some ⟨g0, 1, none⟩)) rfl (by kernel_rfl) (by kernel_rfl) (by kernel_rfl) (fun _ _ _ h => h) (Or.inl ⟨by rfl, fun w hw => by go_simp⟩) hS ?_
    go_simp
    refine wpAnyH_take (i := 6) (v := .iface Tq Xq) rfl (by kernel_rfl) (by kernel_rfl) (by kernel_rfl) (fun _ _ _ h => h) (Or.inl ⟨by rfl, fun w hw => by obtain ⟨l0, l1⟩ := hw; first | (go_simp; done) | rfl⟩) hS ?_
    go_simp
    refine wpAnyH_ready (rs := [4]) (by kernel_rfl) (by simp) ?_
    refine AllReadyH.cons rfl (fun K hK => ?_) AllReadyH.nil
    go_simp
    go_wp2_with (refine (ht1 _).mono ?_; rintro e W1 ⟨rfl, hb1⟩)
    refine hK _ _ (⟨(hb1.cell (p := ⟨g0, 0, none⟩) hsz).trans hS.1, (hb1.cell (p := ⟨g0, 1, none⟩) hsz).trans hS.2⟩) (fun hR1 => ?_)
    clear hK K
    go_simp
    have hs1 := Nat.lt_of_lt_of_le hsz hb1.size
    refine wpAnyH_ready (rs := [7]) (by kernel_rfl) (by simp) ?_
    refine AllReadyH.cons rfl (fun K hK => ?_) AllReadyH.nil
    go_simp
    go_wp2_with (refine (ht2 _).mono ?_; rintro e W2 ⟨rfl, hb2⟩)
    refine hK _ _ (⟨(hb2.cell (p := ⟨g0, 0, none⟩) hs1).trans hR1.1, (hb2.cell (p := ⟨g0, 1, none⟩) hs1).trans hR1.2⟩) (fun hR2 => ?_)
    clear hK K
    go_simp
    refine wpAnyH_take (i := 8) (v := .bool false) rfl (by kernel_rfl) (by kernel_rfl) (by kernel_rfl) (fun _ _ _ h => h) (Or.inl ⟨by rfl, fun w hw => by go_simp⟩) hR2 ?_
    go_simp
    refine wpAnyH_take (i := 9) (v := .iface Tp Xp) rfl (by kernel_rfl) (by kernel_rfl) (by kernel_rfl) (fun _ _ _ h => h) (Or.inl ⟨by rfl, fun w hw => by go_simp⟩) hR2 ?_
    go_simp
    refine wpAnyH_take (i := 10) (v := .bool false) rfl (by kernel_rfl) (by kernel_rfl) (by kernel_rfl) (fun _ _ _ h => h) (Or.inl ⟨by rfl, fun w hw => by go_simp⟩) hR2 ?_
    go_simp
    refine wpAnyH_done (by kernel_rfl) ?_ _
    go_wp2_with fail
    go_ret2
    have hA := HA.out
    have h1 : Below w.heap.size w W1 := by first | exact hA.trans (hb1.mono hA.size) | exact hA.drew.trans (hb1.mono hA.size) | exact hA.drew.drew.trans (hb1.mono hA.size)
    have hE := h1.trans (hb2.mono h1.size)
    first | exact ⟨hE, _, rfl⟩ | exact ⟨hE.drew, _, rfl⟩

/-! ### Loops -/
theorem one_new {T : TypeId} {x : Value} {w : World} {t : TypeId} : (w.alloc (.cells #[.iface T x] t)).cell? ⟨w.heap.size, 0, none⟩ = some (.iface T x) := by
  have n0 := heap_alloc_new w (.cells #[.iface T x] t)
  rw [cell_of_row _ w.heap.size 0 _ t (0, 0) n0]; rfl
def isLoop : Node → Bool
  | .loop _ => true
  | _ => false
def loopN (p : Node) : Option Node := if isLoop p = true then some p else none
theorem topLoop_or (p : Node) : topLoop p = orN (if isA p 46 = true ∨ testN p = true then some (.atom [46]) else none) (loopN p) := by
  unfold topLoop
  split
  · rfl
  · cases p <;> rfl
theorem kind_loop {nd : Node} (h : nd.ok) : (kindN nd == [123]) = isLoop nd := by
  cases nd with
  | atom a =>
    simp only [kindN]
    rcases h with rfl | rfl | h | ⟨t, _, rfl⟩
    · rfl
    · rfl
    · show (a == [123]) = false
      rw [Bool.eq_false_iff]
      intro e
      have : a = [123] := by simpa using e
      rw [this] at h
      revert h; decide
    · rfl
  | loop p => rfl
  | pair k p q => obtain ⟨rfl | rfl, _, _⟩ := h <;> rfl
set_option maxHeartbeats 2000000 in
theorem rule8 (p : Node) (hp : p.ok) (w : World) :
    Calls Tryd.prog 80 #[.agg #[nodeV p]] w (Fits (loopN p) w) := by
  have hkp := pkindN p hp
  have e1 := kind_loop hp
  obtain ⟨T, x, hv⟩ := nodeV_iface p
  have HV := Lib.hid hv
  unfold Fits loopN
  rw [hv]
  rw [hv] at hkp
  clear hv
  generalize kindN p = kp at hkp e1
  obtain c0 := @one_new T x w 117
  have hA : Below w.heap.size w (w.alloc (.cells #[.iface T x] 117)) := (Below.refl _ _).alloc (Nat.le_refl _) _
  have hsz : w.heap.size < (w.alloc (.cells #[.iface T x] 117)).heap.size := by simp
  cases h1 : isLoop p with
  | true =>
    rw [h1] at e1
    rw [if_pos rfl]
    go_enter Tryd.func80, Tryd.ntmps80
    go_wp2_with fail
    go_region_with (go_at_call 103; refine (hkp _).mono ?_; rintro e W1 ⟨rfl, hb1⟩; have d0 := (hb1.cell (p := ⟨w.heap.size, 0, none⟩) hsz).trans c0)
    all_goals go_wp2_with fail
    all_goals go_ret2
    all_goals
      have hE : Below w.heap.size w W1 := by first | exact hA.trans (hb1.mono hA.size) | exact hA.drew.trans (hb1.mono hA.size) | exact hA.drew.drew.trans (hb1.mono hA.size)
      first | exact ⟨hE, congrArg (fun z => Ending.returned (.tuple #[z, .bool true])) HV.out.symm⟩ | exact ⟨hE.drew, congrArg (fun z => Ending.returned (.tuple #[z, .bool true])) HV.out.symm⟩
  | false =>
    rw [h1] at e1
    rw [if_neg (by simp)]
    go_enter Tryd.func80, Tryd.ntmps80
    go_wp2_with fail
    go_region_with (go_at_call 103; refine (hkp _).mono ?_; rintro e W1 ⟨rfl, hb1⟩; have d0 := (hb1.cell (p := ⟨w.heap.size, 0, none⟩) hsz).trans c0)
    all_goals go_wp2_with fail
    all_goals go_ret2
    all_goals
      have hE : Below w.heap.size w W1 := by first | exact hA.trans (hb1.mono hA.size) | exact hA.drew.trans (hb1.mono hA.size) | exact hA.drew.drew.trans (hb1.mono hA.size)
      first | exact ⟨hE, _, rfl⟩ | exact ⟨hE.drew, _, rfl⟩

set_option maxHeartbeats 2000000 in
theorem rule7 (p : Node) (hp : p.ok) (w : World) :
    Calls Tryd.prog 79 #[.agg #[nodeV p]] w (Fits (if isA p 46 = true ∨ testN p = true then some (.atom [46]) else none) w) := by
  have hkp := pkindN p hp
  have ht := ptest p hp
  have e1 := kind_dot hp (c := 46) (.inl rfl)
  obtain ⟨T, x, hv⟩ := nodeV_iface p
  unfold Fits
  rw [hv]
  rw [hv] at hkp ht
  clear hv
  generalize kindN p = kp at hkp e1
  obtain c0 := @one_new T x w 117
  have hA : Below w.heap.size w (w.alloc (.cells #[.iface T x] 117)) := (Below.refl _ _).alloc (Nat.le_refl _) _
  have hsz : w.heap.size < (w.alloc (.cells #[.iface T x] 117)).heap.size := by simp
  cases h1 : isA p 46 with
  | true =>
    rw [h1] at e1
    rw [if_pos (Or.inl rfl)]
    clear ht
    go_enter Tryd.func79, Tryd.ntmps79
    go_wp2_with ((go_at_call 103; refine (hkp _).mono ?_; rintro e W1 ⟨rfl, hb1⟩; have d0 := (hb1.cell (p := ⟨w.heap.size, 0, none⟩) hsz).trans c0))
    go_ret2
    exact ⟨hA.trans (hb1.mono hA.size), rfl⟩
  | false =>
    rw [h1] at e1
    cases h2 : testN p with
    | true =>
      rw [h2] at ht
      rw [if_pos (Or.inr rfl)]
      go_enter Tryd.func79, Tryd.ntmps79
      go_wp2_with (first | (go_at_call 103; refine (hkp _).mono ?_; rintro e W1 ⟨rfl, hb1⟩; have d0 := (hb1.cell (p := ⟨w.heap.size, 0, none⟩) hsz).trans c0) | (go_at_call 104; refine (ht _).mono ?_; rintro e W2 ⟨rfl, hb2⟩))
      go_ret2
      have hW := hA.trans (hb1.mono hA.size)
      exact ⟨hW.trans (hb2.mono hW.size), rfl⟩
    | false =>
      rw [h2] at ht
      rw [if_neg (fun h => by rcases h with h | h <;> cases h)]
      go_enter Tryd.func79, Tryd.ntmps79
      go_wp2_with (first | (go_at_call 103; refine (hkp _).mono ?_; rintro e W1 ⟨rfl, hb1⟩; have d0 := (hb1.cell (p := ⟨w.heap.size, 0, none⟩) hsz).trans c0) | (go_at_call 104; refine (ht _).mono ?_; rintro e W2 ⟨rfl, hb2⟩))
      go_ret2
      have hW := hA.trans (hb1.mono hA.size)
      exact ⟨hW.trans (hb2.mono hW.size), _, rfl⟩

/-! ### Assignments -/
theorem over_kind {p q : Node} (hp : p.ok) (hq : q.ok) : overN p q = (decide (kindN p ∈ twos) && (decide (kindN q ∈ twos) && ((kindN p).headD 0 == (kindN q).headD 0 && (kindN q).getD 1 0 != 43))) := by
  have n1 : ∀ nd : Node, nd.ok → (∀ a, nd ≠ .atom a) → decide (kindN nd ∈ twos) = false := by
    intro nd h hn
    cases nd with
    | atom a => exact absurd rfl (hn a)
    | loop p => exact (by decide : decide (([123] : List UInt8) ∈ twos) = false)
    | pair k p q =>
      obtain ⟨rfl | rfl, _, _⟩ := h
      · exact (by decide : decide (([59] : List UInt8) ∈ twos) = false)
      · exact (by decide : decide (([124] : List UInt8) ∈ twos) = false)
  cases p with
  | atom a =>
    cases q with
    | atom b => rfl
    | loop r => rw [n1 (.loop r) hq (by simp)]; simp [overN]
    | pair k r s => rw [n1 (.pair k r s) hq (by simp)]; simp [overN]
  | loop r => rw [n1 (.loop r) hp (by simp)]; simp [overN]
  | pair k r s => rw [n1 (.pair k r s) hp (by simp)]; simp [overN]
theorem byte_at0 (c d : UInt8) (h : 0 < (⟨#[c, d]⟩ : ByteArray).size) : (⟨#[c, d]⟩ : ByteArray)[0]'h = c := rfl
theorem byte_at1 (c d : UInt8) (h : 1 < (⟨#[c, d]⟩ : ByteArray).size) : (⟨#[c, d]⟩ : ByteArray)[1]'h = d := rfl
end Go.Proofs.YtgkgkaapjljpcaaDoor

