/- Chapter 11, the program: the rules on tests and on assignments. -/
import Derived.Test.YtgkgkaapjljpcaaDoorZB
namespace Go.Proofs.YtgkgkaapjljpcaaDoor
open Go.ChangeShapes Go.WideShapes Go.ChangeAt Go.RowKit Go.Shelf
attribute [local go_sem] Oper.semAt_some
set_option maxRecDepth 100000

set_option maxHeartbeats 4000000 in
theorem rule3 (p q : Node) (hp : p.ok) (hq : q.ok) (lp : p.text.length ≤ 1000) (lq : q.text.length ≤ 1000) (w : World) :
    Calls Tryd.prog 73 #[.agg #[nodeV p, nodeV q]] w (Fits (r3N p q) w) := by
  have ht := ptest p hp
  have ht1 := ptext p hp lp
  have ht2 := ptext q hq lq
  have hm1 := meth_text p hp
  have hm2 := meth_text q hq
  have hcf1 := call_text p hp
  have hcf2 := call_text q hq
  have hv := nodeV_eq p hp
  have hv2 := nodeV_eq q hq
  have HV := Lib.hid hv
  have HV2 := Lib.hid hv2
  unfold Fits r3N
  rw [hv, hv2]
  rw [hv] at ht
  clear hv hv2
  obtain ⟨c0, c1⟩ := @two_new (nodeT p) (nodeT q) (nodeX p) (nodeX q) w 107
  have hA : Below w.heap.size w (w.alloc (.cells #[.iface (nodeT p) (nodeX p), .iface (nodeT q) (nodeX q)] 107)) := (Below.refl _ _).alloc (Nat.le_refl _) _
  have hsz : w.heap.size < (w.alloc (.cells #[.iface (nodeT p) (nodeX p), .iface (nodeT q) (nodeX q)] 107)).heap.size := by simp
  obtain ⟨g0, hg0⟩ : ∃ g0, g0 = w.heap.size := ⟨_, rfl⟩
  obtain ⟨V, hV⟩ : ∃ V, V = w.alloc (.cells #[.iface (nodeT p) (nodeX p), .iface (nodeT q) (nodeX q)] 107) := ⟨_, rfl⟩
  rw [← hV] at c0 c1 hA hsz
  rw [← hg0] at c0 c1 hsz
  generalize hTp : nodeT p = Tp at *
  generalize hXp : nodeX p = Xp at *
  generalize hTq : nodeT q = Tq at *
  generalize hXq : nodeX q = Xq at *
  generalize hFp : textFn p = Fp at *
  generalize hFq : textFn q = Fq at *
  cases h1 : testN p with
  | false =>
    rw [h1] at ht
    rw [if_neg (fun h => by cases h.1)]
    clear ht1 ht2 hm1 hm2 hcf1 hcf2
    go_enter Tryd.func73, Tryd.ntmps73
    go_wp2_with fail
    rw [← hV, ← hg0]
    have HVV := Lib.hid hV
    have HG := Lib.hid hg0
    have HA := Lib.hid hA
    clear hV hg0 hA
    refine wp_region_held (S := fun w' => w'.cell? ⟨g0, 0, none⟩ = some (.iface Tp Xp) ∧ w'.cell? ⟨g0, 1, none⟩ = some (.iface Tq Xq)) (by kernel_rfl) ?_
    have hS : V.drew.cell? ⟨g0, 0, none⟩ = some (.iface Tp Xp) ∧ V.drew.cell? ⟨g0, 1, none⟩ = some (.iface Tq Xq) := ⟨c0, c1⟩
    refine wpAnyH_take (i := 0) (v := .pointer (some ⟨g0, 0, none⟩)) rfl (by kernel_rfl) (by kernel_rfl) (by kernel_rfl) (fun _ _ _ h => h) (Or.inl ⟨by rfl, fun w hw => by go_simp⟩) hS ?_
    go_simp
    refine wpAnyH_take (i := 1) (v := .iface Tp Xp) rfl (by kernel_rfl) (by kernel_rfl) (by kernel_rfl) (fun _ _ _ h => h) (Or.inl ⟨by rfl, fun w hw => by obtain ⟨l0, l1⟩ := hw; first | (go_simp; done) | rfl⟩) hS ?_
    go_simp
    refine wpAnyH_take (i := 2) (v := .pointer (some ⟨g0, 0, none⟩)) rfl (by kernel_rfl) (by kernel_rfl) (by kernel_rfl) (fun _ _ _ h => h) (Or.inl ⟨by rfl, fun w hw => by go_simp⟩) hS ?_
    go_simp
    refine wpAnyH_take (i := 3) (v := .iface Tp Xp) rfl (by kernel_rfl) (by kernel_rfl) (by kernel_rfl) (fun _ _ _ h => h) (Or.inl ⟨by rfl, fun w hw => by obtain ⟨l0, l1⟩ := hw; first | (go_simp; done) | rfl⟩) hS ?_
    go_simp
    refine wpAnyH_ready (rs := [4]) (by kernel_rfl) (by simp) ?_
    refine AllReadyH.cons rfl (fun K hK => ?_) AllReadyH.nil
    go_simp
    go_wp2_with (go_at_call 104; refine (ht _).mono ?_; rintro e W1 ⟨rfl, hb1⟩)
    refine hK _ _ (⟨(hb1.cell (p := ⟨g0, 0, none⟩) hsz).trans hS.1, (hb1.cell (p := ⟨g0, 1, none⟩) hsz).trans hS.2⟩) (fun hR1 => ?_)
    clear hK K
    go_simp
    refine wpAnyH_take (i := 5) (v := .bool false) rfl (by kernel_rfl) (by kernel_rfl) (by kernel_rfl) (fun _ _ _ h => h) (Or.inl ⟨by rfl, fun w hw => by go_simp⟩) hR1 ?_
    go_simp
    refine wpAnyH_take (i := 6) (v := undef) rfl (by kernel_rfl) (by kernel_rfl) (by kernel_rfl) (fun _ _ _ h => h) (Or.inr ⟨by rfl, rfl⟩) hR1 ?_
    go_simp
    refine wpAnyH_take (i := 7) (v := undef) rfl (by kernel_rfl) (by kernel_rfl) (by kernel_rfl) (fun _ _ _ h => h) (Or.inr ⟨by rfl, rfl⟩) hR1 ?_
    go_simp
    refine wpAnyH_take (i := 8) (v := undef) rfl (by kernel_rfl) (by kernel_rfl) (by kernel_rfl) (fun _ _ _ h => h) (Or.inr ⟨by rfl, rfl⟩) hR1 ?_
    go_simp
    refine wpAnyH_take (i := 9) (v := undef) rfl (by kernel_rfl) (by kernel_rfl) (by kernel_rfl) (fun _ _ _ h => h) (Or.inr ⟨by rfl, rfl⟩) hR1 ?_
    go_simp
    refine wpAnyH_take (i := 10) (v := undef) rfl (by kernel_rfl) (by kernel_rfl) (by kernel_rfl) (fun _ _ _ h => h) (Or.inr ⟨by rfl, rfl⟩) hR1 ?_
    go_simp
    refine wpAnyH_take (i := 11) (v := undef) rfl (by kernel_rfl) (by kernel_rfl) (by kernel_rfl) (fun _ _ _ h => h) (Or.inr ⟨by rfl, rfl⟩) hR1 ?_
    go_simp
    refine wpAnyH_take (i := 12) (v := undef) rfl (by kernel_rfl) (by kernel_rfl) (by kernel_rfl) (fun _ _ _ h => h) (Or.inr ⟨by rfl, rfl⟩) hR1 ?_
    go_simp
    refine wpAnyH_take (i := 13) (v := .bool false) rfl (by kernel_rfl) (by kernel_rfl) (by kernel_rfl) (fun _ _ _ h => h) (Or.inl ⟨by rfl, fun w hw => by go_simp⟩) hR1 ?_
    go_simp
    refine wpAnyH_take (i := 14) (v := .iface Tp Xp) rfl (by kernel_rfl) (by kernel_rfl) (by kernel_rfl) (fun _ _ _ h => h) (Or.inl ⟨by rfl, fun w hw => by go_simp⟩) hR1 ?_
    go_simp
    refine wpAnyH_take (i := 15) (v := .bool false) rfl (by kernel_rfl) (by kernel_rfl) (by kernel_rfl) (fun _ _ _ h => h) (Or.inl ⟨by rfl, fun w hw => by go_simp⟩) hR1 ?_
    go_simp
    refine wpAnyH_done (by kernel_rfl) ?_ _
    go_wp2_with fail
    go_ret2
    have hA := HA.out
    have hE : Below w.heap.size w W1 := by first | exact hA.trans (hb1.mono hA.size) | exact hA.drew.trans (hb1.mono hA.size) | exact hA.drew.drew.trans (hb1.mono hA.size)
    first | exact ⟨hE, _, rfl⟩ | exact ⟨hE.drew, _, rfl⟩
  | true =>
    rw [h1] at ht
    cases hq2 : decide (p.text = q.text) with
    | true =>
      have hpq : p.text = q.text := of_decide_eq_true hq2
      have hbe : (p.text == q.text) = true := by simpa using hpq
      have HPQ := Lib.hid hpq
      clear hq2 hpq
      rw [if_pos (by exact ⟨rfl, HPQ.out⟩)]
      generalize p.text = tp at *
      generalize q.text = tq at *
      go_enter Tryd.func73, Tryd.ntmps73
      go_wp2_with fail
      rw [← hV, ← hg0]
      have HVV := Lib.hid hV
      have HG := Lib.hid hg0
      have HA := Lib.hid hA
      clear hV hg0 hA
      refine wp_region_held (S := fun w' => w'.cell? ⟨g0, 0, none⟩ = some (.iface Tp Xp) ∧ w'.cell? ⟨g0, 1, none⟩ = some (.iface Tq Xq)) (by kernel_rfl) ?_
      have hS : V.drew.cell? ⟨g0, 0, none⟩ = some (.iface Tp Xp) ∧ V.drew.cell? ⟨g0, 1, none⟩ = some (.iface Tq Xq) := ⟨c0, c1⟩
      refine wpAnyH_take (i := 0) (v := .pointer (some ⟨g0, 0, none⟩)) rfl (by kernel_rfl) (by kernel_rfl) (by kernel_rfl) (fun _ _ _ h => h) (Or.inl ⟨by rfl, fun w hw => by go_simp⟩) hS ?_
      go_simp
      refine wpAnyH_take (i := 1) (v := .iface Tp Xp) rfl (by kernel_rfl) (by kernel_rfl) (by kernel_rfl) (fun _ _ _ h => h) (Or.inl ⟨by rfl, fun w hw => by obtain ⟨l0, l1⟩ := hw; first | (go_simp; done) | rfl⟩) hS ?_
      go_simp
      refine wpAnyH_take (i := 2) (v := .pointer (some ⟨g0, 0, none⟩)) rfl (by kernel_rfl) (by kernel_rfl) (by kernel_rfl) (fun _ _ _ h => h) (Or.inl ⟨by rfl, fun w hw => by go_simp⟩) hS ?_
      go_simp
      refine wpAnyH_take (i := 3) (v := .iface Tp Xp) rfl (by kernel_rfl) (by kernel_rfl) (by kernel_rfl) (fun _ _ _ h => h) (Or.inl ⟨by rfl, fun w hw => by obtain ⟨l0, l1⟩ := hw; first | (go_simp; done) | rfl⟩) hS ?_
      go_simp
      refine wpAnyH_ready (rs := [4]) (by kernel_rfl) (by simp) ?_
      refine AllReadyH.cons rfl (fun K hK => ?_) AllReadyH.nil
      go_simp
      go_wp2_with (go_at_call 104; refine (ht _).mono ?_; rintro e W1 ⟨rfl, hb1⟩)
      refine hK _ _ (⟨(hb1.cell (p := ⟨g0, 0, none⟩) hsz).trans hS.1, (hb1.cell (p := ⟨g0, 1, none⟩) hsz).trans hS.2⟩) (fun hR1 => ?_)
      clear hK K
      go_simp
      refine wpAnyH_take (i := 5) (v := .bool true) rfl (by kernel_rfl) (by kernel_rfl) (by kernel_rfl) (fun _ _ _ h => h) (Or.inl ⟨by rfl, fun w hw => by go_simp⟩) hR1 ?_
      go_simp
      have hs1 := Nat.lt_of_lt_of_le hsz hb1.size
      refine wpAnyH_take (i := 6) (v := .pointer (some ⟨g0, 0, none⟩)) rfl (by kernel_rfl) (by kernel_rfl) (by kernel_rfl) (fun _ _ _ h => h) (Or.inl ⟨by rfl, fun w hw => by go_simp⟩) hR1 ?_
      go_simp
      refine wpAnyH_take (i := 7) (v := .iface Tp Xp) rfl (by kernel_rfl) (by kernel_rfl) (by kernel_rfl) (fun _ _ _ h => h) (Or.inl ⟨by rfl, fun w hw => by obtain ⟨l0, l1⟩ := hw; first | (go_simp; done) | rfl⟩) hR1 ?_
      go_simp
      refine wpAnyH_take (i := 9) (v := .pointer (some ⟨g0, 1, none⟩)) rfl (by kernel_rfl) (by kernel_rfl) (by kernel_rfl) (fun _ _ _ h => h) (Or.inl ⟨by rfl, fun w hw => by go_simp⟩) hR1 ?_
      go_simp
      refine wpAnyH_take (i := 10) (v := .iface Tq Xq) rfl (by kernel_rfl) (by kernel_rfl) (by kernel_rfl) (fun _ _ _ h => h) (Or.inl ⟨by rfl, fun w hw => by obtain ⟨l0, l1⟩ := hw; first | (go_simp; done) | rfl⟩) hR1 ?_
      go_simp
      refine wpAnyH_ready (rs := [8]) (by kernel_rfl) (by simp) ?_
      refine AllReadyH.cons rfl (fun K hK => ?_) AllReadyH.nil
      go_simp
      go_wp2_with (refine (ht1 _).mono ?_; rintro e W2 ⟨rfl, hb2⟩)
      refine hK _ _ (⟨(hb2.cell (p := ⟨g0, 0, none⟩) hs1).trans hR1.1, (hb2.cell (p := ⟨g0, 1, none⟩) hs1).trans hR1.2⟩) (fun hR2 => ?_)
      clear hK K
      go_simp
      have hs2 := Nat.lt_of_lt_of_le hs1 hb2.size
      refine wpAnyH_ready (rs := [11]) (by kernel_rfl) (by simp) ?_
      refine AllReadyH.cons rfl (fun K hK => ?_) AllReadyH.nil
      go_simp
      go_wp2_with (refine (ht2 _).mono ?_; rintro e W3 ⟨rfl, hb3⟩)
      refine hK _ _ (⟨(hb3.cell (p := ⟨g0, 0, none⟩) hs2).trans hR2.1, (hb3.cell (p := ⟨g0, 1, none⟩) hs2).trans hR2.2⟩) (fun hR3 => ?_)
      clear hK K
      go_simp
      refine wpAnyH_take (i := 12) (v := .bool true) rfl (by kernel_rfl) (by kernel_rfl) (by kernel_rfl) (fun _ _ _ h => h) (Or.inl ⟨by rfl, fun w hw => by go_simp⟩) hR3 ?_
      go_simp
      refine wpAnyH_take (i := 13) (v := .bool true) rfl (by kernel_rfl) (by kernel_rfl) (by kernel_rfl) (fun _ _ _ h => h) (Or.inl ⟨by rfl, fun w hw => by go_simp⟩) hR3 ?_
      go_simp
      refine wpAnyH_take (i := 14) (v := .iface Tp Xp) rfl (by kernel_rfl) (by kernel_rfl) (by kernel_rfl) (fun _ _ _ h => h) (Or.inl ⟨by rfl, fun w hw => by go_simp⟩) hR3 ?_
      go_simp
      refine wpAnyH_take (i := 15) (v := .bool true) rfl (by kernel_rfl) (by kernel_rfl) (by kernel_rfl) (fun _ _ _ h => h) (Or.inl ⟨by rfl, fun w hw => by go_simp⟩) hR3 ?_
      go_simp
      refine wpAnyH_done (by kernel_rfl) ?_ _
      go_wp2_with fail
      go_ret2
      have hA := HA.out
      have h1 : Below w.heap.size w W1 := by first | exact hA.trans (hb1.mono hA.size) | exact hA.drew.trans (hb1.mono hA.size) | exact hA.drew.drew.trans (hb1.mono hA.size)
      have h2 := h1.trans (hb2.mono h1.size)
      have hE := h2.trans (hb3.mono h2.size)
      first | exact ⟨hE, congrArg (fun z => Ending.returned (.tuple #[z, .bool true])) HV.out.symm⟩ | exact ⟨hE.drew, congrArg (fun z => Ending.returned (.tuple #[z, .bool true])) HV.out.symm⟩
    | false =>
      have hpq : ¬ p.text = q.text := of_decide_eq_false hq2
      have hbe : (p.text == q.text) = false := by simpa using hpq
      have HPQ := Lib.hid hpq
      clear hq2 hpq
      rw [if_neg (by exact fun h => HPQ.out h.2)]
      generalize p.text = tp at *
      generalize q.text = tq at *
      go_enter Tryd.func73, Tryd.ntmps73
      go_wp2_with fail
      rw [← hV, ← hg0]
      have HVV := Lib.hid hV
      have HG := Lib.hid hg0
      have HA := Lib.hid hA
      clear hV hg0 hA
      refine wp_region_held (S := fun w' => w'.cell? ⟨g0, 0, none⟩ = some (.iface Tp Xp) ∧ w'.cell? ⟨g0, 1, none⟩ = some (.iface Tq Xq)) (by kernel_rfl) ?_
      have hS : V.drew.cell? ⟨g0, 0, none⟩ = some (.iface Tp Xp) ∧ V.drew.cell? ⟨g0, 1, none⟩ = some (.iface Tq Xq) := ⟨c0, c1⟩
      refine wpAnyH_take (i := 0) (v := .pointer (some ⟨g0, 0, none⟩)) rfl (by kernel_rfl) (by kernel_rfl) (by kernel_rfl) (fun _ _ _ h => h) (Or.inl ⟨by rfl, fun w hw => by go_simp⟩) hS ?_
      go_simp
      refine wpAnyH_take (i := 1) (v := .iface Tp Xp) rfl (by kernel_rfl) (by kernel_rfl) (by kernel_rfl) (fun _ _ _ h => h) (Or.inl ⟨by rfl, fun w hw => by obtain ⟨l0, l1⟩ := hw; first | (go_simp; done) | rfl⟩) hS ?_
      go_simp
      refine wpAnyH_take (i := 2) (v := .pointer (some ⟨g0, 0, none⟩)) rfl (by kernel_rfl) (by kernel_rfl) (by kernel_rfl) (fun _ _ _ h => h) (Or.inl ⟨by rfl, fun w hw => by go_simp⟩) hS ?_
      go_simp
      refine wpAnyH_take (i := 3) (v := .iface Tp Xp) rfl (by kernel_rfl) (by kernel_rfl) (by kernel_rfl) (fun _ _ _ h => h) (Or.inl ⟨by rfl, fun w hw => by obtain ⟨l0, l1⟩ := hw; first | (go_simp; done) | rfl⟩) hS ?_
      go_simp
      refine wpAnyH_ready (rs := [4]) (by kernel_rfl) (by simp) ?_
      refine AllReadyH.cons rfl (fun K hK => ?_) AllReadyH.nil
      go_simp
      go_wp2_with (go_at_call 104; refine (ht _).mono ?_; rintro e W1 ⟨rfl, hb1⟩)
      refine hK _ _ (⟨(hb1.cell (p := ⟨g0, 0, none⟩) hsz).trans hS.1, (hb1.cell (p := ⟨g0, 1, none⟩) hsz).trans hS.2⟩) (fun hR1 => ?_)
      clear hK K
      go_simp
      refine wpAnyH_take (i := 5) (v := .bool true) rfl (by kernel_rfl) (by kernel_rfl) (by kernel_rfl) (fun _ _ _ h => h) (Or.inl ⟨by rfl, fun w hw => by go_simp⟩) hR1 ?_
      go_simp
      have hs1 := Nat.lt_of_lt_of_le hsz hb1.size
      refine wpAnyH_take (i := 6) (v := .pointer (some ⟨g0, 0, none⟩)) rfl (by kernel_rfl) (by kernel_rfl) (by kernel_rfl) (fun _ _ _ h => h) (Or.inl ⟨by rfl, fun w hw => by go_simp⟩) hR1 ?_
      go_simp
      refine wpAnyH_take (i := 7) (v := .iface Tp Xp) rfl (by kernel_rfl) (by kernel_rfl) (by kernel_rfl) (fun _ _ _ h => h) (Or.inl ⟨by rfl, fun w hw => by obtain ⟨l0, l1⟩ := hw; first | (go_simp; done) | rfl⟩) hR1 ?_
      go_simp
      refine wpAnyH_take (i := 9) (v := .pointer (some ⟨g0, 1, none⟩)) rfl (by kernel_rfl) (by kernel_rfl) (by kernel_rfl) (fun _ _ _ h => h) (Or.inl ⟨by rfl, fun w hw => by go_simp⟩) hR1 ?_
      go_simp
      refine wpAnyH_take (i := 10) (v := .iface Tq Xq) rfl (by kernel_rfl) (by kernel_rfl) (by kernel_rfl) (fun _ _ _ h => h) (Or.inl ⟨by rfl, fun w hw => by obtain ⟨l0, l1⟩ := hw; first | (go_simp; done) | rfl⟩) hR1 ?_
      go_simp
      refine wpAnyH_ready (rs := [8]) (by kernel_rfl) (by simp) ?_
      refine AllReadyH.cons rfl (fun K hK => ?_) AllReadyH.nil
      go_simp
      go_wp2_with (refine (ht1 _).mono ?_; rintro e W2 ⟨rfl, hb2⟩)
      refine hK _ _ (⟨(hb2.cell (p := ⟨g0, 0, none⟩) hs1).trans hR1.1, (hb2.cell (p := ⟨g0, 1, none⟩) hs1).trans hR1.2⟩) (fun hR2 => ?_)
      clear hK K
      go_simp
      have hs2 := Nat.lt_of_lt_of_le hs1 hb2.size
      refine wpAnyH_ready (rs := [11]) (by kernel_rfl) (by simp) ?_
      refine AllReadyH.cons rfl (fun K hK => ?_) AllReadyH.nil
      go_simp
      go_wp2_with (refine (ht2 _).mono ?_; rintro e W3 ⟨rfl, hb3⟩)
      refine hK _ _ (⟨(hb3.cell (p := ⟨g0, 0, none⟩) hs2).trans hR2.1, (hb3.cell (p := ⟨g0, 1, none⟩) hs2).trans hR2.2⟩) (fun hR3 => ?_)
      clear hK K
      go_simp
      refine wpAnyH_take (i := 12) (v := .bool false) rfl (by kernel_rfl) (by kernel_rfl) (by kernel_rfl) (fun _ _ _ h => h) (Or.inl ⟨by rfl, fun w hw => by go_simp⟩) hR3 ?_
      go_simp
      refine wpAnyH_take (i := 13) (v := .bool false) rfl (by kernel_rfl) (by kernel_rfl) (by kernel_rfl) (fun _ _ _ h => h) (Or.inl ⟨by rfl, fun w hw => by go_simp⟩) hR3 ?_
      go_simp
      refine wpAnyH_take (i := 14) (v := .iface Tp Xp) rfl (by kernel_rfl) (by kernel_rfl) (by kernel_rfl) (fun _ _ _ h => h) (Or.inl ⟨by rfl, fun w hw => by go_simp⟩) hR3 ?_
      go_simp
      refine wpAnyH_take (i := 15) (v := .bool false) rfl (by kernel_rfl) (by kernel_rfl) (by kernel_rfl) (fun _ _ _ h => h) (Or.inl ⟨by rfl, fun w hw => by go_simp⟩) hR3 ?_
      go_simp
      refine wpAnyH_done (by kernel_rfl) ?_ _
      go_wp2_with fail
      go_ret2
      have hA := HA.out
      have h1 : Below w.heap.size w W1 := by first | exact hA.trans (hb1.mono hA.size) | exact hA.drew.trans (hb1.mono hA.size) | exact hA.drew.drew.trans (hb1.mono hA.size)
      have h2 := h1.trans (hb2.mono h1.size)
      have hE := h2.trans (hb3.mono h2.size)
      first | exact ⟨hE, _, rfl⟩ | exact ⟨hE.drew, _, rfl⟩
end Go.Proofs.YtgkgkaapjljpcaaDoor

