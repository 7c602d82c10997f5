/- Chapter 11, the program: the rule on assignments. -/
import Derived.Test.YtgkgkaapjljpcaaDoorZF
namespace Go.Proofs.YtgkgkaapjljpcaaDoor
open Go.ChangeShapes Go.WideShapes Go.ChangeAt Go.RowKit Go.Shelf
attribute [local go_sem] Oper.semAt_some
set_option maxRecDepth 100000

set_option maxHeartbeats 4000000 in
theorem rule4 (p q : Node) (hp : p.ok) (hq : q.ok) (w : World) {N : Nat} (hL : Laid3 N w) :
    Calls Tryd.prog 74 #[.agg #[nodeV p, nodeV q]] w (Fits (r4N p q) w) := by
  have hkp := pkindN p hp
  have hkq := pkindN q hq
  have ho := over_kind hp hq
  obtain ⟨T, x, hv⟩ := nodeV_iface p
  obtain ⟨U, y, hv2⟩ := nodeV_iface q
  have HV2 := Lib.hid hv2
  unfold Fits r4N
  rw [hv, hv2]
  rw [hv] at hkp
  rw [hv2] at hkq
  clear hv hv2
  rw [ho]
  clear ho
  generalize kindN p = kp at hkp ⊢
  generalize kindN q = kq at hkq ⊢
  obtain ⟨c0, c1⟩ := @two_new T U x y w 107
  have hA : Below w.heap.size w (w.alloc (.cells #[.iface T x, .iface U y] 107)) := (Below.refl _ _).alloc (Nat.le_refl _) _
  have hsz : w.heap.size < (w.alloc (.cells #[.iface T x, .iface U y] 107)).heap.size := by simp
  obtain ⟨g0, hg0⟩ : ∃ g0, g0 = w.heap.size := ⟨_, rfl⟩
  obtain ⟨V, hV⟩ : ∃ V, V = w.alloc (.cells #[.iface T x, .iface U y] 107) := ⟨_, rfl⟩
  rw [← hV] at c0 c1 hA hsz
  rw [← hg0] at c0 c1 hsz
  have hcon := containsT twos (by decide)
  rw [twos_len12] at hcon
  have hc1 := fun W g c hb => hcon ⟨kp.toArray⟩ W g c hb
  have hc2 := fun W g c hb => hcon ⟨kq.toArray⟩ W g c hb
  have m1 : decide ((⟨kp.toArray⟩ : ByteArray).toList ∈ twos) = decide (kp ∈ twos) := by rw [Lib.toList_data]
  have m2 : decide ((⟨kq.toArray⟩ : ByteArray).toList ∈ twos) = decide (kq ∈ twos) := by rw [Lib.toList_data]
  rw [m1] at hc1
  rw [m2] at hc2
  clear m1 m2 hcon
  cases h1 : decide (kp ∈ twos) with
  | false =>
    rw [h1] at hc1
    rw [Bool.false_and, if_neg (by simp)]
    clear hc2
    go_enter Tryd.func74, Tryd.ntmps74
    go_wp2_with fail
    rw [← hV, ← hg0]
    have HVV := Lib.hid hV
    have HG := Lib.hid hg0
    have HA := Lib.hid hA
    clear hV hg0 hA
    refine wp_region_held (S := fun w' => w'.cell? ⟨g0, 0, none⟩ = some (.iface T x) ∧ w'.cell? ⟨g0, 1, none⟩ = some (.iface U y)) (by kernel_rfl) ?_
    have hS : V.drew.cell? ⟨g0, 0, none⟩ = some (.iface T x) ∧ V.drew.cell? ⟨g0, 1, none⟩ = some (.iface U y) := ⟨c0, c1⟩
    refine wpAnyH_take (i := 0) (v := .pointer (some ⟨g0, 0, none⟩)) rfl (by kernel_rfl) (by kernel_rfl) (by kernel_rfl) (fun _ _ _ h => h) (Or.inl ⟨by rfl, fun w hw => by go_simp⟩) hS ?_
    go_simp
    refine wpAnyH_take (i := 1) (v := .iface T x) rfl (by kernel_rfl) (by kernel_rfl) (by kernel_rfl) (fun _ _ _ h => h) (Or.inl ⟨by rfl, fun w hw => by obtain ⟨l0, l1⟩ := hw; first | (go_simp; done) | rfl⟩) hS ?_
    go_simp
    refine wpAnyH_take (i := 3) (v := .pointer (some ⟨g0, 1, none⟩)) rfl (by kernel_rfl) (by kernel_rfl) (by kernel_rfl) (fun _ _ _ h => h) (Or.inl ⟨by rfl, fun w hw => by go_simp⟩) hS ?_
    go_simp
    refine wpAnyH_take (i := 4) (v := .iface U y) rfl (by kernel_rfl) (by kernel_rfl) (by kernel_rfl) (fun _ _ _ h => h) (Or.inl ⟨by rfl, fun w hw => by obtain ⟨l0, l1⟩ := hw; first | (go_simp; done) | rfl⟩) hS ?_
    go_simp
    refine wpAnyH_ready (rs := [2]) (by kernel_rfl) (by simp) ?_
    refine AllReadyH.cons rfl (fun K hK => ?_) AllReadyH.nil
    go_simp
    go_wp2_with (go_at_call 103; refine (hkp _).mono ?_; rintro e W1 ⟨rfl, hb1⟩)
    refine hK _ _ (⟨(hb1.cell (p := ⟨g0, 0, none⟩) hsz).trans hS.1, (hb1.cell (p := ⟨g0, 1, none⟩) hsz).trans hS.2⟩) (fun hR1 => ?_)
    clear hK K
    go_simp
    have hs1 := Nat.lt_of_lt_of_le hsz hb1.size
    refine wpAnyH_ready (rs := [5]) (by kernel_rfl) (by simp) ?_
    refine AllReadyH.cons rfl (fun K hK => ?_) AllReadyH.nil
    go_simp
    go_wp2_with (go_at_call 103; refine (hkq _).mono ?_; rintro e W2 ⟨rfl, hb2⟩)
    refine hK _ _ (⟨(hb2.cell (p := ⟨g0, 0, none⟩) hs1).trans hR1.1, (hb2.cell (p := ⟨g0, 1, none⟩) hs1).trans hR1.2⟩) (fun hR2 => ?_)
    clear hK K
    go_simp
    refine wpAnyH_take (i := 6) (v := .string ⟨kp.toArray⟩) rfl (by kernel_rfl) (by kernel_rfl) (by kernel_rfl) (fun _ _ _ h => h) (Or.inl ⟨by rfl, fun w hw => by go_simp⟩) hR2 ?_
    go_simp
    refine wpAnyH_take (i := 7) (v := .string ⟨kq.toArray⟩) rfl (by kernel_rfl) (by kernel_rfl) (by kernel_rfl) (fun _ _ _ h => h) (Or.inl ⟨by rfl, fun w hw => by go_simp⟩) hR2 ?_
    go_simp
    refine wpAnyH_done (by kernel_rfl) ?_ _
    have hs2 := Nat.lt_of_lt_of_le hs1 hb2.size
    have hW1 := HA.out.drew.trans (hb1.mono HA.out.size)
    have hE := hW1.trans (hb2.mono hW1.size)
    obtain ⟨_, ⟨ga, ca, ta, tb, _, _⟩, _⟩ := hL.below hE hL.lt
    have hE := Lib.hid hE
    have hW1 := Lib.hid hW1
    obtain ⟨d0, d1⟩ := hR2
    go_wp2_with ((go_at_call 105; refine (hc1 _ ga ca tb).mono ?_; rintro e W3 ⟨rfl, rfl⟩))
    refine wp_region_held (S := fun w' => w'.cell? ⟨g0, 0, none⟩ = some (.iface T x) ∧ w'.cell? ⟨g0, 1, none⟩ = some (.iface U y)) (by kernel_rfl) ?_
    have hT : W2.drew.cell? ⟨g0, 0, none⟩ = some (.iface T x) ∧ W2.drew.cell? ⟨g0, 1, none⟩ = some (.iface U y) := ⟨d0, d1⟩
    refine wpAnyH_take (i := 0) (v := .pointer (some ⟨g0, 1, none⟩)) rfl (by kernel_rfl) (by kernel_rfl) (by kernel_rfl) (fun _ _ _ h => h) (Or.inl ⟨by rfl, fun w hw => by go_simp⟩) hT ?_
    go_simp
    refine wpAnyH_take (i := 1) (v := .iface U y) rfl (by kernel_rfl) (by kernel_rfl) (by kernel_rfl) (fun _ _ _ h => h) (Or.inl ⟨by rfl, fun w hw => by obtain ⟨l0, l1⟩ := hw; first | (go_simp; done) | rfl⟩) hT ?_
    go_simp
    refine wpAnyH_take (i := 2) (v := .bool false) rfl (by kernel_rfl) (by kernel_rfl) (by kernel_rfl) (fun _ _ _ h => h) (Or.inl ⟨by rfl, fun w hw => by go_simp⟩) hT ?_
    go_simp
    refine wpAnyH_take (i := 3) (v := .bool false) rfl (by kernel_rfl) (by kernel_rfl) (by kernel_rfl) (fun _ _ _ h => h) (Or.inl ⟨by rfl, fun w hw => by go_simp⟩) hT ?_
    go_simp
    refine wpAnyH_take (i := 4) (v := undef) rfl (by kernel_rfl) (by kernel_rfl) (by kernel_rfl) (fun _ _ _ h => h) (Or.inr ⟨by rfl, rfl⟩) hT ?_
    go_simp
    refine wpAnyH_take (i := 5) (v := undef) rfl (by kernel_rfl) (by kernel_rfl) (by kernel_rfl) (fun _ _ _ h => h) (Or.inr ⟨by rfl, rfl⟩) hT ?_
    go_simp
    refine wpAnyH_take (i := 6) (v := undef) rfl (by kernel_rfl) (by kernel_rfl) (by kernel_rfl) (fun _ _ _ h => h) (Or.inr ⟨by rfl, rfl⟩) hT ?_
    go_simp
    refine wpAnyH_take (i := 7) (v := undef) rfl (by kernel_rfl) (by kernel_rfl) (by kernel_rfl) (fun _ _ _ h => h) (Or.inr ⟨by rfl, rfl⟩) hT ?_
    go_simp
    refine wpAnyH_take (i := 8) (v := undef) rfl (by kernel_rfl) (by kernel_rfl) (by kernel_rfl) (fun _ _ _ h => h) (Or.inr ⟨by rfl, rfl⟩) hT ?_
    go_simp
    refine wpAnyH_take (i := 9) (v := .bool false) rfl (by kernel_rfl) (by kernel_rfl) (by kernel_rfl) (fun _ _ _ h => h) (Or.inl ⟨by rfl, fun w hw => by go_simp⟩) hT ?_
    go_simp
    refine wpAnyH_take (i := 10) (v := .bool false) rfl (by kernel_rfl) (by kernel_rfl) (by kernel_rfl) (fun _ _ _ h => h) (Or.inl ⟨by rfl, fun w hw => by go_simp⟩) hT ?_
    go_simp
    refine wpAnyH_take (i := 11) (v := undef) rfl (by kernel_rfl) (by kernel_rfl) (by kernel_rfl) (fun _ _ _ h => h) (Or.inr ⟨by rfl, rfl⟩) hT ?_
    go_simp
    refine wpAnyH_take (i := 12) (v := undef) rfl (by kernel_rfl) (by kernel_rfl) (by kernel_rfl) (fun _ _ _ h => h) (Or.inr ⟨by rfl, rfl⟩) hT ?_
    go_simp
    refine wpAnyH_take (i := 13) (v := undef) rfl (by kernel_rfl) (by kernel_rfl) (by kernel_rfl) (fun _ _ _ h => h) (Or.inr ⟨by rfl, rfl⟩) hT ?_
    go_simp
    refine wpAnyH_take (i := 14) (v := .bool false) rfl (by kernel_rfl) (by kernel_rfl) (by kernel_rfl) (fun _ _ _ h => h) (Or.inl ⟨by rfl, fun w hw => by go_simp⟩) hT ?_
    go_simp
    refine wpAnyH_take (i := 15) (v := .iface U y) rfl (by kernel_rfl) (by kernel_rfl) (by kernel_rfl) (fun _ _ _ h => h) (Or.inl ⟨by rfl, fun w hw => by go_simp⟩) hT ?_
    go_simp
    refine wpAnyH_take (i := 16) (v := .bool false) rfl (by kernel_rfl) (by kernel_rfl) (by kernel_rfl) (fun _ _ _ h => h) (Or.inl ⟨by rfl, fun w hw => by go_simp⟩) hT ?_
    go_simp
    refine wpAnyH_done (by kernel_rfl) ?_ _
    go_wp2_with fail
    go_ret2
    first | exact ⟨hE.out, _, rfl⟩ | exact ⟨hE.out.drew, _, rfl⟩
  | true =>
    rw [h1] at hc1
    rw [Bool.true_and]
    cases h2 : decide (kq ∈ twos) with
    | false =>
      rw [h2] at hc2
      rw [Bool.false_and, if_neg (by simp)]
      go_enter Tryd.func74, Tryd.ntmps74
      go_wp2_with fail
      rw [← hV, ← hg0]
      have HVV := Lib.hid hV
      have HG := Lib.hid hg0
      have HA := Lib.hid hA
      clear hV hg0 hA
      refine wp_region_held (S := fun w' => w'.cell? ⟨g0, 0, none⟩ = some (.iface T x) ∧ w'.cell? ⟨g0, 1, none⟩ = some (.iface U y)) (by kernel_rfl) ?_
      have hS : V.drew.cell? ⟨g0, 0, none⟩ = some (.iface T x) ∧ V.drew.cell? ⟨g0, 1, none⟩ = some (.iface U y) := ⟨c0, c1⟩
      refine wpAnyH_take (i := 0) (v := .pointer (some ⟨g0, 0, none⟩)) rfl (by kernel_rfl) (by kernel_rfl) (by kernel_rfl) (fun _ _ _ h => h) (Or.inl ⟨by rfl, fun w hw => by go_simp⟩) hS ?_
      go_simp
      refine wpAnyH_take (i := 1) (v := .iface T x) rfl (by kernel_rfl) (by kernel_rfl) (by kernel_rfl) (fun _ _ _ h => h) (Or.inl ⟨by rfl, fun w hw => by obtain ⟨l0, l1⟩ := hw; first | (go_simp; done) | rfl⟩) hS ?_
      go_simp
      refine wpAnyH_take (i := 3) (v := .pointer (some ⟨g0, 1, none⟩)) rfl (by kernel_rfl) (by kernel_rfl) (by kernel_rfl) (fun _ _ _ h => h) (Or.inl ⟨by rfl, fun w hw => by go_simp⟩) hS ?_
      go_simp
      refine wpAnyH_take (i := 4) (v := .iface U y) rfl (by kernel_rfl) (by kernel_rfl) (by kernel_rfl) (fun _ _ _ h => h) (Or.inl ⟨by rfl, fun w hw => by obtain ⟨l0, l1⟩ := hw; first | (go_simp; done) | rfl⟩) hS ?_
      go_simp
      refine wpAnyH_ready (rs := [2]) (by kernel_rfl) (by simp) ?_
      refine AllReadyH.cons rfl (fun K hK => ?_) AllReadyH.nil
      go_simp
      go_wp2_with (go_at_call 103; refine (hkp _).mono ?_; rintro e W1 ⟨rfl, hb1⟩)
      refine hK _ _ (⟨(hb1.cell (p := ⟨g0, 0, none⟩) hsz).trans hS.1, (hb1.cell (p := ⟨g0, 1, none⟩) hsz).trans hS.2⟩) (fun hR1 => ?_)
      clear hK K
      go_simp
      have hs1 := Nat.lt_of_lt_of_le hsz hb1.size
      refine wpAnyH_ready (rs := [5]) (by kernel_rfl) (by simp) ?_
      refine AllReadyH.cons rfl (fun K hK => ?_) AllReadyH.nil
      go_simp
      go_wp2_with (go_at_call 103; refine (hkq _).mono ?_; rintro e W2 ⟨rfl, hb2⟩)
      refine hK _ _ (⟨(hb2.cell (p := ⟨g0, 0, none⟩) hs1).trans hR1.1, (hb2.cell (p := ⟨g0, 1, none⟩) hs1).trans hR1.2⟩) (fun hR2 => ?_)
      clear hK K
      go_simp
      refine wpAnyH_take (i := 6) (v := .string ⟨kp.toArray⟩) rfl (by kernel_rfl) (by kernel_rfl) (by kernel_rfl) (fun _ _ _ h => h) (Or.inl ⟨by rfl, fun w hw => by go_simp⟩) hR2 ?_
      go_simp
      refine wpAnyH_take (i := 7) (v := .string ⟨kq.toArray⟩) rfl (by kernel_rfl) (by kernel_rfl) (by kernel_rfl) (fun _ _ _ h => h) (Or.inl ⟨by rfl, fun w hw => by go_simp⟩) hR2 ?_
      go_simp
      refine wpAnyH_done (by kernel_rfl) ?_ _
      have hs2 := Nat.lt_of_lt_of_le hs1 hb2.size
      have hW1 := HA.out.drew.trans (hb1.mono HA.out.size)
      have hE := hW1.trans (hb2.mono hW1.size)
      obtain ⟨_, ⟨ga, ca, ta, tb, _, _⟩, _⟩ := hL.below hE hL.lt
      have hE := Lib.hid hE
      have hW1 := Lib.hid hW1
      obtain ⟨d0, d1⟩ := hR2
      go_wp2_with ((go_at_call 105; first | (refine (hc1 _ ga ca tb).mono ?_; rintro e W3 ⟨rfl, rfl⟩) | (refine (hc2 _ ga ca tb).mono ?_; rintro e W4 ⟨rfl, rfl⟩)))
      refine wp_region_held (S := fun w' => w'.cell? ⟨g0, 0, none⟩ = some (.iface T x) ∧ w'.cell? ⟨g0, 1, none⟩ = some (.iface U y)) (by kernel_rfl) ?_
      have hT : W2.drew.cell? ⟨g0, 0, none⟩ = some (.iface T x) ∧ W2.drew.cell? ⟨g0, 1, none⟩ = some (.iface U y) := ⟨d0, d1⟩
      refine wpAnyH_take (i := 0) (v := .pointer (some ⟨g0, 1, none⟩)) rfl (by kernel_rfl) (by kernel_rfl) (by kernel_rfl) (fun _ _ _ h => h) (Or.inl ⟨by rfl, fun w hw => by go_simp⟩) hT ?_
      go_simp
      refine wpAnyH_take (i := 1) (v := .iface U y) rfl (by kernel_rfl) (by kernel_rfl) (by kernel_rfl) (fun _ _ _ h => h) (Or.inl ⟨by rfl, fun w hw => by obtain ⟨l0, l1⟩ := hw; first | (go_simp; done) | rfl⟩) hT ?_
      go_simp
      refine wpAnyH_take (i := 2) (v := .bool false) rfl (by kernel_rfl) (by kernel_rfl) (by kernel_rfl) (fun _ _ _ h => h) (Or.inl ⟨by rfl, fun w hw => by go_simp⟩) hT ?_
      go_simp
      refine wpAnyH_take (i := 3) (v := .bool false) rfl (by kernel_rfl) (by kernel_rfl) (by kernel_rfl) (fun _ _ _ h => h) (Or.inl ⟨by rfl, fun w hw => by go_simp⟩) hT ?_
      go_simp
      refine wpAnyH_take (i := 4) (v := undef) rfl (by kernel_rfl) (by kernel_rfl) (by kernel_rfl) (fun _ _ _ h => h) (Or.inr ⟨by rfl, rfl⟩) hT ?_
      go_simp
      refine wpAnyH_take (i := 5) (v := undef) rfl (by kernel_rfl) (by kernel_rfl) (by kernel_rfl) (fun _ _ _ h => h) (Or.inr ⟨by rfl, rfl⟩) hT ?_
      go_simp
      refine wpAnyH_take (i := 6) (v := undef) rfl (by kernel_rfl) (by kernel_rfl) (by kernel_rfl) (fun _ _ _ h => h) (Or.inr ⟨by rfl, rfl⟩) hT ?_
      go_simp
      refine wpAnyH_take (i := 7) (v := undef) rfl (by kernel_rfl) (by kernel_rfl) (by kernel_rfl) (fun _ _ _ h => h) (Or.inr ⟨by rfl, rfl⟩) hT ?_
      go_simp
      refine wpAnyH_take (i := 8) (v := undef) rfl (by kernel_rfl) (by kernel_rfl) (by kernel_rfl) (fun _ _ _ h => h) (Or.inr ⟨by rfl, rfl⟩) hT ?_
      go_simp
      refine wpAnyH_take (i := 9) (v := .bool false) rfl (by kernel_rfl) (by kernel_rfl) (by kernel_rfl) (fun _ _ _ h => h) (Or.inl ⟨by rfl, fun w hw => by go_simp⟩) hT ?_
      go_simp
      refine wpAnyH_take (i := 10) (v := .bool false) rfl (by kernel_rfl) (by kernel_rfl) (by kernel_rfl) (fun _ _ _ h => h) (Or.inl ⟨by rfl, fun w hw => by go_simp⟩) hT ?_
      go_simp
      refine wpAnyH_take (i := 11) (v := undef) rfl (by kernel_rfl) (by kernel_rfl) (by kernel_rfl) (fun _ _ _ h => h) (Or.inr ⟨by rfl, rfl⟩) hT ?_
      go_simp
      refine wpAnyH_take (i := 12) (v := undef) rfl (by kernel_rfl) (by kernel_rfl) (by kernel_rfl) (fun _ _ _ h => h) (Or.inr ⟨by rfl, rfl⟩) hT ?_
      go_simp
      refine wpAnyH_take (i := 13) (v := undef) rfl (by kernel_rfl) (by kernel_rfl) (by kernel_rfl) (fun _ _ _ h => h) (Or.inr ⟨by rfl, rfl⟩) hT ?_
      go_simp
      refine wpAnyH_take (i := 14) (v := .bool false) rfl (by kernel_rfl) (by kernel_rfl) (by kernel_rfl) (fun _ _ _ h => h) (Or.inl ⟨by rfl, fun w hw => by go_simp⟩) hT ?_
      go_simp
      refine wpAnyH_take (i := 15) (v := .iface U y) rfl (by kernel_rfl) (by kernel_rfl) (by kernel_rfl) (fun _ _ _ h => h) (Or.inl ⟨by rfl, fun w hw => by go_simp⟩) hT ?_
      go_simp
      refine wpAnyH_take (i := 16) (v := .bool false) rfl (by kernel_rfl) (by kernel_rfl) (by kernel_rfl) (fun _ _ _ h => h) (Or.inl ⟨by rfl, fun w hw => by go_simp⟩) hT ?_
      go_simp
      refine wpAnyH_done (by kernel_rfl) ?_ _
      go_wp2_with fail
      go_ret2
      first | exact ⟨hE.out, _, rfl⟩ | exact ⟨hE.out.drew, _, rfl⟩
    | true =>
      rw [h2] at hc2
      rw [Bool.true_and]
      obtain ⟨c, d, rfl, _⟩ := twos_shape (of_decide_eq_true h1)
      obtain ⟨c', d', rfl, _⟩ := twos_shape (of_decide_eq_true h2)
      have b0 := byte_at0 c d
      have b0' := byte_at0 c' d'
      have b1' := byte_at1 c' d'
      have e1 := byte_eq c c'
      have e2 : ((d'.toNat : Int) == 43) = (d' == 43) := byte_eq d' 43
      show Calls _ _ _ _ fun e w' => Below w.heap.size w w' ∧ (match (if (c == c' && d' != 43) = true then some q else none) with
        | some n => e = .returned (.tuple #[nodeV n, .bool true])
        | none => ∃ x, e = .returned (.tuple #[x, .bool false]))
      clear h1 h2
      cases h3 : (c == c') with
      | false =>
        rw [h3] at e1
        rw [Bool.false_and, if_neg (by simp)]
        clear b1' e2
        go_enter Tryd.func74, Tryd.ntmps74
        go_wp2_with fail
        rw [← hV, ← hg0]
        have HVV := Lib.hid hV
        have HG := Lib.hid hg0
        have HA := Lib.hid hA
        clear hV hg0 hA
        refine wp_region_held (S := fun w' => w'.cell? ⟨g0, 0, none⟩ = some (.iface T x) ∧ w'.cell? ⟨g0, 1, none⟩ = some (.iface U y)) (by kernel_rfl) ?_
        have hS : V.drew.cell? ⟨g0, 0, none⟩ = some (.iface T x) ∧ V.drew.cell? ⟨g0, 1, none⟩ = some (.iface U y) := ⟨c0, c1⟩
        refine wpAnyH_take (i := 0) (v := .pointer (some ⟨g0, 0, none⟩)) rfl (by kernel_rfl) (by kernel_rfl) (by kernel_rfl) (fun _ _ _ h => h) (Or.inl ⟨by rfl, fun w hw => by go_simp⟩) hS ?_
        go_simp
        refine wpAnyH_take (i := 1) (v := .iface T x) rfl (by kernel_rfl) (by kernel_rfl) (by kernel_rfl) (fun _ _ _ h => h) (Or.inl ⟨by rfl, fun w hw => by obtain ⟨l0, l1⟩ := hw; first | (go_simp; done) | rfl⟩) hS ?_
        go_simp
        refine wpAnyH_take (i := 3) (v := .pointer (some ⟨g0, 1, none⟩)) rfl (by kernel_rfl) (by kernel_rfl) (by kernel_rfl) (fun _ _ _ h => h) (Or.inl ⟨by rfl, fun w hw => by go_simp⟩) hS ?_
        go_simp
        refine wpAnyH_take (i := 4) (v := .iface U y) rfl (by kernel_rfl) (by kernel_rfl) (by kernel_rfl) (fun _ _ _ h => h) (Or.inl ⟨by rfl, fun w hw => by obtain ⟨l0, l1⟩ := hw; first | (go_simp; done) | rfl⟩) hS ?_
        go_simp
        refine wpAnyH_ready (rs := [2]) (by kernel_rfl) (by simp) ?_
        refine AllReadyH.cons rfl (fun K hK => ?_) AllReadyH.nil
        go_simp
        go_wp2_with (go_at_call 103; refine (hkp _).mono ?_; rintro e W1 ⟨rfl, hb1⟩)
        refine hK _ _ (⟨(hb1.cell (p := ⟨g0, 0, none⟩) hsz).trans hS.1, (hb1.cell (p := ⟨g0, 1, none⟩) hsz).trans hS.2⟩) (fun hR1 => ?_)
        clear hK K
        go_simp
        have hs1 := Nat.lt_of_lt_of_le hsz hb1.size
        refine wpAnyH_ready (rs := [5]) (by kernel_rfl) (by simp) ?_
        refine AllReadyH.cons rfl (fun K hK => ?_) AllReadyH.nil
        go_simp
        go_wp2_with (go_at_call 103; refine (hkq _).mono ?_; rintro e W2 ⟨rfl, hb2⟩)
        refine hK _ _ (⟨(hb2.cell (p := ⟨g0, 0, none⟩) hs1).trans hR1.1, (hb2.cell (p := ⟨g0, 1, none⟩) hs1).trans hR1.2⟩) (fun hR2 => ?_)
        clear hK K
        go_simp
        refine wpAnyH_take (i := 6) (v := .string ⟨#[c, d]⟩) rfl (by kernel_rfl) (by kernel_rfl) (by kernel_rfl) (fun _ _ _ h => h) (Or.inl ⟨by rfl, fun w hw => by go_simp⟩) hR2 ?_
        go_simp
        refine wpAnyH_take (i := 7) (v := .string ⟨#[c', d']⟩) rfl (by kernel_rfl) (by kernel_rfl) (by kernel_rfl) (fun _ _ _ h => h) (Or.inl ⟨by rfl, fun w hw => by go_simp⟩) hR2 ?_
        go_simp
        refine wpAnyH_done (by kernel_rfl) ?_ _
        have hs2 := Nat.lt_of_lt_of_le hs1 hb2.size
        have hW1 := HA.out.drew.trans (hb1.mono HA.out.size)
        have hE := hW1.trans (hb2.mono hW1.size)
        obtain ⟨_, ⟨ga, ca, ta, tb, _, _⟩, _⟩ := hL.below hE hL.lt
        have hE := Lib.hid hE
        have hW1 := Lib.hid hW1
        obtain ⟨d0, d1⟩ := hR2
        go_wp2_with ((go_at_call 105; first | (refine (hc1 _ ga ca tb).mono ?_; rintro e W3 ⟨rfl, rfl⟩) | (refine (hc2 _ ga ca tb).mono ?_; rintro e W4 ⟨rfl, rfl⟩)))
        refine wp_region_held (S := fun w' => w'.cell? ⟨g0, 0, none⟩ = some (.iface T x) ∧ w'.cell? ⟨g0, 1, none⟩ = some (.iface U y)) (by kernel_rfl) ?_
        have hT : W2.drew.cell? ⟨g0, 0, none⟩ = some (.iface T x) ∧ W2.drew.cell? ⟨g0, 1, none⟩ = some (.iface U y) := ⟨d0, d1⟩
        refine wpAnyH_take (i := 0) (v := .pointer (some ⟨g0, 1, none⟩)) rfl (by kernel_rfl) (by kernel_rfl) (by kernel_rfl) (fun _ _ _ h => h) (Or.inl ⟨by rfl, fun w hw => by go_simp⟩) hT ?_
        go_simp
        refine wpAnyH_take (i := 1) (v := .iface U y) rfl (by kernel_rfl) (by kernel_rfl) (by kernel_rfl) (fun _ _ _ h => h) (Or.inl ⟨by rfl, fun w hw => by obtain ⟨l0, l1⟩ := hw; first | (go_simp; done) | rfl⟩) hT ?_
        go_simp
        refine wpAnyH_take (i := 2) (v := .bool true) rfl (by kernel_rfl) (by kernel_rfl) (by kernel_rfl) (fun _ _ _ h => h) (Or.inl ⟨by rfl, fun w hw => by go_simp⟩) hT ?_
        go_simp
        refine wpAnyH_take (i := 3) (v := .bool true) rfl (by kernel_rfl) (by kernel_rfl) (by kernel_rfl) (fun _ _ _ h => h) (Or.inl ⟨by rfl, fun w hw => by go_simp⟩) hT ?_
        go_simp
        refine wpAnyH_take (i := 4) (v := .string ⟨#[c, d]⟩) rfl (by kernel_rfl) (by kernel_rfl) (by kernel_rfl) (fun _ _ _ h => h) (Or.inl ⟨by rfl, fun w hw => by go_simp⟩) hT ?_
        go_simp
        refine wpAnyH_take (i := 5) (v := .int .u8 (c.toNat : Int)) rfl (by kernel_rfl) (by kernel_rfl) (by kernel_rfl) (fun _ _ _ h => h) (Or.inl ⟨by rfl, fun w hw => by go_simp⟩) hT ?_
        go_simp
        refine wpAnyH_take (i := 6) (v := .string ⟨#[c', d']⟩) rfl (by kernel_rfl) (by kernel_rfl) (by kernel_rfl) (fun _ _ _ h => h) (Or.inl ⟨by rfl, fun w hw => by go_simp⟩) hT ?_
        go_simp
        refine wpAnyH_take (i := 7) (v := .int .u8 (c'.toNat : Int)) rfl (by kernel_rfl) (by kernel_rfl) (by kernel_rfl) (fun _ _ _ h => h) (Or.inl ⟨by rfl, fun w hw => by go_simp⟩) hT ?_
        go_simp
        refine wpAnyH_take (i := 8) (v := .bool false) rfl (by kernel_rfl) (by kernel_rfl) (by kernel_rfl) (fun _ _ _ h => h) (Or.inl ⟨by rfl, fun w hw => by go_simp⟩) hT ?_
        go_simp
        refine wpAnyH_take (i := 9) (v := .bool false) rfl (by kernel_rfl) (by kernel_rfl) (by kernel_rfl) (fun _ _ _ h => h) (Or.inl ⟨by rfl, fun w hw => by go_simp⟩) hT ?_
        go_simp
        refine wpAnyH_take (i := 10) (v := .bool false) rfl (by kernel_rfl) (by kernel_rfl) (by kernel_rfl) (fun _ _ _ h => h) (Or.inl ⟨by rfl, fun w hw => by go_simp⟩) hT ?_
        go_simp
        refine wpAnyH_take (i := 11) (v := undef) rfl (by kernel_rfl) (by kernel_rfl) (by kernel_rfl) (fun _ _ _ h => h) (Or.inr ⟨by rfl, rfl⟩) hT ?_
        go_simp
        refine wpAnyH_take (i := 12) (v := undef) rfl (by kernel_rfl) (by kernel_rfl) (by kernel_rfl) (fun _ _ _ h => h) (Or.inr ⟨by rfl, rfl⟩) hT ?_
        go_simp
        refine wpAnyH_take (i := 13) (v := undef) rfl (by kernel_rfl) (by kernel_rfl) (by kernel_rfl) (fun _ _ _ h => h) (Or.inr ⟨by rfl, rfl⟩) hT ?_
        go_simp
        refine wpAnyH_take (i := 14) (v := .bool false) rfl (by kernel_rfl) (by kernel_rfl) (by kernel_rfl) (fun _ _ _ h => h) (Or.inl ⟨by rfl, fun w hw => by go_simp⟩) hT ?_
        go_simp
        refine wpAnyH_take (i := 15) (v := .iface U y) rfl (by kernel_rfl) (by kernel_rfl) (by kernel_rfl) (fun _ _ _ h => h) (Or.inl ⟨by rfl, fun w hw => by go_simp⟩) hT ?_
        go_simp
        refine wpAnyH_take (i := 16) (v := .bool false) rfl (by kernel_rfl) (by kernel_rfl) (by kernel_rfl) (fun _ _ _ h => h) (Or.inl ⟨by rfl, fun w hw => by go_simp⟩) hT ?_
        go_simp
        refine wpAnyH_done (by kernel_rfl) ?_ _
        go_wp2_with fail
        go_ret2
        first | exact ⟨hE.out, _, rfl⟩ | exact ⟨hE.out.drew, _, rfl⟩
      | true =>
        rw [h3] at e1
        rw [Bool.true_and]
        cases h4 : (d' == 43) with
        | true =>
          rw [h4] at e2
          have h5 : (d' != 43) = false := by rw [bne, h4]; rfl
          have e3 : ((d'.toNat : Int) != 43) = false := by rw [bne, e2]; rfl
          rw [h5, if_neg (by simp)]
          clear h5
          go_enter Tryd.func74, Tryd.ntmps74
          go_wp2_with fail
          rw [← hV, ← hg0]
          have HVV := Lib.hid hV
          have HG := Lib.hid hg0
          have HA := Lib.hid hA
          clear hV hg0 hA
          refine wp_region_held (S := fun w' => w'.cell? ⟨g0, 0, none⟩ = some (.iface T x) ∧ w'.cell? ⟨g0, 1, none⟩ = some (.iface U y)) (by kernel_rfl) ?_
          have hS : V.drew.cell? ⟨g0, 0, none⟩ = some (.iface T x) ∧ V.drew.cell? ⟨g0, 1, none⟩ = some (.iface U y) := ⟨c0, c1⟩
          refine wpAnyH_take (i := 0) (v := .pointer (some ⟨g0, 0, none⟩)) rfl (by kernel_rfl) (by kernel_rfl) (by kernel_rfl) (fun _ _ _ h => h) (Or.inl ⟨by rfl, fun w hw => by go_simp⟩) hS ?_
          go_simp
          refine wpAnyH_take (i := 1) (v := .iface T x) rfl (by kernel_rfl) (by kernel_rfl) (by kernel_rfl) (fun _ _ _ h => h) (Or.inl ⟨by rfl, fun w hw => by obtain ⟨l0, l1⟩ := hw; first | (go_simp; done) | rfl⟩) hS ?_
          go_simp
          refine wpAnyH_take (i := 3) (v := .pointer (some ⟨g0, 1, none⟩)) rfl (by kernel_rfl) (by kernel_rfl) (by kernel_rfl) (fun _ _ _ h => h) (Or.inl ⟨by rfl, fun w hw => by go_simp⟩) hS ?_
          go_simp
          refine wpAnyH_take (i := 4) (v := .iface U y) rfl (by kernel_rfl) (by kernel_rfl) (by kernel_rfl) (fun _ _ _ h => h) (Or.inl ⟨by rfl, fun w hw => by obtain ⟨l0, l1⟩ := hw; first | (go_simp; done) | rfl⟩) hS ?_
          go_simp
          refine wpAnyH_ready (rs := [2]) (by kernel_rfl) (by simp) ?_
          refine AllReadyH.cons rfl (fun K hK => ?_) AllReadyH.nil
          go_simp
          go_wp2_with (go_at_call 103; refine (hkp _).mono ?_; rintro e W1 ⟨rfl, hb1⟩)
          refine hK _ _ (⟨(hb1.cell (p := ⟨g0, 0, none⟩) hsz).trans hS.1, (hb1.cell (p := ⟨g0, 1, none⟩) hsz).trans hS.2⟩) (fun hR1 => ?_)
          clear hK K
          go_simp
          have hs1 := Nat.lt_of_lt_of_le hsz hb1.size
          refine wpAnyH_ready (rs := [5]) (by kernel_rfl) (by simp) ?_
          refine AllReadyH.cons rfl (fun K hK => ?_) AllReadyH.nil
          go_simp
          go_wp2_with (go_at_call 103; refine (hkq _).mono ?_; rintro e W2 ⟨rfl, hb2⟩)
          refine hK _ _ (⟨(hb2.cell (p := ⟨g0, 0, none⟩) hs1).trans hR1.1, (hb2.cell (p := ⟨g0, 1, none⟩) hs1).trans hR1.2⟩) (fun hR2 => ?_)
          clear hK K
          go_simp
          refine wpAnyH_take (i := 6) (v := .string ⟨#[c, d]⟩) rfl (by kernel_rfl) (by kernel_rfl) (by kernel_rfl) (fun _ _ _ h => h) (Or.inl ⟨by rfl, fun w hw => by go_simp⟩) hR2 ?_
          go_simp
          refine wpAnyH_take (i := 7) (v := .string ⟨#[c', d']⟩) rfl (by kernel_rfl) (by kernel_rfl) (by kernel_rfl) (fun _ _ _ h => h) (Or.inl ⟨by rfl, fun w hw => by go_simp⟩) hR2 ?_
          go_simp
          refine wpAnyH_done (by kernel_rfl) ?_ _
          have hs2 := Nat.lt_of_lt_of_le hs1 hb2.size
          have hW1 := HA.out.drew.trans (hb1.mono HA.out.size)
          have hE := hW1.trans (hb2.mono hW1.size)
          obtain ⟨_, ⟨ga, ca, ta, tb, _, _⟩, _⟩ := hL.below hE hL.lt
          have hE := Lib.hid hE
          have hW1 := Lib.hid hW1
          obtain ⟨d0, d1⟩ := hR2
          go_wp2_with ((go_at_call 105; first | (refine (hc1 _ ga ca tb).mono ?_; rintro e W3 ⟨rfl, rfl⟩) | (refine (hc2 _ ga ca tb).mono ?_; rintro e W4 ⟨rfl, rfl⟩)))
          refine wp_region_held (S := fun w' => w'.cell? ⟨g0, 0, none⟩ = some (.iface T x) ∧ w'.cell? ⟨g0, 1, none⟩ = some (.iface U y)) (by kernel_rfl) ?_
          have hT : W2.drew.cell? ⟨g0, 0, none⟩ = some (.iface T x) ∧ W2.drew.cell? ⟨g0, 1, none⟩ = some (.iface U y) := ⟨d0, d1⟩
          refine wpAnyH_take (i := 0) (v := .pointer (some ⟨g0, 1, none⟩)) rfl (by kernel_rfl) (by kernel_rfl) (by kernel_rfl) (fun _ _ _ h => h) (Or.inl ⟨by rfl, fun w hw => by go_simp⟩) hT ?_
          go_simp
          refine wpAnyH_take (i := 1) (v := .iface U y) rfl (by kernel_rfl) (by kernel_rfl) (by kernel_rfl) (fun _ _ _ h => h) (Or.inl ⟨by rfl, fun w hw => by obtain ⟨l0, l1⟩ := hw; first | (go_simp; done) | rfl⟩) hT ?_
          go_simp
          refine wpAnyH_take (i := 2) (v := .bool true) rfl (by kernel_rfl) (by kernel_rfl) (by kernel_rfl) (fun _ _ _ h => h) (Or.inl ⟨by rfl, fun w hw => by go_simp⟩) hT ?_
          go_simp
          refine wpAnyH_take (i := 3) (v := .bool true) rfl (by kernel_rfl) (by kernel_rfl) (by kernel_rfl) (fun _ _ _ h => h) (Or.inl ⟨by rfl, fun w hw => by go_simp⟩) hT ?_
          go_simp
          refine wpAnyH_take (i := 4) (v := .string ⟨#[c, d]⟩) rfl (by kernel_rfl) (by kernel_rfl) (by kernel_rfl) (fun _ _ _ h => h) (Or.inl ⟨by rfl, fun w hw => by go_simp⟩) hT ?_
          go_simp
          refine wpAnyH_take (i := 5) (v := .int .u8 (c.toNat : Int)) rfl (by kernel_rfl) (by kernel_rfl) (by kernel_rfl) (fun _ _ _ h => h) (Or.inl ⟨by rfl, fun w hw => by go_simp⟩) hT ?_
          go_simp
          refine wpAnyH_take (i := 6) (v := .string ⟨#[c', d']⟩) rfl (by kernel_rfl) (by kernel_rfl) (by kernel_rfl) (fun _ _ _ h => h) (Or.inl ⟨by rfl, fun w hw => by go_simp⟩) hT ?_
          go_simp
          refine wpAnyH_take (i := 7) (v := .int .u8 (c'.toNat : Int)) rfl (by kernel_rfl) (by kernel_rfl) (by kernel_rfl) (fun _ _ _ h => h) (Or.inl ⟨by rfl, fun w hw => by go_simp⟩) hT ?_
          go_simp
          refine wpAnyH_take (i := 8) (v := .bool true) rfl (by kernel_rfl) (by kernel_rfl) (by kernel_rfl) (fun _ _ _ h => h) (Or.inl ⟨by rfl, fun w hw => by go_simp⟩) hT ?_
          go_simp
          refine wpAnyH_take (i := 9) (v := .bool true) rfl (by kernel_rfl) (by kernel_rfl) (by kernel_rfl) (fun _ _ _ h => h) (Or.inl ⟨by rfl, fun w hw => by go_simp⟩) hT ?_
          go_simp
          refine wpAnyH_take (i := 10) (v := .bool true) rfl (by kernel_rfl) (by kernel_rfl) (by kernel_rfl) (fun _ _ _ h => h) (Or.inl ⟨by rfl, fun w hw => by go_simp⟩) hT ?_
          go_simp
          refine wpAnyH_take (i := 11) (v := .string ⟨#[c', d']⟩) rfl (by kernel_rfl) (by kernel_rfl) (by kernel_rfl) (fun _ _ _ h => h) (Or.inl ⟨by rfl, fun w hw => by go_simp⟩) hT ?_
          go_simp
          refine wpAnyH_take (i := 12) (v := .int .u8 (d'.toNat : Int)) rfl (by kernel_rfl) (by kernel_rfl) (by kernel_rfl) (fun _ _ _ h => h) (Or.inl ⟨by rfl, fun w hw => by go_simp⟩) hT ?_
          go_simp
          refine wpAnyH_take (i := 13) (v := .bool false) rfl (by kernel_rfl) (by kernel_rfl) (by kernel_rfl) (fun _ _ _ h => h) (Or.inl ⟨by rfl, fun w hw => by go_simp⟩) hT ?_
          go_simp
          refine wpAnyH_take (i := 14) (v := .bool false) rfl (by kernel_rfl) (by kernel_rfl) (by kernel_rfl) (fun _ _ _ h => h) (Or.inl ⟨by rfl, fun w hw => by go_simp⟩) hT ?_
          go_simp
          refine wpAnyH_take (i := 15) (v := .iface U y) rfl (by kernel_rfl) (by kernel_rfl) (by kernel_rfl) (fun _ _ _ h => h) (Or.inl ⟨by rfl, fun w hw => by go_simp⟩) hT ?_
          go_simp
          refine wpAnyH_take (i := 16) (v := .bool false) rfl (by kernel_rfl) (by kernel_rfl) (by kernel_rfl) (fun _ _ _ h => h) (Or.inl ⟨by rfl, fun w hw => by go_simp⟩) hT ?_
          go_simp
          refine wpAnyH_done (by kernel_rfl) ?_ _
          go_wp2_with fail
          go_ret2
          first | exact ⟨hE.out, _, rfl⟩ | exact ⟨hE.out.drew, _, rfl⟩
        | false =>
          rw [h4] at e2
          have h5 : (d' != 43) = true := by rw [bne, h4]; rfl
          have e3 : ((d'.toNat : Int) != 43) = true := by rw [bne, e2]; rfl
          rw [h5, if_pos rfl]
          clear h5
          go_enter Tryd.func74, Tryd.ntmps74
          go_wp2_with fail
          rw [← hV, ← hg0]
          have HVV := Lib.hid hV
          have HG := Lib.hid hg0
          have HA := Lib.hid hA
          clear hV hg0 hA
          refine wp_region_held (S := fun w' => w'.cell? ⟨g0, 0, none⟩ = some (.iface T x) ∧ w'.cell? ⟨g0, 1, none⟩ = some (.iface U y)) (by kernel_rfl) ?_
          have hS : V.drew.cell? ⟨g0, 0, none⟩ = some (.iface T x) ∧ V.drew.cell? ⟨g0, 1, none⟩ = some (.iface U y) := ⟨c0, c1⟩
          refine wpAnyH_take (i := 0) (v := .pointer (some ⟨g0, 0, none⟩)) rfl (by kernel_rfl) (by kernel_rfl) (by kernel_rfl) (fun _ _ _ h => h) (Or.inl ⟨by rfl, fun w hw => by go_simp⟩) hS ?_
          go_simp
          refine wpAnyH_take (i := 1) (v := .iface T x) rfl (by kernel_rfl) (by kernel_rfl) (by kernel_rfl) (fun _ _ _ h => h) (Or.inl ⟨by rfl, fun w hw => by obtain ⟨l0, l1⟩ := hw; first | (go_simp; done) | rfl⟩) hS ?_
          go_simp
          refine wpAnyH_take (i := 3) (v := .pointer (some ⟨g0, 1, none⟩)) rfl (by kernel_rfl) (by kernel_rfl) (by kernel_rfl) (fun _ _ _ h => h) (Or.inl ⟨by rfl, fun w hw => by go_simp⟩) hS ?_
          go_simp
          refine wpAnyH_take (i := 4) (v := .iface U y) rfl (by kernel_rfl) (by kernel_rfl) (by kernel_rfl) (fun _ _ _ h => h) (Or.inl ⟨by rfl, fun w hw => by obtain ⟨l0, l1⟩ := hw; first | (go_simp; done) | rfl⟩) hS ?_
          go_simp
          refine wpAnyH_ready (rs := [2]) (by kernel_rfl) (by simp) ?_
          refine AllReadyH.cons rfl (fun K hK => ?_) AllReadyH.nil
          go_simp
          go_wp2_with (go_at_call 103; refine (hkp _).mono ?_; rintro e W1 ⟨rfl, hb1⟩)
          refine hK _ _ (⟨(hb1.cell (p := ⟨g0, 0, none⟩) hsz).trans hS.1, (hb1.cell (p := ⟨g0, 1, none⟩) hsz).trans hS.2⟩) (fun hR1 => ?_)
          clear hK K
          go_simp
          have hs1 := Nat.lt_of_lt_of_le hsz hb1.size
          refine wpAnyH_ready (rs := [5]) (by kernel_rfl) (by simp) ?_
          refine AllReadyH.cons rfl (fun K hK => ?_) AllReadyH.nil
          go_simp
          go_wp2_with (go_at_call 103; refine (hkq _).mono ?_; rintro e W2 ⟨rfl, hb2⟩)
          refine hK _ _ (⟨(hb2.cell (p := ⟨g0, 0, none⟩) hs1).trans hR1.1, (hb2.cell (p := ⟨g0, 1, none⟩) hs1).trans hR1.2⟩) (fun hR2 => ?_)
          clear hK K
          go_simp
          refine wpAnyH_take (i := 6) (v := .string ⟨#[c, d]⟩) rfl (by kernel_rfl) (by kernel_rfl) (by kernel_rfl) (fun _ _ _ h => h) (Or.inl ⟨by rfl, fun w hw => by go_simp⟩) hR2 ?_
          go_simp
          refine wpAnyH_take (i := 7) (v := .string ⟨#[c', d']⟩) rfl (by kernel_rfl) (by kernel_rfl) (by kernel_rfl) (fun _ _ _ h => h) (Or.inl ⟨by rfl, fun w hw => by go_simp⟩) hR2 ?_
          go_simp
          refine wpAnyH_done (by kernel_rfl) ?_ _
          have hs2 := Nat.lt_of_lt_of_le hs1 hb2.size
          have hW1 := HA.out.drew.trans (hb1.mono HA.out.size)
          have hE := hW1.trans (hb2.mono hW1.size)
          obtain ⟨_, ⟨ga, ca, ta, tb, _, _⟩, _⟩ := hL.below hE hL.lt
          have hE := Lib.hid hE
          have hW1 := Lib.hid hW1
          obtain ⟨d0, d1⟩ := hR2
          go_wp2_with ((go_at_call 105; first | (refine (hc1 _ ga ca tb).mono ?_; rintro e W3 ⟨rfl, rfl⟩) | (refine (hc2 _ ga ca tb).mono ?_; rintro e W4 ⟨rfl, rfl⟩)))
          refine wp_region_held (S := fun w' => w'.cell? ⟨g0, 0, none⟩ = some (.iface T x) ∧ w'.cell? ⟨g0, 1, none⟩ = some (.iface U y)) (by kernel_rfl) ?_
          have hT : W2.drew.cell? ⟨g0, 0, none⟩ = some (.iface T x) ∧ W2.drew.cell? ⟨g0, 1, none⟩ = some (.iface U y) := ⟨d0, d1⟩
          refine wpAnyH_take (i := 0) (v := .pointer (some ⟨g0, 1, none⟩)) rfl (by kernel_rfl) (by kernel_rfl) (by kernel_rfl) (fun _ _ _ h => h) (Or.inl ⟨by rfl, fun w hw => by go_simp⟩) hT ?_
          go_simp
          refine wpAnyH_take (i := 1) (v := .iface U y) rfl (by kernel_rfl) (by kernel_rfl) (by kernel_rfl) (fun _ _ _ h => h) (Or.inl ⟨by rfl, fun w hw => by obtain ⟨l0, l1⟩ := hw; first | (go_simp; done) | rfl⟩) hT ?_
          go_simp
          refine wpAnyH_take (i := 2) (v := .bool true) rfl (by kernel_rfl) (by kernel_rfl) (by kernel_rfl) (fun _ _ _ h => h) (Or.inl ⟨by rfl, fun w hw => by go_simp⟩) hT ?_
          go_simp
          refine wpAnyH_take (i := 3) (v := .bool true) rfl (by kernel_rfl) (by kernel_rfl) (by kernel_rfl) (fun _ _ _ h => h) (Or.inl ⟨by rfl, fun w hw => by go_simp⟩) hT ?_
          go_simp
          refine wpAnyH_take (i := 4) (v := .string ⟨#[c, d]⟩) rfl (by kernel_rfl) (by kernel_rfl) (by kernel_rfl) (fun _ _ _ h => h) (Or.inl ⟨by rfl, fun w hw => by go_simp⟩) hT ?_
          go_simp
          refine wpAnyH_take (i := 5) (v := .int .u8 (c.toNat : Int)) rfl (by kernel_rfl) (by kernel_rfl) (by kernel_rfl) (fun _ _ _ h => h) (Or.inl ⟨by rfl, fun w hw => by go_simp⟩) hT ?_
          go_simp
          refine wpAnyH_take (i := 6) (v := .string ⟨#[c', d']⟩) rfl (by kernel_rfl) (by kernel_rfl) (by kernel_rfl) (fun _ _ _ h => h) (Or.inl ⟨by rfl, fun w hw => by go_simp⟩) hT ?_
          go_simp
          refine wpAnyH_take (i := 7) (v := .int .u8 (c'.toNat : Int)) rfl (by kernel_rfl) (by kernel_rfl) (by kernel_rfl) (fun _ _ _ h => h) (Or.inl ⟨by rfl, fun w hw => by go_simp⟩) hT ?_
          go_simp
          refine wpAnyH_take (i := 8) (v := .bool true) rfl (by kernel_rfl) (by kernel_rfl) (by kernel_rfl) (fun _ _ _ h => h) (Or.inl ⟨by rfl, fun w hw => by go_simp⟩) hT ?_
          go_simp
          refine wpAnyH_take (i := 9) (v := .bool true) rfl (by kernel_rfl) (by kernel_rfl) (by kernel_rfl) (fun _ _ _ h => h) (Or.inl ⟨by rfl, fun w hw => by go_simp⟩) hT ?_
          go_simp
          refine wpAnyH_take (i := 10) (v := .bool true) rfl (by kernel_rfl) (by kernel_rfl) (by kernel_rfl) (fun _ _ _ h => h) (Or.inl ⟨by rfl, fun w hw => by go_simp⟩) hT ?_
          go_simp
          refine wpAnyH_take (i := 11) (v := .string ⟨#[c', d']⟩) rfl (by kernel_rfl) (by kernel_rfl) (by kernel_rfl) (fun _ _ _ h => h) (Or.inl ⟨by rfl, fun w hw => by go_simp⟩) hT ?_
          go_simp
          refine wpAnyH_take (i := 12) (v := .int .u8 (d'.toNat : Int)) rfl (by kernel_rfl) (by kernel_rfl) (by kernel_rfl) (fun _ _ _ h => h) (Or.inl ⟨by rfl, fun w hw => by go_simp⟩) hT ?_
          go_simp
          refine wpAnyH_take (i := 13) (v := .bool true) rfl (by kernel_rfl) (by kernel_rfl) (by kernel_rfl) (fun _ _ _ h => h) (Or.inl ⟨by rfl, fun w hw => by go_simp⟩) hT ?_
          go_simp
          refine wpAnyH_take (i := 14) (v := .bool true) rfl (by kernel_rfl) (by kernel_rfl) (by kernel_rfl) (fun _ _ _ h => h) (Or.inl ⟨by rfl, fun w hw => by go_simp⟩) hT ?_
          go_simp
          refine wpAnyH_take (i := 15) (v := .iface U y) rfl (by kernel_rfl) (by kernel_rfl) (by kernel_rfl) (fun _ _ _ h => h) (Or.inl ⟨by rfl, fun w hw => by go_simp⟩) hT ?_
          go_simp
          refine wpAnyH_take (i := 16) (v := .bool true) rfl (by kernel_rfl) (by kernel_rfl) (by kernel_rfl) (fun _ _ _ h => h) (Or.inl ⟨by rfl, fun w hw => by go_simp⟩) hT ?_
          go_simp
          refine wpAnyH_done (by kernel_rfl) ?_ _
          go_wp2_with fail
          go_ret2
          first | exact ⟨hE.out, congrArg (fun z => Ending.returned (.tuple #[z, .bool true])) HV2.out.symm⟩ | exact ⟨hE.out.drew, congrArg (fun z => Ending.returned (.tuple #[z, .bool true])) HV2.out.symm⟩
end Go.Proofs.YtgkgkaapjljpcaaDoor

