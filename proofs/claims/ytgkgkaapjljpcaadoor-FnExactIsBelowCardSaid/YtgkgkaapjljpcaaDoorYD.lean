/- Chapter 11, the model: the results of two programs compared. -/
import Derived.Test.YtgkgkaapjljpcaaDoorYC
import Derived.Test.YtgkgkaapjljpcaaDoorM5
import Derived.Test.YtgkgkaapjljpcaaDoorQC
namespace Go.Proofs.YtgkgkaapjljpcaaDoor
open Go.ChangeShapes Go.WideShapes Go.ChangeAt Go.RowKit Go.Shelf
attribute [local go_sem] Oper.semAt_some
set_option maxRecDepth 100000

theorem shl_state {n : Nat} (hn : n ≤ 8) : wrap64 (2 ^ n) = ((2 ^ n : Nat) : Int) := shl_nat n hn
theorem wrapU9 : ∀ k : Fin 9, IntKind.u64.wrap ((k.val : Nat) : Int) = ((k.val : Nat) : Int) := by decide
theorem wrapI9 : ∀ k : Fin 9, IntKind.i64.wrap ((2 : Int) ^ k.val) = ((2 ^ k.val : Nat) : Int) := by decide
set_option maxHeartbeats 4000000 in
theorem mdiff_some (p q : ByteArray) (hp : p.size ≤ 9000000) (hq : q.size ≤ 9000000) (w : World) {a b : Node} (hP : readP p.toList = some a) (hQ : readP q.toList = some b) :
    Calls Tryd.prog 83 #[.string p, .string q] w fun e w' => e = .returned (diffR (runR a) (runR b)) ∧ Below w.heap.size w w' := by
  have hr := read42 p hp
  have hr2 := read42 q hq
  obtain ⟨hoa, _⟩ := readP_iff.1 hP
  obtain ⟨hob, _⟩ := readP_iff.1 hQ
  have hrun := fun W lo hi k s ad n cap j h h2 hj => mrun23 a hoa W lo hi k s ad n cap j h h2 hj
  have hrun2 := fun W lo hi k s ad n cap j h h2 hj => mrun23 b hob W lo hi k s ad n cap j h h2 hj
  have HP := Lib.hid hP
  have HQ := Lib.hid hQ
  clear hP hQ
  generalize runR a = r at hrun ⊢
  generalize runR b = u at hrun2 ⊢
  go_enter Tryd.func83, Tryd.ntmps83
  go_wp2_with fail
  go_at_call 42
  refine (hr _).mono ?_
  rintro e W1 ⟨hb1, hm⟩
  rw [HP.out] at hm
  obtain ⟨k1, s1, ad1, n1, cap1, rfl, hna⟩ := hm
  have HNA := Lib.hid hna
  clear hna hr
  go_wp2_with fail
  obtain ⟨V1, hV1⟩ : ∃ V, V = W1.alloc (.cells #[.int .u8 k1, .string s1, .slice ad1 n1 cap1] 52) := ⟨_, rfl⟩
  have X1 : Lies V1 W1.heap.size #[.int .u8 k1, .string s1, .slice ad1 n1 cap1] 52 := by rw [hV1]; exact Lies.new W1 _ _
  have B1 : Below w.heap.size w V1 := by rw [hV1]; exact hb1.alloc hb1.size _
  have NA1 := HNA.out.below (show Below W1.heap.size W1 V1 by rw [hV1]; exact (Below.refl _ W1).alloc (Nat.le_refl _) _) (Nat.le_refl _)
  have z1 : W1.heap.size ≤ V1.heap.size := by rw [hV1]; simp
  rw [← hV1]
  have HV1 := Lib.hid hV1
  clear hV1
  go_at_call 42
  refine (hr2 _).mono ?_
  rintro e W2 ⟨hb2, hm⟩
  rw [HQ.out] at hm
  obtain ⟨k2, s2, ad2, n2, cap2, rfl, hnb⟩ := hm
  have X1' := lies_kept hb2 X1
  have B2 := B1.trans (hb2.mono B1.size)
  have NA2 := NA1.below hb2 z1
  have z2 := Nat.le_trans z1 hb2.size
  clear X1 NA1 hr2 hb2
  obtain ⟨V2, hV2⟩ : ∃ V, V = W2.alloc (.cells #[.int .u8 k2, .string s2, .slice ad2 n2 cap2] 52) := ⟨_, rfl⟩
  have C2 : Below W2.heap.size W2 V2 := by rw [hV2]; exact (Below.refl _ W2).alloc (Nat.le_refl _) _
  have Y2 : Lies V2 W2.heap.size #[.int .u8 k2, .string s2, .slice ad2 n2 cap2] 52 := by rw [hV2]; exact Lies.new W2 _ _
  have Y1 := lies_kept C2 X1'
  have B3 := B2.trans (C2.mono B2.size)
  have NA := NA2.below C2 z2
  have NB := hnb.below C2 (Nat.le_refl _)
  have za := Nat.le_trans z2 C2.size
  have zb := C2.size
  clear hnb C2 z1
  go_wp2_with fail
  rw [← hV2]
  have HV2 := Lib.hid hV2
  clear hV2
  have RA := fun (W : World) (h : Below V2.heap.size V2 W) (c : Nat) (hc : c < 512) => hrun W _ _ k1 s1 ad1 n1 cap1 c (NA.below h za) (Nat.le_trans za h.size) hc
  have RB := fun (W : World) (h : Below V2.heap.size V2 W) (c : Nat) (hc : c < 512) => hrun2 W _ _ k2 s2 ad2 n2 cap2 c (NB.below h zb) (Nat.le_trans zb h.size) hc
  clear hrun hrun2 NA NB
  clear HV1 HV2 X1' NA2
  generalize W1.heap.size = ga at Y1 za RA ⊢
  generalize W2.heap.size = gb at Y2 zb RB ⊢
  have ga0 := Y1.lt
  have gb0 := Y2.lt
  go_loopw [21] (fun i wr => ∃ k : Nat, k ≤ 9 ∧ i = .int .i64 (k : Int) ∧ (∀ j, j < k → sameAt r u j = true) ∧ Below V2.heap.size V2 wr) (fun i _ => 9 - (intOf i).toNat)
  case atStart => exact ⟨0, by omega, rfl, fun j hj => by omega, Below.refl _ _⟩
  case round =>
    obtain ⟨k, hk, rfl, hall, hB⟩ := hrel
    by_cases hlt : k < 9
    · have k8 : (k : Int) < 9 := by omega
      have k0 : (0 : Int) ≤ (k : Int) := by omega
      have hsh : IntKind.i64.wrap ((2 : Int) ^ k) = ((2 ^ k : Nat) : Int) := wrapI9 ⟨k, hlt⟩
      have hwu : IntKind.u64.wrap (k : Int) = (k : Int) := wrapU9 ⟨k, hlt⟩
      obtain ⟨a0, a1, a2, _⟩ := Var.cells (lies_kept hB Y1)
      obtain ⟨b0, b1, b2, _⟩ := Var.cells (lies_kept hB Y2)
      have RA' := RA wr.drew hB.drew (2 ^ k) (pow9 hlt)
      have RB' := fun W h => RB W h (2 ^ k) (pow9 hlt)
      have hE := fun W => eqModV (r (2 ^ k)) (u (2 ^ k)) W
      rw [show decide (r (2 ^ k) = u (2 ^ k)) = sameAt r u k from rfl] at hE
      have hhit := fun h => firstD_hit hlt hall (h : sameAt r u k = false)
      have HA := Lib.hid (And.intro hall hhit)
      have HRA := Lib.hid (And.intro RA RB)
      clear hall hhit RA RB
      have lga : ga < wr.drew.heap.size := Nat.lt_of_lt_of_le ga0 hB.size
      have lgb : gb < wr.drew.heap.size := Nat.lt_of_lt_of_le gb0 hB.size
      cases hb : sameAt r u k with
      | true =>
        rw [hb] at hE
        have HB := Lib.hid hb
        clear hb
        generalize r (2 ^ k) = x1 at RA' hE
        generalize u (2 ^ k) = x2 at RB' hE
        generalize (2 : Nat) ^ k = c at hsh RA' RB'
        go_wp2_with fail
        refine wp_region_held (S := fun w' => w'.cell? ⟨ga, 0, none⟩ = some (.int .u8 k1) ∧ w'.cell? ⟨ga, 1, none⟩ = some (.string s1) ∧ w'.cell? ⟨ga, 2, none⟩ = some (.slice ad1 n1 cap1) ∧ w'.cell? ⟨gb, 0, none⟩ = some (.int .u8 k2) ∧ w'.cell? ⟨gb, 1, none⟩ = some (.string s2) ∧ w'.cell? ⟨gb, 2, none⟩ = some (.slice ad2 n2 cap2)) (by kernel_rfl) ?_
        have hS : wr.drew.cell? ⟨ga, 0, none⟩ = some (.int .u8 k1) ∧ wr.drew.cell? ⟨ga, 1, none⟩ = some (.string s1) ∧ wr.drew.cell? ⟨ga, 2, none⟩ = some (.slice ad1 n1 cap1) ∧ wr.drew.cell? ⟨gb, 0, none⟩ = some (.int .u8 k2) ∧ wr.drew.cell? ⟨gb, 1, none⟩ = some (.string s2) ∧ wr.drew.cell? ⟨gb, 2, none⟩ = some (.slice ad2 n2 cap2) := ⟨a0, a1, a2, b0, b1, b2⟩
        refine wpAnyH_take (i := 0) (v := .agg #[.int .u8 k1, .string s1, .slice ad1 n1 cap1]) rfl (by kernel_rfl) (by kernel_rfl) (by kernel_rfl) (fun _ _ _ h => h) (Or.inl ⟨by rfl, fun w hw => by obtain ⟨l0, l1, l2, m0, m1, m2⟩ := hw; first | (go_simp; done) | rfl⟩) hS ?_
        go_simp
        refine wpAnyH_take (i := 1) (v := .int .i64 (k : Int)) rfl (by kernel_rfl) (by kernel_rfl) (by kernel_rfl) (fun _ _ _ h => h) (Or.inl ⟨by rfl, fun w hw => by go_simp⟩) hS ?_
        go_simp
        refine wpAnyH_take (i := 2) (v := .int .u64 (k : Int)) rfl (by kernel_rfl) (by kernel_rfl) (by kernel_rfl) (fun _ _ _ h => h) (Or.inl ⟨by rfl, fun w hw => by go_simp⟩) hS ?_
        go_simp
        refine wpAnyH_take (i := 3) (v := .int .i64 (c : Int)) rfl (by kernel_rfl) (by kernel_rfl) (by kernel_rfl) (fun _ _ _ h => h) (Or.inl ⟨by rfl, fun w hw => by go_simp⟩) hS ?_
        go_simp
        refine wpAnyH_take (i := 5) (v := .agg #[.int .u8 k2, .string s2, .slice ad2 n2 cap2]) rfl (by kernel_rfl) (by kernel_rfl) (by kernel_rfl) (fun _ _ _ h => h) (Or.inl ⟨by rfl, fun w hw => by obtain ⟨l0, l1, l2, m0, m1, m2⟩ := hw; first | (go_simp; done) | rfl⟩) hS ?_
        go_simp
        refine wpAnyH_take (i := 6) (v := .int .i64 (k : Int)) rfl (by kernel_rfl) (by kernel_rfl) (by kernel_rfl) (fun _ _ _ h => h) (Or.inl ⟨by rfl, fun w hw => by go_simp⟩) hS ?_
        go_simp
        refine wpAnyH_take (i := 7) (v := .int .u64 (k : Int)) rfl (by kernel_rfl) (by kernel_rfl) (by kernel_rfl) (fun _ _ _ h => h) (Or.inl ⟨by rfl, fun w hw => by go_simp⟩) hS ?_
        go_simp
        refine wpAnyH_take (i := 8) (v := .int .i64 (c : Int)) rfl (by kernel_rfl) (by kernel_rfl) (by kernel_rfl) (fun _ _ _ h => h) (Or.inl ⟨by rfl, fun w hw => by go_simp⟩) hS ?_
        go_simp
        refine wpAnyH_ready (rs := [4]) (by kernel_rfl) (by simp) ?_
        refine AllReadyH.cons rfl (fun K hK => ?_) AllReadyH.nil
        go_simp
        go_wp2_with (go_at_call 43; refine RA'.mono ?_; rintro e W3 ⟨rfl, hb3⟩)
        refine hK _ _ (⟨(hb3.cell (p := ⟨ga, 0, none⟩) lga).trans hS.1, (hb3.cell (p := ⟨ga, 1, none⟩) lga).trans hS.2.1, (hb3.cell (p := ⟨ga, 2, none⟩) lga).trans hS.2.2.1, (hb3.cell (p := ⟨gb, 0, none⟩) lgb).trans hS.2.2.2.1, (hb3.cell (p := ⟨gb, 1, none⟩) lgb).trans hS.2.2.2.2.1, (hb3.cell (p := ⟨gb, 2, none⟩) lgb).trans hS.2.2.2.2.2⟩) (fun hR1 => ?_)
        clear hK K
        go_simp
        have B3' := hB.drew.trans (hb3.mono hB.size)
        have lga' := Nat.lt_of_lt_of_le lga hb3.size
        have lgb' := Nat.lt_of_lt_of_le lgb hb3.size
        refine wpAnyH_ready (rs := [9]) (by kernel_rfl) (by simp) ?_
        refine AllReadyH.cons rfl (fun K hK => ?_) AllReadyH.nil
        go_simp
        go_wp2_with (go_at_call 43; refine (RB' W3 B3').mono ?_; rintro e W4 ⟨rfl, hb4⟩)
        refine hK _ _ (⟨(hb4.cell (p := ⟨ga, 0, none⟩) lga').trans hR1.1, (hb4.cell (p := ⟨ga, 1, none⟩) lga').trans hR1.2.1, (hb4.cell (p := ⟨ga, 2, none⟩) lga').trans hR1.2.2.1, (hb4.cell (p := ⟨gb, 0, none⟩) lgb').trans hR1.2.2.2.1, (hb4.cell (p := ⟨gb, 1, none⟩) lgb').trans hR1.2.2.2.2.1, (hb4.cell (p := ⟨gb, 2, none⟩) lgb').trans hR1.2.2.2.2.2⟩) (fun hR2 => ?_)
        clear hK K
        go_simp
        have B4 := B3'.trans (hb4.mono B3'.size)
        refine wpAnyH_take (i := 10) (v := .bool false) rfl (by kernel_rfl) (by kernel_rfl) (by kernel_rfl) (fun _ _ _ h => h) (Or.inl ⟨by rfl, fun w hw => by go_simp⟩) hR2 ?_
        go_simp
        refine wpAnyH_done (by kernel_rfl) ?_ _
        go_wp2_with fail
        go_roundw
        case rel =>
          refine ⟨k + 1, by omega, by go_num, fun j hj => ?_, B4⟩
          rcases Nat.lt_or_ge j k with h | h
          · exact HA.out.1 j h
          · obtain rfl : j = k := by omega
            exact HB.out
        case measure => simp [intOf]; omega
      | false =>
        rw [hb] at hE
        have HB := Lib.hid hb
        clear hb
        generalize r (2 ^ k) = x1 at RA' hE
        generalize u (2 ^ k) = x2 at RB' hE
        generalize (2 : Nat) ^ k = c at hsh RA' RB'
        go_wp2_with fail
        refine wp_region_held (S := fun w' => w'.cell? ⟨ga, 0, none⟩ = some (.int .u8 k1) ∧ w'.cell? ⟨ga, 1, none⟩ = some (.string s1) ∧ w'.cell? ⟨ga, 2, none⟩ = some (.slice ad1 n1 cap1) ∧ w'.cell? ⟨gb, 0, none⟩ = some (.int .u8 k2) ∧ w'.cell? ⟨gb, 1, none⟩ = some (.string s2) ∧ w'.cell? ⟨gb, 2, none⟩ = some (.slice ad2 n2 cap2)) (by kernel_rfl) ?_
        have hS : wr.drew.cell? ⟨ga, 0, none⟩ = some (.int .u8 k1) ∧ wr.drew.cell? ⟨ga, 1, none⟩ = some (.string s1) ∧ wr.drew.cell? ⟨ga, 2, none⟩ = some (.slice ad1 n1 cap1) ∧ wr.drew.cell? ⟨gb, 0, none⟩ = some (.int .u8 k2) ∧ wr.drew.cell? ⟨gb, 1, none⟩ = some (.string s2) ∧ wr.drew.cell? ⟨gb, 2, none⟩ = some (.slice ad2 n2 cap2) := ⟨a0, a1, a2, b0, b1, b2⟩
        refine wpAnyH_take (i := 0) (v := .agg #[.int .u8 k1, .string s1, .slice ad1 n1 cap1]) rfl (by kernel_rfl) (by kernel_rfl) (by kernel_rfl) (fun _ _ _ h => h) (Or.inl ⟨by rfl, fun w hw => by obtain ⟨l0, l1, l2, m0, m1, m2⟩ := hw; first | (go_simp; done) | rfl⟩) hS ?_
        go_simp
        refine wpAnyH_take (i := 1) (v := .int .i64 (k : Int)) rfl (by kernel_rfl) (by kernel_rfl) (by kernel_rfl) (fun _ _ _ h => h) (Or.inl ⟨by rfl, fun w hw => by go_simp⟩) hS ?_
        go_simp
        refine wpAnyH_take (i := 2) (v := .int .u64 (k : Int)) rfl (by kernel_rfl) (by kernel_rfl) (by kernel_rfl) (fun _ _ _ h => h) (Or.inl ⟨by rfl, fun w hw => by go_simp⟩) hS ?_
        go_simp
        refine wpAnyH_take (i := 3) (v := .int .i64 (c : Int)) rfl (by kernel_rfl) (by kernel_rfl) (by kernel_rfl) (fun _ _ _ h => h) (Or.inl ⟨by rfl, fun w hw => by go_simp⟩) hS ?_
        go_simp
        refine wpAnyH_take (i := 5) (v := .agg #[.int .u8 k2, .string s2, .slice ad2 n2 cap2]) rfl (by kernel_rfl) (by kernel_rfl) (by kernel_rfl) (fun _ _ _ h => h) (Or.inl ⟨by rfl, fun w hw => by obtain ⟨l0, l1, l2, m0, m1, m2⟩ := hw; first | (go_simp; done) | rfl⟩) hS ?_
        go_simp
        refine wpAnyH_take (i := 6) (v := .int .i64 (k : Int)) rfl (by kernel_rfl) (by kernel_rfl) (by kernel_rfl) (fun _ _ _ h => h) (Or.inl ⟨by rfl, fun w hw => by go_simp⟩) hS ?_
        go_simp
        refine wpAnyH_take (i := 7) (v := .int .u64 (k : Int)) rfl (by kernel_rfl) (by kernel_rfl) (by kernel_rfl) (fun _ _ _ h => h) (Or.inl ⟨by rfl, fun w hw => by go_simp⟩) hS ?_
        go_simp
        refine wpAnyH_take (i := 8) (v := .int .i64 (c : Int)) rfl (by kernel_rfl) (by kernel_rfl) (by kernel_rfl) (fun _ _ _ h => h) (Or.inl ⟨by rfl, fun w hw => by go_simp⟩) hS ?_
        go_simp
        refine wpAnyH_ready (rs := [4]) (by kernel_rfl) (by simp) ?_
        refine AllReadyH.cons rfl (fun K hK => ?_) AllReadyH.nil
        go_simp
        go_wp2_with (go_at_call 43; refine RA'.mono ?_; rintro e W3 ⟨rfl, hb3⟩)
        refine hK _ _ (⟨(hb3.cell (p := ⟨ga, 0, none⟩) lga).trans hS.1, (hb3.cell (p := ⟨ga, 1, none⟩) lga).trans hS.2.1, (hb3.cell (p := ⟨ga, 2, none⟩) lga).trans hS.2.2.1, (hb3.cell (p := ⟨gb, 0, none⟩) lgb).trans hS.2.2.2.1, (hb3.cell (p := ⟨gb, 1, none⟩) lgb).trans hS.2.2.2.2.1, (hb3.cell (p := ⟨gb, 2, none⟩) lgb).trans hS.2.2.2.2.2⟩) (fun hR1 => ?_)
        clear hK K
        go_simp
        have B3' := hB.drew.trans (hb3.mono hB.size)
        have lga' := Nat.lt_of_lt_of_le lga hb3.size
        have lgb' := Nat.lt_of_lt_of_le lgb hb3.size
        refine wpAnyH_ready (rs := [9]) (by kernel_rfl) (by simp) ?_
        refine AllReadyH.cons rfl (fun K hK => ?_) AllReadyH.nil
        go_simp
        go_wp2_with (go_at_call 43; refine (RB' W3 B3').mono ?_; rintro e W4 ⟨rfl, hb4⟩)
        refine hK _ _ (⟨(hb4.cell (p := ⟨ga, 0, none⟩) lga').trans hR1.1, (hb4.cell (p := ⟨ga, 1, none⟩) lga').trans hR1.2.1, (hb4.cell (p := ⟨ga, 2, none⟩) lga').trans hR1.2.2.1, (hb4.cell (p := ⟨gb, 0, none⟩) lgb').trans hR1.2.2.2.1, (hb4.cell (p := ⟨gb, 1, none⟩) lgb').trans hR1.2.2.2.2.1, (hb4.cell (p := ⟨gb, 2, none⟩) lgb').trans hR1.2.2.2.2.2⟩) (fun hR2 => ?_)
        clear hK K
        go_simp
        have B4 := B3'.trans (hb4.mono B3'.size)
        refine wpAnyH_take (i := 10) (v := .bool true) rfl (by kernel_rfl) (by kernel_rfl) (by kernel_rfl) (fun _ _ _ h => h) (Or.inl ⟨by rfl, fun w hw => by go_simp⟩) hR2 ?_
        go_simp
        refine wpAnyH_done (by kernel_rfl) ?_ _
        go_wp2_with fail
        go_ret2
        exact ⟨by unfold diffR; rw [HA.out.2 HB.out]; rfl, B3.trans (B4.mono B3.size)⟩
    · obtain rfl : k = 9 := by omega
      go_wp2
      go_ret2
      exact ⟨by unfold diffR; rw [firstD_none hall]; rfl, B3.trans (hB.mono B3.size)⟩

theorem whole_shape {t : ByteArray} {W : World} (h : Calls Tryd.prog 42 #[.string t] W (Whole t W)) :
    Calls Tryd.prog 42 #[.string t] W fun e w' => Below W.heap.size W w' ∧ ∃ k s ad n cap, e = .returned (.tuple #[.agg #[.int .u8 k, .string s, .slice ad n cap], .bool (readP t.toList).isSome]) := by
  refine h.mono fun e w' h => ⟨h.1, ?_⟩
  have hm := h.2
  cases hQ : readP t.toList with
  | none => rw [hQ] at hm; exact ⟨_, _, _, _, _, hm⟩
  | some b => rw [hQ] at hm; obtain ⟨k2, s2, ad2, n2, cap2, h, _⟩ := hm; exact ⟨_, _, _, _, _, h⟩

set_option maxHeartbeats 4000000 in
theorem mdiff_first (p q : ByteArray) (hp : p.size ≤ 9000000) (hq : q.size ≤ 9000000) (w : World) (hP : readP p.toList = none) :
    Calls Tryd.prog 83 #[.string p, .string q] w fun e w' => e = .returned (.tuple #[.int .i64 0, .bool false]) ∧ Below w.heap.size w w' := by
  have hr := fun W => whole_shape (read42 p hp W)
  have hr2 := fun W => whole_shape (read42 q hq W)
  rw [show (readP p.toList).isSome = false by rw [hP]; rfl] at hr
  generalize (readP q.toList).isSome = bq at hr2
  go_enter Tryd.func83, Tryd.ntmps83
  go_wp2_with fail
  go_at_call 42
  refine (hr _).mono ?_
  rintro e W1 ⟨hb1, k1, s1, ad1, n1, cap1, rfl⟩
  go_wp2_with fail
  obtain ⟨V1, hV1⟩ : ∃ V, V = W1.alloc (.cells #[.int .u8 k1, .string s1, .slice ad1 n1 cap1] 52) := ⟨_, rfl⟩
  have B1 : Below w.heap.size w V1 := by rw [hV1]; exact hb1.alloc hb1.size _
  rw [← hV1]
  have HV1 := Lib.hid hV1
  clear hV1
  go_at_call 42
  refine (hr2 _).mono ?_
  rintro e W2 ⟨hb2, k2, s2, ad2, n2, cap2, rfl⟩
  have B2 := B1.trans (hb2.mono B1.size)
  clear hr hr2
  go_wp2_with fail
  obtain ⟨V2, hV2⟩ : ∃ V, V = W2.alloc (.cells #[.int .u8 k2, .string s2, .slice ad2 n2 cap2] 52) := ⟨_, rfl⟩
  have B3 : Below w.heap.size w V2 := by rw [hV2]; exact B2.alloc B2.size _
  rw [← hV2]
  have HV2 := Lib.hid hV2
  clear hV2
  go_loopw [21] (fun i wr => i = .int .i64 0 ∧ wr = V2) (fun _ _ => 0)
  case atStart => exact ⟨rfl, rfl⟩
  case round =>
    obtain ⟨rfl, rfl⟩ := hrel
    go_wp2_with fail
    go_ret2
    exact ⟨rfl, B3⟩

set_option maxHeartbeats 4000000 in
theorem mdiff_second (p q : ByteArray) (hp : p.size ≤ 9000000) (hq : q.size ≤ 9000000) (w : World) {a : Node} (hP : readP p.toList = some a) (hQ : readP q.toList = none) :
    Calls Tryd.prog 83 #[.string p, .string q] w fun e w' => e = .returned (.tuple #[.int .i64 0, .bool false]) ∧ Below w.heap.size w w' := by
  have hr := fun W => whole_shape (read42 p hp W)
  have hr2 := fun W => whole_shape (read42 q hq W)
  rw [show (readP p.toList).isSome = true by rw [hP]; rfl] at hr
  rw [show (readP q.toList).isSome = false by rw [hQ]; rfl] at hr2
  go_enter Tryd.func83, Tryd.ntmps83
  go_wp2_with fail
  go_at_call 42
  refine (hr _).mono ?_
  rintro e W1 ⟨hb1, k1, s1, ad1, n1, cap1, rfl⟩
  go_wp2_with fail
  obtain ⟨V1, hV1⟩ : ∃ V, V = W1.alloc (.cells #[.int .u8 k1, .string s1, .slice ad1 n1 cap1] 52) := ⟨_, rfl⟩
  have B1 : Below w.heap.size w V1 := by rw [hV1]; exact hb1.alloc hb1.size _
  rw [← hV1]
  have HV1 := Lib.hid hV1
  clear hV1
  go_at_call 42
  refine (hr2 _).mono ?_
  rintro e W2 ⟨hb2, k2, s2, ad2, n2, cap2, rfl⟩
  have B2 := B1.trans (hb2.mono B1.size)
  clear hr hr2
  go_wp2_with fail
  obtain ⟨V2, hV2⟩ : ∃ V, V = W2.alloc (.cells #[.int .u8 k2, .string s2, .slice ad2 n2 cap2] 52) := ⟨_, rfl⟩
  have B3 : Below w.heap.size w V2 := by rw [hV2]; exact B2.alloc B2.size _
  rw [← hV2]
  have HV2 := Lib.hid hV2
  clear hV2
  go_loopw [21] (fun i wr => i = .int .i64 0 ∧ wr = V2) (fun _ _ => 0)
  case atStart => exact ⟨rfl, rfl⟩
  case round =>
    obtain ⟨rfl, rfl⟩ := hrel
    go_wp2_with fail
    go_ret2
    exact ⟨rfl, B3⟩

theorem mdiff (p q : ByteArray) (hp : p.size ≤ 9000000) (hq : q.size ≤ 9000000) (w : World) :
    Calls Tryd.prog 83 #[.string p, .string q] w fun e w' => e = .returned (diffV p q) ∧ Below w.heap.size w w' := by
  unfold diffV
  cases hP : readP p.toList with
  | none => exact mdiff_first p q hp hq w hP
  | some a =>
    cases hQ : readP q.toList with
    | none => exact mdiff_second p q hp hq w hP hQ
    | some b => exact mdiff_some p q hp hq w hP hQ
end Go.Proofs.YtgkgkaapjljpcaaDoor

