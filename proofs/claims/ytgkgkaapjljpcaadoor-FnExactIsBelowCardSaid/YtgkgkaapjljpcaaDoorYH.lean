/- Chapter 11, the model: IsBelow. -/
import Derived.Test.YtgkgkaapjljpcaaDoorYG
import Derived.Test.YtgkgkaapjljpcaaDoorYD
namespace Go.Proofs.YtgkgkaapjljpcaaDoor
open Go.ChangeShapes Go.WideShapes Go.ChangeAt Go.RowKit Go.Shelf
attribute [local go_sem] Oper.semAt_some
set_option maxRecDepth 100000

theorem compl_bitN {m : Nat} (hm : m < 512) (i : Nat) : (511 - m).testBit i = (decide (i < 9) && !m.testBit i) := by
  have := Nat.testBit_two_pow_sub_succ (n := 9) hm i
  rw [show 2 ^ 9 - (m + 1) = 511 - m by omega] at this
  exact this
theorem high_bitN {m : Nat} (hm : m < 512) {i : Nat} (hi : 9 ≤ i) : m.testBit i = false :=
  Nat.testBit_lt_two_pow (Nat.lt_of_lt_of_le hm (by have := Nat.pow_le_pow_right (n := 2) (by omega) hi; omega))
theorem andNotN {z m : Nat} (hz : z < 512) (hm : m < 512) : bits .andNot .i64 (z : Int) (m : Int) = ((z &&& (511 - m) : Nat) : Int) := by
  have hlt : z &&& (511 - m) < 512 := and_lt hz
  have e : (BitVec.ofInt 64 (z : Int) &&& ~~~ BitVec.ofInt 64 (m : Int)) = BitVec.ofNat 64 (z &&& (511 - m)) := by
    apply BitVec.eq_of_getLsbD_eq
    intro i hi
    rw [BitVec.ofInt_natCast, BitVec.ofInt_natCast]
    simp only [BitVec.getLsbD_and, BitVec.getLsbD_not, BitVec.getLsbD_ofNat, hi, decide_true, Bool.true_and, Nat.testBit_and, compl_bitN hm]
    by_cases h9 : i < 9
    · simp [h9]
    · rw [high_bitN hz (by omega)]; simp
  show IntKind.i64.wrap ((BitVec.ofInt 64 (z : Int) &&& ~~~ BitVec.ofInt 64 (m : Int)).toNat : Int) = _
  rw [e, BitVec.toNat_ofNat, Nat.mod_eq_of_lt (by omega)]
  exact IntWalk.i64_in _ (by omega)
theorem left_none {z m : Nat} (hz : z < 512) (hm : m < 512) : (bits .andNot .i64 (z : Int) (m : Int) != 0) = !decide (z ||| m = m) := by
  rw [andNotN hz hm, bne]
  congr 1
  rw [Bool.eq_iff_iff, beq_iff_eq, decide_eq_true_iff]
  constructor
  · intro h
    have h0 : z &&& (511 - m) = 0 := by omega
    apply Nat.eq_of_testBit_eq
    intro i
    have hb := congrArg (fun x => x.testBit i) h0
    simp only [Nat.testBit_and, compl_bitN hm, Nat.zero_testBit] at hb
    rw [Nat.testBit_or]
    by_cases h9 : i < 9
    · revert hb
      cases z.testBit i <;> cases m.testBit i <;> simp [h9]
    · rw [high_bitN hz (by omega), high_bitN hm (by omega)]; rfl
  · intro h
    have : z &&& (511 - m) = 0 := by
      apply Nat.eq_of_testBit_eq
      intro i
      have hb := congrArg (fun x => x.testBit i) h
      simp only [Nat.testBit_or] at hb
      rw [Nat.testBit_and, compl_bitN hm, Nat.zero_testBit]
      revert hb
      cases z.testBit i <;> cases m.testBit i <;> simp
    omega
/-- Both tests of the model say that nothing is left over. -/
theorem below_tests (r u : Nat → Nat × Nat) (hr : SmallR r) (hu : SmallR u) {k : Nat} (hk : k < 9) :
    sameAt (mixR r u 9) u k = (!(bits .andNot .i64 ((r (2 ^ k)).1 : Int) ((u (2 ^ k)).1 : Int) != 0) && !(bits .andNot .i64 ((r (2 ^ k)).2 : Int) ((u (2 ^ k)).2 : Int) != 0)) := by
  rw [left_none (hr k hk).1 (hu k hk).1, left_none (hr k hk).2 (hu k hk).2, Bool.not_not, Bool.not_not]
  unfold sameAt
  rw [mix_at, if_pos hk, Bool.eq_iff_iff, Bool.and_eq_true, decide_eq_true_iff, decide_eq_true_iff, decide_eq_true_iff]
  unfold both2
  exact ⟨fun h => ⟨congrArg Prod.fst h, congrArg Prod.snd h⟩, fun h => Prod.ext h.1 h.2⟩
theorem cells_then {W : World} {b : Nat} {x y : Value} {t : TypeId} {G : Prop} (h : Lies W b #[x, y] t) (f : W.cell? ⟨b, 0, none⟩ = some x → W.cell? ⟨b, 1, none⟩ = some y → W.frozen? ⟨b, 0, none⟩ = false → W.frozen? ⟨b, 1, none⟩ = false → b < W.heap.size → G) : G := f h.cells.1 h.cells.2.1 h.cells.2.2.1 h.cells.2.2.2 h.lt
theorem alloc_le {n : Nat} {W : World} {o : Obj} (h : n ≤ W.heap.size) : n ≤ (W.alloc o).heap.size := by simp; omega
set_option maxHeartbeats 4000000 in
theorem mbelow_some (p q : ByteArray) (hp : p.size ≤ 9000000) (hq : q.size ≤ 9000000) (w : World) {a b : Node} (hP : readP p.toList = some a) (hQ : readP q.toList = some b) :
    Calls Tryd.prog 22 #[.string p, .string q] w fun e w' => e = .returned (.bool ((List.range 9).all (sameAt (mixR (runR a) (runR b) 9) (runR b)))) ∧ Below w.heap.size w w' := by
  have hr := read42 p hp
  have hr2 := read42 q hq
  obtain ⟨hoa, _⟩ := readP_iff.1 hP
  obtain ⟨hob, _⟩ := readP_iff.1 hQ
  have hrun := fun W lo hi k s ad n cap j h h2 hj => mrun23 a hoa W lo hi k s ad n cap j h h2 hj
  have hrun2 := fun W lo hi k s ad n cap j h h2 hj => mrun23 b hob W lo hi k s ad n cap j h h2 hj
  have HP := Lib.hid hP
  have HQ := Lib.hid hQ
  clear hP hQ
  have hsr := small_run hoa
  have hsu := small_run hob
  generalize runR a = r at hrun hsr ⊢
  generalize runR b = u at hrun2 hsu ⊢
  go_enter Tryd.func22, Tryd.ntmps22
  go_wp2_with fail
  go_at_call 42
  refine (hr _).mono ?_
  rintro e W1 ⟨hb1, hm⟩
  rw [HP.out] at hm
  obtain ⟨k1, s1, ad1, n1, cap1, rfl, hna⟩ := hm
  have HNA := Lib.hid hna
  clear hna hr
  go_wp2_with fail
  obtain ⟨V1, hV1⟩ : ∃ V, V = W1.alloc (.cells #[.int .u8 k1, .string s1, .slice ad1 n1 cap1] 52) := ⟨_, rfl⟩
  have X1 : Lies V1 W1.heap.size #[.int .u8 k1, .string s1, .slice ad1 n1 cap1] 52 := by rw [hV1]; exact Lies.new W1 _ _
  have B1 : Below w.heap.size w V1 := by rw [hV1]; exact hb1.alloc hb1.size _
  have NA1 := HNA.out.below (show Below W1.heap.size W1 V1 by rw [hV1]; exact (Below.refl _ W1).alloc (Nat.le_refl _) _) (Nat.le_refl _)
  have z1 : W1.heap.size ≤ V1.heap.size := by rw [hV1]; simp
  rw [← hV1]
  have HV1 := Lib.hid hV1
  clear hV1
  go_at_call 42
  refine (hr2 _).mono ?_
  rintro e W2 ⟨hb2, hm⟩
  rw [HQ.out] at hm
  obtain ⟨k2, s2, ad2, n2, cap2, rfl, hnb⟩ := hm
  have X1' := lies_kept hb2 X1
  have B2 := B1.trans (hb2.mono B1.size)
  have NA2 := NA1.below hb2 z1
  have z2 := Nat.le_trans z1 hb2.size
  clear X1 NA1 hr2 hb2
  obtain ⟨V2, hV2⟩ : ∃ V, V = W2.alloc (.cells #[.int .u8 k2, .string s2, .slice ad2 n2 cap2] 52) := ⟨_, rfl⟩
  have C2 : Below W2.heap.size W2 V2 := by rw [hV2]; exact (Below.refl _ W2).alloc (Nat.le_refl _) _
  have Y2 : Lies V2 W2.heap.size #[.int .u8 k2, .string s2, .slice ad2 n2 cap2] 52 := by rw [hV2]; exact Lies.new W2 _ _
  have Y1 := lies_kept C2 X1'
  have B3 := B2.trans (C2.mono B2.size)
  have NA := NA2.below C2 z2
  have NB := hnb.below C2 (Nat.le_refl _)
  have za := Nat.le_trans z2 C2.size
  have zb := C2.size
  clear hnb C2 z1
  go_wp2_with fail
  rw [← hV2]
  have HV2 := Lib.hid hV2
  clear hV2
  have RA := fun (W : World) (h : Below V2.heap.size V2 W) (c : Nat) (hc : c < 512) => hrun W _ _ k1 s1 ad1 n1 cap1 c (NA.below h za) (Nat.le_trans za h.size) hc
  have RB := fun (W : World) (h : Below V2.heap.size V2 W) (c : Nat) (hc : c < 512) => hrun2 W _ _ k2 s2 ad2 n2 cap2 c (NB.below h zb) (Nat.le_trans zb h.size) hc
  clear hrun hrun2 NA NB
  clear HV1 HV2 X1' NA2
  generalize W1.heap.size = ga at Y1 za RA ⊢
  generalize W2.heap.size = gb at Y2 zb RB ⊢
  have ga0 := Y1.lt
  have gb0 := Y2.lt
  go_loopw [28] (fun i wr => ∃ k : Nat, k ≤ 9 ∧ i = .int .i64 (k : Int) ∧ (∀ j, j < k → sameAt (mixR r u 9) u j = true) ∧ Below V2.heap.size V2 wr) (fun i _ => 9 - (intOf i).toNat)
  case atStart => exact ⟨0, by omega, rfl, fun j hj => by omega, Below.refl _ _⟩
  case round =>
    obtain ⟨k, hk, rfl, hall, hB⟩ := hrel
    by_cases hlt : k < 9
    · have k8 : (k : Int) < 9 := by omega
      have k0 : (0 : Int) ≤ (k : Int) := by omega
      have hsh : IntKind.i64.wrap ((2 : Int) ^ k) = ((2 ^ k : Nat) : Int) := wrapI9 ⟨k, hlt⟩
      have hwu : IntKind.u64.wrap (k : Int) = (k : Int) := wrapU9 ⟨k, hlt⟩
      obtain ⟨a0, a1, a2, _⟩ := Var.cells (lies_kept hB Y1)
      obtain ⟨b0, b1, b2, _⟩ := Var.cells (lies_kept hB Y2)
      have ht := below_tests r u hsr hsu hlt
      have RA' := fun W h => RA W h (2 ^ k) (pow9 hlt)
      have RB' := fun W h => RB W h (2 ^ k) (pow9 hlt)
      have zg := (show Lies wr gb #[.int .u8 k2, .string s2, .slice ad2 n2 cap2] 52 from lies_kept hB Y2).lt
      have zga := (show Lies wr ga #[.int .u8 k1, .string s1, .slice ad1 n1 cap1] 52 from lies_kept hB Y1).lt
      have HH := Lib.hid (And.intro hall ht)
      clear hall ht RA RB
      generalize r (2 ^ k) = x at RA' HH
      generalize u (2 ^ k) = y at RB' HH
      generalize (2 : Nat) ^ k = c at hsh RA' RB'
      obtain ⟨x1, x2⟩ := x
      obtain ⟨y1, y2⟩ := y
      cases t1 : (bits .andNot .i64 (x1 : Int) (y1 : Int) != 0) with
      | true =>
        have HN := Lib.hid (show (List.range 9).all (sameAt (mixR r u 9) u) = false by
          rw [List.all_eq_false]
          exact ⟨k, List.mem_range.2 hlt, by rw [HH.out.2, t1]; simp⟩)
        go_wp2_with fail
        refine wp_region_held (S := fun w' => Below V2.heap.size V2 w') (by kernel_rfl) ?_
        have hS : Below V2.heap.size V2 wr.drew := hB.drew
        refine wpAnyH_take (i := 0) (v := .agg #[.int .u8 k1, .string s1, .slice ad1 n1 cap1]) rfl (by kernel_rfl) (by kernel_rfl) (by kernel_rfl) (fun _ _ _ h => h) (Or.inl ⟨by rfl, fun w hw => by obtain ⟨l0, l1, l2, _⟩ := Var.cells (lies_kept hw Y1); obtain ⟨m0, m1, m2, _⟩ := Var.cells (lies_kept hw Y2); first | (go_simp; done) | rfl⟩) hS ?_
        go_simp
        refine wpAnyH_take (i := 1) (v := .int .i64 (k : Int)) rfl (by kernel_rfl) (by kernel_rfl) (by kernel_rfl) (fun _ _ _ h => h) (Or.inl ⟨by rfl, fun w hw => by go_simp⟩) hS ?_
        go_simp
        refine wpAnyH_take (i := 2) (v := .int .u64 (k : Int)) rfl (by kernel_rfl) (by kernel_rfl) (by kernel_rfl) (fun _ _ _ h => h) (Or.inl ⟨by rfl, fun w hw => by go_simp⟩) hS ?_
        go_simp
        refine wpAnyH_take (i := 3) (v := .int .i64 (c : Int)) rfl (by kernel_rfl) (by kernel_rfl) (by kernel_rfl) (fun _ _ _ h => h) (Or.inl ⟨by rfl, fun w hw => by go_simp⟩) hS ?_
        go_simp
        refine wpAnyH_take (i := 5) (v := .agg #[.int .u8 k2, .string s2, .slice ad2 n2 cap2]) rfl (by kernel_rfl) (by kernel_rfl) (by kernel_rfl) (fun _ _ _ h => h) (Or.inl ⟨by rfl, fun w hw => by obtain ⟨l0, l1, l2, _⟩ := Var.cells (lies_kept hw Y1); obtain ⟨m0, m1, m2, _⟩ := Var.cells (lies_kept hw Y2); first | (go_simp; done) | rfl⟩) hS ?_
        go_simp
        refine wpAnyH_take (i := 6) (v := .int .i64 (k : Int)) rfl (by kernel_rfl) (by kernel_rfl) (by kernel_rfl) (fun _ _ _ h => h) (Or.inl ⟨by rfl, fun w hw => by go_simp⟩) hS ?_
        go_simp
        refine wpAnyH_take (i := 7) (v := .int .u64 (k : Int)) rfl (by kernel_rfl) (by kernel_rfl) (by kernel_rfl) (fun _ _ _ h => h) (Or.inl ⟨by rfl, fun w hw => by go_simp⟩) hS ?_
        go_simp
        refine wpAnyH_take (i := 8) (v := .int .i64 (c : Int)) rfl (by kernel_rfl) (by kernel_rfl) (by kernel_rfl) (fun _ _ _ h => h) (Or.inl ⟨by rfl, fun w hw => by go_simp⟩) hS ?_
        go_simp
        refine wpAnyH_ready (rs := [4, 10, 11]) (by kernel_rfl) (by simp) ?_
        refine AllReadyH.cons rfl (fun K hK => ?_) (AllReadyH.cons rfl (fun K hK => ?_) (AllReadyH.cons rfl (fun K hK => ?_) AllReadyH.nil))
        · go_simp
          go_wp2_with (go_at_call 43; refine (RA' _ hS).mono ?_; rintro e W1 ⟨rfl, h1⟩)
          have b1 := (hS).trans (h1.mono (hS).size)
          have z1 := h1.size
          refine hK _ _ b1 (fun _ => ?_)
          clear hK K h1
          go_simp
          refine wpAnyH_ready (rs := [9, 10, 11]) (by kernel_rfl) (by simp) ?_
          refine AllReadyH.cons rfl (fun K hK => ?_) (AllReadyH.cons rfl (fun K hK => ?_) (AllReadyH.cons rfl (fun K hK => ?_) AllReadyH.nil))
          · go_simp
            go_wp2_with (go_at_call 43; refine (RB' _ b1).mono ?_; rintro e W2 ⟨rfl, h2⟩)
            have b2 := (b1).trans (h2.mono (b1).size)
            have z2 := h2.size
            refine hK _ _ b2 (fun _ => ?_)
            clear hK K h2
            go_simp
            refine wpAnyH_ready (rs := [10, 11]) (by kernel_rfl) (by simp) ?_
            refine AllReadyH.cons rfl (fun K hK => ?_) (AllReadyH.cons rfl (fun K hK => ?_) AllReadyH.nil)
            · go_simp
              obtain ⟨W3, e3⟩ : ∃ W', W' = W2.alloc (.cells #[.int .i64 0, .int .i64 0] 56) := ⟨_, rfl⟩
              have b3 : Below V2.heap.size V2 W3 := by rw [e3]; exact (b2).alloc (b2).size _
              have f3_10 : Lies W3 W2.heap.size #[.int .i64 0, .int .i64 0] 56 := by rw [e3]; exact Lies.new W2 #[.int .i64 0, .int .i64 0] 56
              have z3 := Lib.hid (show W3.heap.size = W2.heap.size + 1 by rw [e3]; simp)
              rw [← e3]
              clear e3
              refine hK _ _ b3 (fun _ => ?_)
              clear hK K
              go_simp
              refine wpAnyH_ready (rs := [11]) (by kernel_rfl) (by simp) ?_
              refine AllReadyH.cons rfl (fun K hK => ?_) AllReadyH.nil
              · go_simp
                obtain ⟨W4, e4⟩ : ∃ W', W' = W3.alloc (.cells #[.int .i64 0, .int .i64 0] 56) := ⟨_, rfl⟩
                have b4 : Below V2.heap.size V2 W4 := by rw [e4]; exact (b3).alloc (b3).size _
                have f4_11 : Lies W4 W3.heap.size #[.int .i64 0, .int .i64 0] 56 := by rw [e4]; exact Lies.new W3 #[.int .i64 0, .int .i64 0] 56
                have f4_10 : Lies W4 W2.heap.size #[.int .i64 0, .int .i64 0] 56 := by rw [e4]; exact Lies.alloc f3_10 _
                have z4 := Lib.hid (show W4.heap.size = W3.heap.size + 1 by rw [e4]; simp)
                rw [← e4]
                clear e4
                refine hK _ _ b4 (fun _ => ?_)
                clear hK K
                go_simp
                refine wpAnyH_ready (rs := [12]) (by kernel_rfl) (by simp) ?_
                refine AllReadyH.cons rfl (fun K hK => ?_) AllReadyH.nil
                · go_simp
                  obtain ⟨c0, c1, c2, c3⟩ := (f4_10).cells
                  go_simp
                  have g5 := set_grown W4 (W2.heap.size) 0 1 (.int .i64 (x1 : Int)) (.int .i64 (x2 : Int))
                  have b5 : Below V2.heap.size V2 ((W4.setCell ⟨W2.heap.size, 0, none⟩ (.int .i64 (x1 : Int))).setCell ⟨W2.heap.size, 1, none⟩ (.int .i64 (x2 : Int))) := (b4).grown g5 (b4).size (fun j e => by cases e; exact (b2).size)
                  have f5_10 := ((f4_10).set0 (.int .i64 (x1 : Int))).set1 (.int .i64 (x2 : Int))
                  have f5_11 := (f4_11).kept g5 (by intro e; have := Option.some.inj e; have qz3 := z3.out; have qz4 := z4.out; omega)
                  refine hK _ _ b5 (fun _ => ?_)
                  clear hK K
                  go_simp
                  refine wpAnyH_ready (rs := [13]) (by kernel_rfl) (by simp) ?_
                  refine AllReadyH.cons rfl (fun K hK => ?_) AllReadyH.nil
                  · go_simp
                    obtain ⟨c0, c1, c2, c3⟩ := (f4_11).cells
                    have d1 : W2.heap.size ≠ W3.heap.size := by have qz3 := z3.out; have qz4 := z4.out; omega
                    have d2 : W3.heap.size ≠ W2.heap.size := fun e => d1 e.symm
                    go_simp
                    have g6 := set_grown ((W4.setCell ⟨W2.heap.size, 0, none⟩ (.int .i64 (x1 : Int))).setCell ⟨W2.heap.size, 1, none⟩ (.int .i64 (x2 : Int))) (W3.heap.size) 0 1 (.int .i64 (y1 : Int)) (.int .i64 (y2 : Int))
                    have b6 : Below V2.heap.size V2 ((((W4.setCell ⟨W2.heap.size, 0, none⟩ (.int .i64 (x1 : Int))).setCell ⟨W2.heap.size, 1, none⟩ (.int .i64 (x2 : Int))).setCell ⟨W3.heap.size, 0, none⟩ (.int .i64 (y1 : Int))).setCell ⟨W3.heap.size, 1, none⟩ (.int .i64 (y2 : Int))) := (b5).grown g6 (b5).size (fun j e => by cases e; exact (b3).size)
                    have f6_11 := ((f5_11).set0 (.int .i64 (y1 : Int))).set1 (.int .i64 (y2 : Int))
                    have f6_10 := (f5_10).kept g6 (by intro e; have := Option.some.inj e; have qz3 := z3.out; have qz4 := z4.out; omega)
                    refine hK _ _ b6 (fun _ => ?_)
                    clear hK K
                    go_simp
                    refine wpAnyH_done (by kernel_rfl) ?_ _
                    have fx := f6_10
                    have fy := f6_11
                    have bz := b6
                    obtain ⟨Z, hZ⟩ : ∃ Z, Z = ((((W4.setCell ⟨W2.heap.size, 0, none⟩ (.int .i64 (x1 : Int))).setCell ⟨W2.heap.size, 1, none⟩ (.int .i64 (x2 : Int))).setCell ⟨W3.heap.size, 0, none⟩ (.int .i64 (y1 : Int))).setCell ⟨W3.heap.size, 1, none⟩ (.int .i64 (y2 : Int))) := ⟨_, rfl⟩
                    rw [← hZ] at fx fy bz
                    rw [← hZ]
                    obtain ⟨e0, e1, _, _⟩ := fx.cells
                    obtain ⟨e2, e3, _, _⟩ := fy.cells
                    have HZ := Lib.hid hZ
                    clear hZ
                    go_wp2_with fail
                    go_ret
                    exact ⟨congrArg (fun z => Ending.returned (.bool z)) HN.out.symm, B3.trans (bz.mono B3.size)⟩
            · go_simp
              obtain ⟨W7, e7⟩ : ∃ W', W' = W2.alloc (.cells #[.int .i64 0, .int .i64 0] 56) := ⟨_, rfl⟩
              have b7 : Below V2.heap.size V2 W7 := by rw [e7]; exact (b2).alloc (b2).size _
              have f7_11 : Lies W7 W2.heap.size #[.int .i64 0, .int .i64 0] 56 := by rw [e7]; exact Lies.new W2 #[.int .i64 0, .int .i64 0] 56
              have z7 := Lib.hid (show W7.heap.size = W2.heap.size + 1 by rw [e7]; simp)
              rw [← e7]
              clear e7
              refine hK _ _ b7 (fun _ => ?_)
              clear hK K
              go_simp
              refine wpAnyH_ready (rs := [10]) (by kernel_rfl) (by simp) ?_
              refine AllReadyH.cons rfl (fun K hK => ?_) AllReadyH.nil
              · go_simp
                obtain ⟨W8, e8⟩ : ∃ W', W' = W7.alloc (.cells #[.int .i64 0, .int .i64 0] 56) := ⟨_, rfl⟩
                have b8 : Below V2.heap.size V2 W8 := by rw [e8]; exact (b7).alloc (b7).size _
                have f8_10 : Lies W8 W7.heap.size #[.int .i64 0, .int .i64 0] 56 := by rw [e8]; exact Lies.new W7 #[.int .i64 0, .int .i64 0] 56
                have f8_11 : Lies W8 W2.heap.size #[.int .i64 0, .int .i64 0] 56 := by rw [e8]; exact Lies.alloc f7_11 _
                have z8 := Lib.hid (show W8.heap.size = W7.heap.size + 1 by rw [e8]; simp)
                rw [← e8]
                clear e8
                refine hK _ _ b8 (fun _ => ?_)
                clear hK K
                go_simp
                refine wpAnyH_ready (rs := [12]) (by kernel_rfl) (by simp) ?_
                refine AllReadyH.cons rfl (fun K hK => ?_) AllReadyH.nil
                · go_simp
                  obtain ⟨c0, c1, c2, c3⟩ := (f8_10).cells
                  go_simp
                  have g9 := set_grown W8 (W7.heap.size) 0 1 (.int .i64 (x1 : Int)) (.int .i64 (x2 : Int))
                  have b9 : Below V2.heap.size V2 ((W8.setCell ⟨W7.heap.size, 0, none⟩ (.int .i64 (x1 : Int))).setCell ⟨W7.heap.size, 1, none⟩ (.int .i64 (x2 : Int))) := (b8).grown g9 (b8).size (fun j e => by cases e; exact (b7).size)
                  have f9_10 := ((f8_10).set0 (.int .i64 (x1 : Int))).set1 (.int .i64 (x2 : Int))
                  have f9_11 := (f8_11).kept g9 (by intro e; have := Option.some.inj e; have qz7 := z7.out; have qz8 := z8.out; omega)
                  refine hK _ _ b9 (fun _ => ?_)
                  clear hK K
                  go_simp
                  refine wpAnyH_ready (rs := [13]) (by kernel_rfl) (by simp) ?_
                  refine AllReadyH.cons rfl (fun K hK => ?_) AllReadyH.nil
                  · go_simp
                    obtain ⟨c0, c1, c2, c3⟩ := (f8_11).cells
                    have d1 : W7.heap.size ≠ W2.heap.size := by have qz7 := z7.out; have qz8 := z8.out; omega
                    have d2 : W2.heap.size ≠ W7.heap.size := fun e => d1 e.symm
                    go_simp
                    have g10 := set_grown ((W8.setCell ⟨W7.heap.size, 0, none⟩ (.int .i64 (x1 : Int))).setCell ⟨W7.heap.size, 1, none⟩ (.int .i64 (x2 : Int))) (W2.heap.size) 0 1 (.int .i64 (y1 : Int)) (.int .i64 (y2 : Int))
                    have b10 : Below V2.heap.size V2 ((((W8.setCell ⟨W7.heap.size, 0, none⟩ (.int .i64 (x1 : Int))).setCell ⟨W7.heap.size, 1, none⟩ (.int .i64 (x2 : Int))).setCell ⟨W2.heap.size, 0, none⟩ (.int .i64 (y1 : Int))).setCell ⟨W2.heap.size, 1, none⟩ (.int .i64 (y2 : Int))) := (b9).grown g10 (b9).size (fun j e => by cases e; exact (b2).size)
                    have f10_11 := ((f9_11).set0 (.int .i64 (y1 : Int))).set1 (.int .i64 (y2 : Int))
                    have f10_10 := (f9_10).kept g10 (by intro e; have := Option.some.inj e; have qz7 := z7.out; have qz8 := z8.out; omega)
                    refine hK _ _ b10 (fun _ => ?_)
                    clear hK K
                    go_simp
                    refine wpAnyH_done (by kernel_rfl) ?_ _
                    have fx := f10_10
                    have fy := f10_11
                    have bz := b10
                    obtain ⟨Z, hZ⟩ : ∃ Z, Z = ((((W8.setCell ⟨W7.heap.size, 0, none⟩ (.int .i64 (x1 : Int))).setCell ⟨W7.heap.size, 1, none⟩ (.int .i64 (x2 : Int))).setCell ⟨W2.heap.size, 0, none⟩ (.int .i64 (y1 : Int))).setCell ⟨W2.heap.size, 1, none⟩ (.int .i64 (y2 : Int))) := ⟨_, rfl⟩
                    rw [← hZ] at fx fy bz
                    rw [← hZ]
                    obtain ⟨e0, e1, _, _⟩ := fx.cells
                    obtain ⟨e2, e3, _, _⟩ := fy.cells
                    have HZ := Lib.hid hZ
                    clear hZ
                    go_wp2_with fail
                    go_ret
                    exact ⟨congrArg (fun z => Ending.returned (.bool z)) HN.out.symm, B3.trans (bz.mono B3.size)⟩
          · go_simp
            obtain ⟨W11, e11⟩ : ∃ W', W' = W1.alloc (.cells #[.int .i64 0, .int .i64 0] 56) := ⟨_, rfl⟩
            have b11 : Below V2.heap.size V2 W11 := by rw [e11]; exact (b1).alloc (b1).size _
            have f11_10 : Lies W11 W1.heap.size #[.int .i64 0, .int .i64 0] 56 := by rw [e11]; exact Lies.new W1 #[.int .i64 0, .int .i64 0] 56
            have z11 := Lib.hid (show W11.heap.size = W1.heap.size + 1 by rw [e11]; simp)
            rw [← e11]
            clear e11
            refine hK _ _ b11 (fun _ => ?_)
            clear hK K
            go_simp
            refine wpAnyH_ready (rs := [9, 11]) (by kernel_rfl) (by simp) ?_
            refine AllReadyH.cons rfl (fun K hK => ?_) (AllReadyH.cons rfl (fun K hK => ?_) AllReadyH.nil)
            · go_simp
              go_wp2_with (go_at_call 43; refine (RB' _ b11).mono ?_; rintro e W12 ⟨rfl, h12⟩)
              have b12 := (b11).trans (h12.mono (b11).size)
              have f12_10 := Lies.below f11_10 h12
              have z12 := h12.size
              refine hK _ _ b12 (fun _ => ?_)
              clear hK K h12
              go_simp
              refine wpAnyH_ready (rs := [11]) (by kernel_rfl) (by simp) ?_
              refine AllReadyH.cons rfl (fun K hK => ?_) AllReadyH.nil
              · go_simp
                obtain ⟨W13, e13⟩ : ∃ W', W' = W12.alloc (.cells #[.int .i64 0, .int .i64 0] 56) := ⟨_, rfl⟩
                have b13 : Below V2.heap.size V2 W13 := by rw [e13]; exact (b12).alloc (b12).size _
                have f13_11 : Lies W13 W12.heap.size #[.int .i64 0, .int .i64 0] 56 := by rw [e13]; exact Lies.new W12 #[.int .i64 0, .int .i64 0] 56
                have f13_10 : Lies W13 W1.heap.size #[.int .i64 0, .int .i64 0] 56 := by rw [e13]; exact Lies.alloc f12_10 _
                have z13 := Lib.hid (show W13.heap.size = W12.heap.size + 1 by rw [e13]; simp)
                rw [← e13]
                clear e13
                refine hK _ _ b13 (fun _ => ?_)
                clear hK K
                go_simp
                refine wpAnyH_ready (rs := [12]) (by kernel_rfl) (by simp) ?_
                refine AllReadyH.cons rfl (fun K hK => ?_) AllReadyH.nil
                · go_simp
                  obtain ⟨c0, c1, c2, c3⟩ := (f13_10).cells
                  go_simp
                  have g14 := set_grown W13 (W1.heap.size) 0 1 (.int .i64 (x1 : Int)) (.int .i64 (x2 : Int))
                  have b14 : Below V2.heap.size V2 ((W13.setCell ⟨W1.heap.size, 0, none⟩ (.int .i64 (x1 : Int))).setCell ⟨W1.heap.size, 1, none⟩ (.int .i64 (x2 : Int))) := (b13).grown g14 (b13).size (fun j e => by cases e; exact (b1).size)
                  have f14_10 := ((f13_10).set0 (.int .i64 (x1 : Int))).set1 (.int .i64 (x2 : Int))
                  have f14_11 := (f13_11).kept g14 (by intro e; have := Option.some.inj e; have qz11 := z11.out; have qz13 := z13.out; omega)
                  refine hK _ _ b14 (fun _ => ?_)
                  clear hK K
                  go_simp
                  refine wpAnyH_ready (rs := [13]) (by kernel_rfl) (by simp) ?_
                  refine AllReadyH.cons rfl (fun K hK => ?_) AllReadyH.nil
                  · go_simp
                    obtain ⟨c0, c1, c2, c3⟩ := (f13_11).cells
                    have d1 : W1.heap.size ≠ W12.heap.size := by have qz11 := z11.out; have qz13 := z13.out; omega
                    have d2 : W12.heap.size ≠ W1.heap.size := fun e => d1 e.symm
                    go_simp
                    have g15 := set_grown ((W13.setCell ⟨W1.heap.size, 0, none⟩ (.int .i64 (x1 : Int))).setCell ⟨W1.heap.size, 1, none⟩ (.int .i64 (x2 : Int))) (W12.heap.size) 0 1 (.int .i64 (y1 : Int)) (.int .i64 (y2 : Int))
                    have b15 : Below V2.heap.size V2 ((((W13.setCell ⟨W1.heap.size, 0, none⟩ (.int .i64 (x1 : Int))).setCell ⟨W1.heap.size, 1, none⟩ (.int .i64 (x2 : Int))).setCell ⟨W12.heap.size, 0, none⟩ (.int .i64 (y1 : Int))).setCell ⟨W12.heap.size, 1, none⟩ (.int .i64 (y2 : Int))) := (b14).grown g15 (b14).size (fun j e => by cases e; exact (b12).size)
                    have f15_11 := ((f14_11).set0 (.int .i64 (y1 : Int))).set1 (.int .i64 (y2 : Int))
                    have f15_10 := (f14_10).kept g15 (by intro e; have := Option.some.inj e; have qz11 := z11.out; have qz13 := z13.out; omega)
                    refine hK _ _ b15 (fun _ => ?_)
                    clear hK K
                    go_simp
                    refine wpAnyH_done (by kernel_rfl) ?_ _
                    have fx := f15_10
                    have fy := f15_11
                    have bz := b15
                    obtain ⟨Z, hZ⟩ : ∃ Z, Z = ((((W13.setCell ⟨W1.heap.size, 0, none⟩ (.int .i64 (x1 : Int))).setCell ⟨W1.heap.size, 1, none⟩ (.int .i64 (x2 : Int))).setCell ⟨W12.heap.size, 0, none⟩ (.int .i64 (y1 : Int))).setCell ⟨W12.heap.size, 1, none⟩ (.int .i64 (y2 : Int))) := ⟨_, rfl⟩
                    rw [← hZ] at fx fy bz
                    rw [← hZ]
                    obtain ⟨e0, e1, _, _⟩ := fx.cells
                    obtain ⟨e2, e3, _, _⟩ := fy.cells
                    have HZ := Lib.hid hZ
                    clear hZ
                    go_wp2_with fail
                    go_ret
                    exact ⟨congrArg (fun z => Ending.returned (.bool z)) HN.out.symm, B3.trans (bz.mono B3.size)⟩
            · go_simp
              obtain ⟨W16, e16⟩ : ∃ W', W' = W11.alloc (.cells #[.int .i64 0, .int .i64 0] 56) := ⟨_, rfl⟩
              have b16 : Below V2.heap.size V2 W16 := by rw [e16]; exact (b11).alloc (b11).size _
              have f16_11 : Lies W16 W11.heap.size #[.int .i64 0, .int .i64 0] 56 := by rw [e16]; exact Lies.new W11 #[.int .i64 0, .int .i64 0] 56
              have f16_10 : Lies W16 W1.heap.size #[.int .i64 0, .int .i64 0] 56 := by rw [e16]; exact Lies.alloc f11_10 _
              have z16 := Lib.hid (show W16.heap.size = W11.heap.size + 1 by rw [e16]; simp)
              rw [← e16]
              clear e16
              refine hK _ _ b16 (fun _ => ?_)
              clear hK K
              go_simp
              refine wpAnyH_ready (rs := [9]) (by kernel_rfl) (by simp) ?_
              refine AllReadyH.cons rfl (fun K hK => ?_) AllReadyH.nil
              · go_simp
                go_wp2_with (go_at_call 43; refine (RB' _ b16).mono ?_; rintro e W17 ⟨rfl, h17⟩)
                have b17 := (b16).trans (h17.mono (b16).size)
                have f17_10 := Lies.below f16_10 h17
                have f17_11 := Lies.below f16_11 h17
                have z17 := h17.size
                refine hK _ _ b17 (fun _ => ?_)
                clear hK K h17
                go_simp
                refine wpAnyH_ready (rs := [12]) (by kernel_rfl) (by simp) ?_
                refine AllReadyH.cons rfl (fun K hK => ?_) AllReadyH.nil
                · go_simp
                  obtain ⟨c0, c1, c2, c3⟩ := (f17_10).cells
                  go_simp
                  have g18 := set_grown W17 (W1.heap.size) 0 1 (.int .i64 (x1 : Int)) (.int .i64 (x2 : Int))
                  have b18 : Below V2.heap.size V2 ((W17.setCell ⟨W1.heap.size, 0, none⟩ (.int .i64 (x1 : Int))).setCell ⟨W1.heap.size, 1, none⟩ (.int .i64 (x2 : Int))) := (b17).grown g18 (b17).size (fun j e => by cases e; exact (b1).size)
                  have f18_10 := ((f17_10).set0 (.int .i64 (x1 : Int))).set1 (.int .i64 (x2 : Int))
                  have f18_11 := (f17_11).kept g18 (by intro e; have := Option.some.inj e; have qz11 := z11.out; have qz16 := z16.out; omega)
                  refine hK _ _ b18 (fun _ => ?_)
                  clear hK K
                  go_simp
                  refine wpAnyH_ready (rs := [13]) (by kernel_rfl) (by simp) ?_
                  refine AllReadyH.cons rfl (fun K hK => ?_) AllReadyH.nil
                  · go_simp
                    obtain ⟨c0, c1, c2, c3⟩ := (f17_11).cells
                    have d1 : W1.heap.size ≠ W11.heap.size := by have qz11 := z11.out; have qz16 := z16.out; omega
                    have d2 : W11.heap.size ≠ W1.heap.size := fun e => d1 e.symm
                    go_simp
                    have g19 := set_grown ((W17.setCell ⟨W1.heap.size, 0, none⟩ (.int .i64 (x1 : Int))).setCell ⟨W1.heap.size, 1, none⟩ (.int .i64 (x2 : Int))) (W11.heap.size) 0 1 (.int .i64 (y1 : Int)) (.int .i64 (y2 : Int))
                    have b19 : Below V2.heap.size V2 ((((W17.setCell ⟨W1.heap.size, 0, none⟩ (.int .i64 (x1 : Int))).setCell ⟨W1.heap.size, 1, none⟩ (.int .i64 (x2 : Int))).setCell ⟨W11.heap.size, 0, none⟩ (.int .i64 (y1 : Int))).setCell ⟨W11.heap.size, 1, none⟩ (.int .i64 (y2 : Int))) := (b18).grown g19 (b18).size (fun j e => by cases e; exact (b11).size)
                    have f19_11 := ((f18_11).set0 (.int .i64 (y1 : Int))).set1 (.int .i64 (y2 : Int))
                    have f19_10 := (f18_10).kept g19 (by intro e; have := Option.some.inj e; have qz11 := z11.out; have qz16 := z16.out; omega)
                    refine hK _ _ b19 (fun _ => ?_)
                    clear hK K
                    go_simp
                    refine wpAnyH_done (by kernel_rfl) ?_ _
                    have fx := f19_10
                    have fy := f19_11
                    have bz := b19
                    obtain ⟨Z, hZ⟩ : ∃ Z, Z = ((((W17.setCell ⟨W1.heap.size, 0, none⟩ (.int .i64 (x1 : Int))).setCell ⟨W1.heap.size, 1, none⟩ (.int .i64 (x2 : Int))).setCell ⟨W11.heap.size, 0, none⟩ (.int .i64 (y1 : Int))).setCell ⟨W11.heap.size, 1, none⟩ (.int .i64 (y2 : Int))) := ⟨_, rfl⟩
                    rw [← hZ] at fx fy bz
                    rw [← hZ]
                    obtain ⟨e0, e1, _, _⟩ := fx.cells
                    obtain ⟨e2, e3, _, _⟩ := fy.cells
                    have HZ := Lib.hid hZ
                    clear hZ
                    go_wp2_with fail
                    go_ret
                    exact ⟨congrArg (fun z => Ending.returned (.bool z)) HN.out.symm, B3.trans (bz.mono B3.size)⟩
          · go_simp
            obtain ⟨W20, e20⟩ : ∃ W', W' = W1.alloc (.cells #[.int .i64 0, .int .i64 0] 56) := ⟨_, rfl⟩
            have b20 : Below V2.heap.size V2 W20 := by rw [e20]; exact (b1).alloc (b1).size _
            have f20_11 : Lies W20 W1.heap.size #[.int .i64 0, .int .i64 0] 56 := by rw [e20]; exact Lies.new W1 #[.int .i64 0, .int .i64 0] 56
            have z20 := Lib.hid (show W20.heap.size = W1.heap.size + 1 by rw [e20]; simp)
            rw [← e20]
            clear e20
            refine hK _ _ b20 (fun _ => ?_)
            clear hK K
            go_simp
            refine wpAnyH_ready (rs := [9, 10]) (by kernel_rfl) (by simp) ?_
            refine AllReadyH.cons rfl (fun K hK => ?_) (AllReadyH.cons rfl (fun K hK => ?_) AllReadyH.nil)
            · go_simp
              go_wp2_with (go_at_call 43; refine (RB' _ b20).mono ?_; rintro e W21 ⟨rfl, h21⟩)
              have b21 := (b20).trans (h21.mono (b20).size)
              have f21_11 := Lies.below f20_11 h21
              have z21 := h21.size
              refine hK _ _ b21 (fun _ => ?_)
              clear hK K h21
              go_simp
              refine wpAnyH_ready (rs := [10]) (by kernel_rfl) (by simp) ?_
              refine AllReadyH.cons rfl (fun K hK => ?_) AllReadyH.nil
              · go_simp
                obtain ⟨W22, e22⟩ : ∃ W', W' = W21.alloc (.cells #[.int .i64 0, .int .i64 0] 56) := ⟨_, rfl⟩
                have b22 : Below V2.heap.size V2 W22 := by rw [e22]; exact (b21).alloc (b21).size _
                have f22_10 : Lies W22 W21.heap.size #[.int .i64 0, .int .i64 0] 56 := by rw [e22]; exact Lies.new W21 #[.int .i64 0, .int .i64 0] 56
                have f22_11 : Lies W22 W1.heap.size #[.int .i64 0, .int .i64 0] 56 := by rw [e22]; exact Lies.alloc f21_11 _
                have z22 := Lib.hid (show W22.heap.size = W21.heap.size + 1 by rw [e22]; simp)
                rw [← e22]
                clear e22
                refine hK _ _ b22 (fun _ => ?_)
                clear hK K
                go_simp
                refine wpAnyH_ready (rs := [12]) (by kernel_rfl) (by simp) ?_
                refine AllReadyH.cons rfl (fun K hK => ?_) AllReadyH.nil
                · go_simp
                  obtain ⟨c0, c1, c2, c3⟩ := (f22_10).cells
                  go_simp
                  have g23 := set_grown W22 (W21.heap.size) 0 1 (.int .i64 (x1 : Int)) (.int .i64 (x2 : Int))
                  have b23 : Below V2.heap.size V2 ((W22.setCell ⟨W21.heap.size, 0, none⟩ (.int .i64 (x1 : Int))).setCell ⟨W21.heap.size, 1, none⟩ (.int .i64 (x2 : Int))) := (b22).grown g23 (b22).size (fun j e => by cases e; exact (b21).size)
                  have f23_10 := ((f22_10).set0 (.int .i64 (x1 : Int))).set1 (.int .i64 (x2 : Int))
                  have f23_11 := (f22_11).kept g23 (by intro e; have := Option.some.inj e; have qz20 := z20.out; have qz22 := z22.out; omega)
                  refine hK _ _ b23 (fun _ => ?_)
                  clear hK K
                  go_simp
                  refine wpAnyH_ready (rs := [13]) (by kernel_rfl) (by simp) ?_
                  refine AllReadyH.cons rfl (fun K hK => ?_) AllReadyH.nil
                  · go_simp
                    obtain ⟨c0, c1, c2, c3⟩ := (f22_11).cells
                    have d1 : W21.heap.size ≠ W1.heap.size := by have qz20 := z20.out; have qz22 := z22.out; omega
                    have d2 : W1.heap.size ≠ W21.heap.size := fun e => d1 e.symm
                    go_simp
                    have g24 := set_grown ((W22.setCell ⟨W21.heap.size, 0, none⟩ (.int .i64 (x1 : Int))).setCell ⟨W21.heap.size, 1, none⟩ (.int .i64 (x2 : Int))) (W1.heap.size) 0 1 (.int .i64 (y1 : Int)) (.int .i64 (y2 : Int))
                    have b24 : Below V2.heap.size V2 ((((W22.setCell ⟨W21.heap.size, 0, none⟩ (.int .i64 (x1 : Int))).setCell ⟨W21.heap.size, 1, none⟩ (.int .i64 (x2 : Int))).setCell ⟨W1.heap.size, 0, none⟩ (.int .i64 (y1 : Int))).setCell ⟨W1.heap.size, 1, none⟩ (.int .i64 (y2 : Int))) := (b23).grown g24 (b23).size (fun j e => by cases e; exact (b1).size)
                    have f24_11 := ((f23_11).set0 (.int .i64 (y1 : Int))).set1 (.int .i64 (y2 : Int))
                    have f24_10 := (f23_10).kept g24 (by intro e; have := Option.some.inj e; have qz20 := z20.out; have qz22 := z22.out; omega)
                    refine hK _ _ b24 (fun _ => ?_)
                    clear hK K
                    go_simp
                    refine wpAnyH_done (by kernel_rfl) ?_ _
                    have fx := f24_10
                    have fy := f24_11
                    have bz := b24
                    obtain ⟨Z, hZ⟩ : ∃ Z, Z = ((((W22.setCell ⟨W21.heap.size, 0, none⟩ (.int .i64 (x1 : Int))).setCell ⟨W21.heap.size, 1, none⟩ (.int .i64 (x2 : Int))).setCell ⟨W1.heap.size, 0, none⟩ (.int .i64 (y1 : Int))).setCell ⟨W1.heap.size, 1, none⟩ (.int .i64 (y2 : Int))) := ⟨_, rfl⟩
                    rw [← hZ] at fx fy bz
                    rw [← hZ]
                    obtain ⟨e0, e1, _, _⟩ := fx.cells
                    obtain ⟨e2, e3, _, _⟩ := fy.cells
                    have HZ := Lib.hid hZ
                    clear hZ
                    go_wp2_with fail
                    go_ret
                    exact ⟨congrArg (fun z => Ending.returned (.bool z)) HN.out.symm, B3.trans (bz.mono B3.size)⟩
            · go_simp
              obtain ⟨W25, e25⟩ : ∃ W', W' = W20.alloc (.cells #[.int .i64 0, .int .i64 0] 56) := ⟨_, rfl⟩
              have b25 : Below V2.heap.size V2 W25 := by rw [e25]; exact (b20).alloc (b20).size _
              have f25_10 : Lies W25 W20.heap.size #[.int .i64 0, .int .i64 0] 56 := by rw [e25]; exact Lies.new W20 #[.int .i64 0, .int .i64 0] 56
              have f25_11 : Lies W25 W1.heap.size #[.int .i64 0, .int .i64 0] 56 := by rw [e25]; exact Lies.alloc f20_11 _
              have z25 := Lib.hid (show W25.heap.size = W20.heap.size + 1 by rw [e25]; simp)
              rw [← e25]
              clear e25
              refine hK _ _ b25 (fun _ => ?_)
              clear hK K
              go_simp
              refine wpAnyH_ready (rs := [9]) (by kernel_rfl) (by simp) ?_
              refine AllReadyH.cons rfl (fun K hK => ?_) AllReadyH.nil
              · go_simp
                go_wp2_with (go_at_call 43; refine (RB' _ b25).mono ?_; rintro e W26 ⟨rfl, h26⟩)
                have b26 := (b25).trans (h26.mono (b25).size)
                have f26_11 := Lies.below f25_11 h26
                have f26_10 := Lies.below f25_10 h26
                have z26 := h26.size
                refine hK _ _ b26 (fun _ => ?_)
                clear hK K h26
                go_simp
                refine wpAnyH_ready (rs := [12]) (by kernel_rfl) (by simp) ?_
                refine AllReadyH.cons rfl (fun K hK => ?_) AllReadyH.nil
                · go_simp
                  obtain ⟨c0, c1, c2, c3⟩ := (f26_10).cells
                  go_simp
                  have g27 := set_grown W26 (W20.heap.size) 0 1 (.int .i64 (x1 : Int)) (.int .i64 (x2 : Int))
                  have b27 : Below V2.heap.size V2 ((W26.setCell ⟨W20.heap.size, 0, none⟩ (.int .i64 (x1 : Int))).setCell ⟨W20.heap.size, 1, none⟩ (.int .i64 (x2 : Int))) := (b26).grown g27 (b26).size (fun j e => by cases e; exact (b20).size)
                  have f27_10 := ((f26_10).set0 (.int .i64 (x1 : Int))).set1 (.int .i64 (x2 : Int))
                  have f27_11 := (f26_11).kept g27 (by intro e; have := Option.some.inj e; have qz20 := z20.out; have qz25 := z25.out; omega)
                  refine hK _ _ b27 (fun _ => ?_)
                  clear hK K
                  go_simp
                  refine wpAnyH_ready (rs := [13]) (by kernel_rfl) (by simp) ?_
                  refine AllReadyH.cons rfl (fun K hK => ?_) AllReadyH.nil
                  · go_simp
                    obtain ⟨c0, c1, c2, c3⟩ := (f26_11).cells
                    have d1 : W20.heap.size ≠ W1.heap.size := by have qz20 := z20.out; have qz25 := z25.out; omega
                    have d2 : W1.heap.size ≠ W20.heap.size := fun e => d1 e.symm
                    go_simp
                    have g28 := set_grown ((W26.setCell ⟨W20.heap.size, 0, none⟩ (.int .i64 (x1 : Int))).setCell ⟨W20.heap.size, 1, none⟩ (.int .i64 (x2 : Int))) (W1.heap.size) 0 1 (.int .i64 (y1 : Int)) (.int .i64 (y2 : Int))
                    have b28 : Below V2.heap.size V2 ((((W26.setCell ⟨W20.heap.size, 0, none⟩ (.int .i64 (x1 : Int))).setCell ⟨W20.heap.size, 1, none⟩ (.int .i64 (x2 : Int))).setCell ⟨W1.heap.size, 0, none⟩ (.int .i64 (y1 : Int))).setCell ⟨W1.heap.size, 1, none⟩ (.int .i64 (y2 : Int))) := (b27).grown g28 (b27).size (fun j e => by cases e; exact (b1).size)
                    have f28_11 := ((f27_11).set0 (.int .i64 (y1 : Int))).set1 (.int .i64 (y2 : Int))
                    have f28_10 := (f27_10).kept g28 (by intro e; have := Option.some.inj e; have qz20 := z20.out; have qz25 := z25.out; omega)
                    refine hK _ _ b28 (fun _ => ?_)
                    clear hK K
                    go_simp
                    refine wpAnyH_done (by kernel_rfl) ?_ _
                    have fx := f28_10
                    have fy := f28_11
                    have bz := b28
                    obtain ⟨Z, hZ⟩ : ∃ Z, Z = ((((W26.setCell ⟨W20.heap.size, 0, none⟩ (.int .i64 (x1 : Int))).setCell ⟨W20.heap.size, 1, none⟩ (.int .i64 (x2 : Int))).setCell ⟨W1.heap.size, 0, none⟩ (.int .i64 (y1 : Int))).setCell ⟨W1.heap.size, 1, none⟩ (.int .i64 (y2 : Int))) := ⟨_, rfl⟩
                    rw [← hZ] at fx fy bz
                    rw [← hZ]
                    obtain ⟨e0, e1, _, _⟩ := fx.cells
                    obtain ⟨e2, e3, _, _⟩ := fy.cells
                    have HZ := Lib.hid hZ
                    clear hZ
                    go_wp2_with fail
                    go_ret
                    exact ⟨congrArg (fun z => Ending.returned (.bool z)) HN.out.symm, B3.trans (bz.mono B3.size)⟩
        · go_simp
          obtain ⟨W29, e29⟩ : ∃ W', W' = (wr.alloc (.cells #[.int .i64 0, .int .i64 0] 56)).drew := ⟨_, rfl⟩
          have b29 : Below V2.heap.size V2 W29 := by rw [e29]; exact (hB.alloc hB.size _).drew
          have f29_10 : Lies W29 wr.heap.size #[.int .i64 0, .int .i64 0] 56 := by rw [e29]; exact Lies.new wr #[.int .i64 0, .int .i64 0] 56
          have z29 := Lib.hid (show W29.heap.size = wr.heap.size + 1 by rw [e29]; simp)
          rw [← e29]
          clear e29
          refine hK _ _ b29 (fun _ => ?_)
          clear hK K
          go_simp
          refine wpAnyH_ready (rs := [4, 11]) (by kernel_rfl) (by simp) ?_
          refine AllReadyH.cons rfl (fun K hK => ?_) (AllReadyH.cons rfl (fun K hK => ?_) AllReadyH.nil)
          · go_simp
            go_wp2_with (go_at_call 43; refine (RA' _ b29).mono ?_; rintro e W30 ⟨rfl, h30⟩)
            have b30 := (b29).trans (h30.mono (b29).size)
            have f30_10 := Lies.below f29_10 h30
            have z30 := h30.size
            refine hK _ _ b30 (fun _ => ?_)
            clear hK K h30
            go_simp
            refine wpAnyH_ready (rs := [9, 11]) (by kernel_rfl) (by simp) ?_
            refine AllReadyH.cons rfl (fun K hK => ?_) (AllReadyH.cons rfl (fun K hK => ?_) AllReadyH.nil)
            · go_simp
              go_wp2_with (go_at_call 43; refine (RB' _ b30).mono ?_; rintro e W31 ⟨rfl, h31⟩)
              have b31 := (b30).trans (h31.mono (b30).size)
              have f31_10 := Lies.below f30_10 h31
              have z31 := h31.size
              refine hK _ _ b31 (fun _ => ?_)
              clear hK K h31
              go_simp
              refine wpAnyH_ready (rs := [11]) (by kernel_rfl) (by simp) ?_
              refine AllReadyH.cons rfl (fun K hK => ?_) AllReadyH.nil
              · go_simp
                obtain ⟨W32, e32⟩ : ∃ W', W' = W31.alloc (.cells #[.int .i64 0, .int .i64 0] 56) := ⟨_, rfl⟩
                have b32 : Below V2.heap.size V2 W32 := by rw [e32]; exact (b31).alloc (b31).size _
                have f32_11 : Lies W32 W31.heap.size #[.int .i64 0, .int .i64 0] 56 := by rw [e32]; exact Lies.new W31 #[.int .i64 0, .int .i64 0] 56
                have f32_10 : Lies W32 wr.heap.size #[.int .i64 0, .int .i64 0] 56 := by rw [e32]; exact Lies.alloc f31_10 _
                have z32 := Lib.hid (show W32.heap.size = W31.heap.size + 1 by rw [e32]; simp)
                rw [← e32]
                clear e32
                refine hK _ _ b32 (fun _ => ?_)
                clear hK K
                go_simp
                refine wpAnyH_ready (rs := [12]) (by kernel_rfl) (by simp) ?_
                refine AllReadyH.cons rfl (fun K hK => ?_) AllReadyH.nil
                · go_simp
                  obtain ⟨c0, c1, c2, c3⟩ := (f32_10).cells
                  go_simp
                  have g33 := set_grown W32 (wr.heap.size) 0 1 (.int .i64 (x1 : Int)) (.int .i64 (x2 : Int))
                  have b33 : Below V2.heap.size V2 ((W32.setCell ⟨wr.heap.size, 0, none⟩ (.int .i64 (x1 : Int))).setCell ⟨wr.heap.size, 1, none⟩ (.int .i64 (x2 : Int))) := (b32).grown g33 (b32).size (fun j e => by cases e; exact (hS).size)
                  have f33_10 := ((f32_10).set0 (.int .i64 (x1 : Int))).set1 (.int .i64 (x2 : Int))
                  have f33_11 := (f32_11).kept g33 (by intro e; have := Option.some.inj e; have qz29 := z29.out; have qz32 := z32.out; omega)
                  refine hK _ _ b33 (fun _ => ?_)
                  clear hK K
                  go_simp
                  refine wpAnyH_ready (rs := [13]) (by kernel_rfl) (by simp) ?_
                  refine AllReadyH.cons rfl (fun K hK => ?_) AllReadyH.nil
                  · go_simp
                    obtain ⟨c0, c1, c2, c3⟩ := (f32_11).cells
                    have d1 : wr.heap.size ≠ W31.heap.size := by have qz29 := z29.out; have qz32 := z32.out; omega
                    have d2 : W31.heap.size ≠ wr.heap.size := fun e => d1 e.symm
                    go_simp
                    have g34 := set_grown ((W32.setCell ⟨wr.heap.size, 0, none⟩ (.int .i64 (x1 : Int))).setCell ⟨wr.heap.size, 1, none⟩ (.int .i64 (x2 : Int))) (W31.heap.size) 0 1 (.int .i64 (y1 : Int)) (.int .i64 (y2 : Int))
                    have b34 : Below V2.heap.size V2 ((((W32.setCell ⟨wr.heap.size, 0, none⟩ (.int .i64 (x1 : Int))).setCell ⟨wr.heap.size, 1, none⟩ (.int .i64 (x2 : Int))).setCell ⟨W31.heap.size, 0, none⟩ (.int .i64 (y1 : Int))).setCell ⟨W31.heap.size, 1, none⟩ (.int .i64 (y2 : Int))) := (b33).grown g34 (b33).size (fun j e => by cases e; exact (b31).size)
                    have f34_11 := ((f33_11).set0 (.int .i64 (y1 : Int))).set1 (.int .i64 (y2 : Int))
                    have f34_10 := (f33_10).kept g34 (by intro e; have := Option.some.inj e; have qz29 := z29.out; have qz32 := z32.out; omega)
                    refine hK _ _ b34 (fun _ => ?_)
                    clear hK K
                    go_simp
                    refine wpAnyH_done (by kernel_rfl) ?_ _
                    have fx := f34_10
                    have fy := f34_11
                    have bz := b34
                    obtain ⟨Z, hZ⟩ : ∃ Z, Z = ((((W32.setCell ⟨wr.heap.size, 0, none⟩ (.int .i64 (x1 : Int))).setCell ⟨wr.heap.size, 1, none⟩ (.int .i64 (x2 : Int))).setCell ⟨W31.heap.size, 0, none⟩ (.int .i64 (y1 : Int))).setCell ⟨W31.heap.size, 1, none⟩ (.int .i64 (y2 : Int))) := ⟨_, rfl⟩
                    rw [← hZ] at fx fy bz
                    rw [← hZ]
                    obtain ⟨e0, e1, _, _⟩ := fx.cells
                    obtain ⟨e2, e3, _, _⟩ := fy.cells
                    have HZ := Lib.hid hZ
                    clear hZ
                    go_wp2_with fail
                    go_ret
                    exact ⟨congrArg (fun z => Ending.returned (.bool z)) HN.out.symm, B3.trans (bz.mono B3.size)⟩
            · go_simp
              obtain ⟨W35, e35⟩ : ∃ W', W' = W30.alloc (.cells #[.int .i64 0, .int .i64 0] 56) := ⟨_, rfl⟩
              have b35 : Below V2.heap.size V2 W35 := by rw [e35]; exact (b30).alloc (b30).size _
              have f35_11 : Lies W35 W30.heap.size #[.int .i64 0, .int .i64 0] 56 := by rw [e35]; exact Lies.new W30 #[.int .i64 0, .int .i64 0] 56
              have f35_10 : Lies W35 wr.heap.size #[.int .i64 0, .int .i64 0] 56 := by rw [e35]; exact Lies.alloc f30_10 _
              have z35 := Lib.hid (show W35.heap.size = W30.heap.size + 1 by rw [e35]; simp)
              rw [← e35]
              clear e35
              refine hK _ _ b35 (fun _ => ?_)
              clear hK K
              go_simp
              refine wpAnyH_ready (rs := [9]) (by kernel_rfl) (by simp) ?_
              refine AllReadyH.cons rfl (fun K hK => ?_) AllReadyH.nil
              · go_simp
                go_wp2_with (go_at_call 43; refine (RB' _ b35).mono ?_; rintro e W36 ⟨rfl, h36⟩)
                have b36 := (b35).trans (h36.mono (b35).size)
                have f36_10 := Lies.below f35_10 h36
                have f36_11 := Lies.below f35_11 h36
                have z36 := h36.size
                refine hK _ _ b36 (fun _ => ?_)
                clear hK K h36
                go_simp
                refine wpAnyH_ready (rs := [12]) (by kernel_rfl) (by simp) ?_
                refine AllReadyH.cons rfl (fun K hK => ?_) AllReadyH.nil
                · go_simp
                  obtain ⟨c0, c1, c2, c3⟩ := (f36_10).cells
                  go_simp
                  have g37 := set_grown W36 (wr.heap.size) 0 1 (.int .i64 (x1 : Int)) (.int .i64 (x2 : Int))
                  have b37 : Below V2.heap.size V2 ((W36.setCell ⟨wr.heap.size, 0, none⟩ (.int .i64 (x1 : Int))).setCell ⟨wr.heap.size, 1, none⟩ (.int .i64 (x2 : Int))) := (b36).grown g37 (b36).size (fun j e => by cases e; exact (hS).size)
                  have f37_10 := ((f36_10).set0 (.int .i64 (x1 : Int))).set1 (.int .i64 (x2 : Int))
                  have f37_11 := (f36_11).kept g37 (by intro e; have := Option.some.inj e; have qz29 := z29.out; have qz35 := z35.out; omega)
                  refine hK _ _ b37 (fun _ => ?_)
                  clear hK K
                  go_simp
                  refine wpAnyH_ready (rs := [13]) (by kernel_rfl) (by simp) ?_
                  refine AllReadyH.cons rfl (fun K hK => ?_) AllReadyH.nil
                  · go_simp
                    obtain ⟨c0, c1, c2, c3⟩ := (f36_11).cells
                    have d1 : wr.heap.size ≠ W30.heap.size := by have qz29 := z29.out; have qz35 := z35.out; omega
                    have d2 : W30.heap.size ≠ wr.heap.size := fun e => d1 e.symm
                    go_simp
                    have g38 := set_grown ((W36.setCell ⟨wr.heap.size, 0, none⟩ (.int .i64 (x1 : Int))).setCell ⟨wr.heap.size, 1, none⟩ (.int .i64 (x2 : Int))) (W30.heap.size) 0 1 (.int .i64 (y1 : Int)) (.int .i64 (y2 : Int))
                    have b38 : Below V2.heap.size V2 ((((W36.setCell ⟨wr.heap.size, 0, none⟩ (.int .i64 (x1 : Int))).setCell ⟨wr.heap.size, 1, none⟩ (.int .i64 (x2 : Int))).setCell ⟨W30.heap.size, 0, none⟩ (.int .i64 (y1 : Int))).setCell ⟨W30.heap.size, 1, none⟩ (.int .i64 (y2 : Int))) := (b37).grown g38 (b37).size (fun j e => by cases e; exact (b30).size)
                    have f38_11 := ((f37_11).set0 (.int .i64 (y1 : Int))).set1 (.int .i64 (y2 : Int))
                    have f38_10 := (f37_10).kept g38 (by intro e; have := Option.some.inj e; have qz29 := z29.out; have qz35 := z35.out; omega)
                    refine hK _ _ b38 (fun _ => ?_)
                    clear hK K
                    go_simp
                    refine wpAnyH_done (by kernel_rfl) ?_ _
                    have fx := f38_10
                    have fy := f38_11
                    have bz := b38
                    obtain ⟨Z, hZ⟩ : ∃ Z, Z = ((((W36.setCell ⟨wr.heap.size, 0, none⟩ (.int .i64 (x1 : Int))).setCell ⟨wr.heap.size, 1, none⟩ (.int .i64 (x2 : Int))).setCell ⟨W30.heap.size, 0, none⟩ (.int .i64 (y1 : Int))).setCell ⟨W30.heap.size, 1, none⟩ (.int .i64 (y2 : Int))) := ⟨_, rfl⟩
                    rw [← hZ] at fx fy bz
                    rw [← hZ]
                    obtain ⟨e0, e1, _, _⟩ := fx.cells
                    obtain ⟨e2, e3, _, _⟩ := fy.cells
                    have HZ := Lib.hid hZ
                    clear hZ
                    go_wp2_with fail
                    go_ret
                    exact ⟨congrArg (fun z => Ending.returned (.bool z)) HN.out.symm, B3.trans (bz.mono B3.size)⟩
          · go_simp
            obtain ⟨W39, e39⟩ : ∃ W', W' = W29.alloc (.cells #[.int .i64 0, .int .i64 0] 56) := ⟨_, rfl⟩
            have b39 : Below V2.heap.size V2 W39 := by rw [e39]; exact (b29).alloc (b29).size _
            have f39_11 : Lies W39 W29.heap.size #[.int .i64 0, .int .i64 0] 56 := by rw [e39]; exact Lies.new W29 #[.int .i64 0, .int .i64 0] 56
            have f39_10 : Lies W39 wr.heap.size #[.int .i64 0, .int .i64 0] 56 := by rw [e39]; exact Lies.alloc f29_10 _
            have z39 := Lib.hid (show W39.heap.size = W29.heap.size + 1 by rw [e39]; simp)
            rw [← e39]
            clear e39
            refine hK _ _ b39 (fun _ => ?_)
            clear hK K
            go_simp
            refine wpAnyH_ready (rs := [4]) (by kernel_rfl) (by simp) ?_
            refine AllReadyH.cons rfl (fun K hK => ?_) AllReadyH.nil
            · go_simp
              go_wp2_with (go_at_call 43; refine (RA' _ b39).mono ?_; rintro e W40 ⟨rfl, h40⟩)
              have b40 := (b39).trans (h40.mono (b39).size)
              have f40_10 := Lies.below f39_10 h40
              have f40_11 := Lies.below f39_11 h40
              have z40 := h40.size
              refine hK _ _ b40 (fun _ => ?_)
              clear hK K h40
              go_simp
              refine wpAnyH_ready (rs := [9]) (by kernel_rfl) (by simp) ?_
              refine AllReadyH.cons rfl (fun K hK => ?_) AllReadyH.nil
              · go_simp
                go_wp2_with (go_at_call 43; refine (RB' _ b40).mono ?_; rintro e W41 ⟨rfl, h41⟩)
                have b41 := (b40).trans (h41.mono (b40).size)
                have f41_10 := Lies.below f40_10 h41
                have f41_11 := Lies.below f40_11 h41
                have z41 := h41.size
                refine hK _ _ b41 (fun _ => ?_)
                clear hK K h41
                go_simp
                refine wpAnyH_ready (rs := [12]) (by kernel_rfl) (by simp) ?_
                refine AllReadyH.cons rfl (fun K hK => ?_) AllReadyH.nil
                · go_simp
                  obtain ⟨c0, c1, c2, c3⟩ := (f41_10).cells
                  go_simp
                  have g42 := set_grown W41 (wr.heap.size) 0 1 (.int .i64 (x1 : Int)) (.int .i64 (x2 : Int))
                  have b42 : Below V2.heap.size V2 ((W41.setCell ⟨wr.heap.size, 0, none⟩ (.int .i64 (x1 : Int))).setCell ⟨wr.heap.size, 1, none⟩ (.int .i64 (x2 : Int))) := (b41).grown g42 (b41).size (fun j e => by cases e; exact (hS).size)
                  have f42_10 := ((f41_10).set0 (.int .i64 (x1 : Int))).set1 (.int .i64 (x2 : Int))
                  have f42_11 := (f41_11).kept g42 (by intro e; have := Option.some.inj e; have qz29 := z29.out; have qz39 := z39.out; omega)
                  refine hK _ _ b42 (fun _ => ?_)
                  clear hK K
                  go_simp
                  refine wpAnyH_ready (rs := [13]) (by kernel_rfl) (by simp) ?_
                  refine AllReadyH.cons rfl (fun K hK => ?_) AllReadyH.nil
                  · go_simp
                    obtain ⟨c0, c1, c2, c3⟩ := (f41_11).cells
                    have d1 : wr.heap.size ≠ W29.heap.size := by have qz29 := z29.out; have qz39 := z39.out; omega
                    have d2 : W29.heap.size ≠ wr.heap.size := fun e => d1 e.symm
                    go_simp
                    have g43 := set_grown ((W41.setCell ⟨wr.heap.size, 0, none⟩ (.int .i64 (x1 : Int))).setCell ⟨wr.heap.size, 1, none⟩ (.int .i64 (x2 : Int))) (W29.heap.size) 0 1 (.int .i64 (y1 : Int)) (.int .i64 (y2 : Int))
                    have b43 : Below V2.heap.size V2 ((((W41.setCell ⟨wr.heap.size, 0, none⟩ (.int .i64 (x1 : Int))).setCell ⟨wr.heap.size, 1, none⟩ (.int .i64 (x2 : Int))).setCell ⟨W29.heap.size, 0, none⟩ (.int .i64 (y1 : Int))).setCell ⟨W29.heap.size, 1, none⟩ (.int .i64 (y2 : Int))) := (b42).grown g43 (b42).size (fun j e => by cases e; exact (b29).size)
                    have f43_11 := ((f42_11).set0 (.int .i64 (y1 : Int))).set1 (.int .i64 (y2 : Int))
                    have f43_10 := (f42_10).kept g43 (by intro e; have := Option.some.inj e; have qz29 := z29.out; have qz39 := z39.out; omega)
                    refine hK _ _ b43 (fun _ => ?_)
                    clear hK K
                    go_simp
                    refine wpAnyH_done (by kernel_rfl) ?_ _
                    have fx := f43_10
                    have fy := f43_11
                    have bz := b43
                    obtain ⟨Z, hZ⟩ : ∃ Z, Z = ((((W41.setCell ⟨wr.heap.size, 0, none⟩ (.int .i64 (x1 : Int))).setCell ⟨wr.heap.size, 1, none⟩ (.int .i64 (x2 : Int))).setCell ⟨W29.heap.size, 0, none⟩ (.int .i64 (y1 : Int))).setCell ⟨W29.heap.size, 1, none⟩ (.int .i64 (y2 : Int))) := ⟨_, rfl⟩
                    rw [← hZ] at fx fy bz
                    rw [← hZ]
                    obtain ⟨e0, e1, _, _⟩ := fx.cells
                    obtain ⟨e2, e3, _, _⟩ := fy.cells
                    have HZ := Lib.hid hZ
                    clear hZ
                    go_wp2_with fail
                    go_ret
                    exact ⟨congrArg (fun z => Ending.returned (.bool z)) HN.out.symm, B3.trans (bz.mono B3.size)⟩
        · go_simp
          obtain ⟨W44, e44⟩ : ∃ W', W' = (wr.alloc (.cells #[.int .i64 0, .int .i64 0] 56)).drew := ⟨_, rfl⟩
          have b44 : Below V2.heap.size V2 W44 := by rw [e44]; exact (hB.alloc hB.size _).drew
          have f44_11 : Lies W44 wr.heap.size #[.int .i64 0, .int .i64 0] 56 := by rw [e44]; exact Lies.new wr #[.int .i64 0, .int .i64 0] 56
          have z44 := Lib.hid (show W44.heap.size = wr.heap.size + 1 by rw [e44]; simp)
          rw [← e44]
          clear e44
          refine hK _ _ b44 (fun _ => ?_)
          clear hK K
          go_simp
          refine wpAnyH_ready (rs := [4, 10]) (by kernel_rfl) (by simp) ?_
          refine AllReadyH.cons rfl (fun K hK => ?_) (AllReadyH.cons rfl (fun K hK => ?_) AllReadyH.nil)
          · go_simp
            go_wp2_with (go_at_call 43; refine (RA' _ b44).mono ?_; rintro e W45 ⟨rfl, h45⟩)
            have b45 := (b44).trans (h45.mono (b44).size)
            have f45_11 := Lies.below f44_11 h45
            have z45 := h45.size
            refine hK _ _ b45 (fun _ => ?_)
            clear hK K h45
            go_simp
            refine wpAnyH_ready (rs := [9, 10]) (by kernel_rfl) (by simp) ?_
            refine AllReadyH.cons rfl (fun K hK => ?_) (AllReadyH.cons rfl (fun K hK => ?_) AllReadyH.nil)
            · go_simp
              go_wp2_with (go_at_call 43; refine (RB' _ b45).mono ?_; rintro e W46 ⟨rfl, h46⟩)
              have b46 := (b45).trans (h46.mono (b45).size)
              have f46_11 := Lies.below f45_11 h46
              have z46 := h46.size
              refine hK _ _ b46 (fun _ => ?_)
              clear hK K h46
              go_simp
              refine wpAnyH_ready (rs := [10]) (by kernel_rfl) (by simp) ?_
              refine AllReadyH.cons rfl (fun K hK => ?_) AllReadyH.nil
              · go_simp
                obtain ⟨W47, e47⟩ : ∃ W', W' = W46.alloc (.cells #[.int .i64 0, .int .i64 0] 56) := ⟨_, rfl⟩
                have b47 : Below V2.heap.size V2 W47 := by rw [e47]; exact (b46).alloc (b46).size _
                have f47_10 : Lies W47 W46.heap.size #[.int .i64 0, .int .i64 0] 56 := by rw [e47]; exact Lies.new W46 #[.int .i64 0, .int .i64 0] 56
                have f47_11 : Lies W47 wr.heap.size #[.int .i64 0, .int .i64 0] 56 := by rw [e47]; exact Lies.alloc f46_11 _
                have z47 := Lib.hid (show W47.heap.size = W46.heap.size + 1 by rw [e47]; simp)
                rw [← e47]
                clear e47
                refine hK _ _ b47 (fun _ => ?_)
                clear hK K
                go_simp
                refine wpAnyH_ready (rs := [12]) (by kernel_rfl) (by simp) ?_
                refine AllReadyH.cons rfl (fun K hK => ?_) AllReadyH.nil
                · go_simp
                  obtain ⟨c0, c1, c2, c3⟩ := (f47_10).cells
                  go_simp
                  have g48 := set_grown W47 (W46.heap.size) 0 1 (.int .i64 (x1 : Int)) (.int .i64 (x2 : Int))
                  have b48 : Below V2.heap.size V2 ((W47.setCell ⟨W46.heap.size, 0, none⟩ (.int .i64 (x1 : Int))).setCell ⟨W46.heap.size, 1, none⟩ (.int .i64 (x2 : Int))) := (b47).grown g48 (b47).size (fun j e => by cases e; exact (b46).size)
                  have f48_10 := ((f47_10).set0 (.int .i64 (x1 : Int))).set1 (.int .i64 (x2 : Int))
                  have f48_11 := (f47_11).kept g48 (by intro e; have := Option.some.inj e; have qz44 := z44.out; have qz47 := z47.out; omega)
                  refine hK _ _ b48 (fun _ => ?_)
                  clear hK K
                  go_simp
                  refine wpAnyH_ready (rs := [13]) (by kernel_rfl) (by simp) ?_
                  refine AllReadyH.cons rfl (fun K hK => ?_) AllReadyH.nil
                  · go_simp
                    obtain ⟨c0, c1, c2, c3⟩ := (f47_11).cells
                    have d1 : W46.heap.size ≠ wr.heap.size := by have qz44 := z44.out; have qz47 := z47.out; omega
                    have d2 : wr.heap.size ≠ W46.heap.size := fun e => d1 e.symm
                    go_simp
                    have g49 := set_grown ((W47.setCell ⟨W46.heap.size, 0, none⟩ (.int .i64 (x1 : Int))).setCell ⟨W46.heap.size, 1, none⟩ (.int .i64 (x2 : Int))) (wr.heap.size) 0 1 (.int .i64 (y1 : Int)) (.int .i64 (y2 : Int))
                    have b49 : Below V2.heap.size V2 ((((W47.setCell ⟨W46.heap.size, 0, none⟩ (.int .i64 (x1 : Int))).setCell ⟨W46.heap.size, 1, none⟩ (.int .i64 (x2 : Int))).setCell ⟨wr.heap.size, 0, none⟩ (.int .i64 (y1 : Int))).setCell ⟨wr.heap.size, 1, none⟩ (.int .i64 (y2 : Int))) := (b48).grown g49 (b48).size (fun j e => by cases e; exact (hS).size)
                    have f49_11 := ((f48_11).set0 (.int .i64 (y1 : Int))).set1 (.int .i64 (y2 : Int))
                    have f49_10 := (f48_10).kept g49 (by intro e; have := Option.some.inj e; have qz44 := z44.out; have qz47 := z47.out; omega)
                    refine hK _ _ b49 (fun _ => ?_)
                    clear hK K
                    go_simp
                    refine wpAnyH_done (by kernel_rfl) ?_ _
                    have fx := f49_10
                    have fy := f49_11
                    have bz := b49
                    obtain ⟨Z, hZ⟩ : ∃ Z, Z = ((((W47.setCell ⟨W46.heap.size, 0, none⟩ (.int .i64 (x1 : Int))).setCell ⟨W46.heap.size, 1, none⟩ (.int .i64 (x2 : Int))).setCell ⟨wr.heap.size, 0, none⟩ (.int .i64 (y1 : Int))).setCell ⟨wr.heap.size, 1, none⟩ (.int .i64 (y2 : Int))) := ⟨_, rfl⟩
                    rw [← hZ] at fx fy bz
                    rw [← hZ]
                    obtain ⟨e0, e1, _, _⟩ := fx.cells
                    obtain ⟨e2, e3, _, _⟩ := fy.cells
                    have HZ := Lib.hid hZ
                    clear hZ
                    go_wp2_with fail
                    go_ret
                    exact ⟨congrArg (fun z => Ending.returned (.bool z)) HN.out.symm, B3.trans (bz.mono B3.size)⟩
            · go_simp
              obtain ⟨W50, e50⟩ : ∃ W', W' = W45.alloc (.cells #[.int .i64 0, .int .i64 0] 56) := ⟨_, rfl⟩
              have b50 : Below V2.heap.size V2 W50 := by rw [e50]; exact (b45).alloc (b45).size _
              have f50_10 : Lies W50 W45.heap.size #[.int .i64 0, .int .i64 0] 56 := by rw [e50]; exact Lies.new W45 #[.int .i64 0, .int .i64 0] 56
              have f50_11 : Lies W50 wr.heap.size #[.int .i64 0, .int .i64 0] 56 := by rw [e50]; exact Lies.alloc f45_11 _
              have z50 := Lib.hid (show W50.heap.size = W45.heap.size + 1 by rw [e50]; simp)
              rw [← e50]
              clear e50
              refine hK _ _ b50 (fun _ => ?_)
              clear hK K
              go_simp
              refine wpAnyH_ready (rs := [9]) (by kernel_rfl) (by simp) ?_
              refine AllReadyH.cons rfl (fun K hK => ?_) AllReadyH.nil
              · go_simp
                go_wp2_with (go_at_call 43; refine (RB' _ b50).mono ?_; rintro e W51 ⟨rfl, h51⟩)
                have b51 := (b50).trans (h51.mono (b50).size)
                have f51_11 := Lies.below f50_11 h51
                have f51_10 := Lies.below f50_10 h51
                have z51 := h51.size
                refine hK _ _ b51 (fun _ => ?_)
                clear hK K h51
                go_simp
                refine wpAnyH_ready (rs := [12]) (by kernel_rfl) (by simp) ?_
                refine AllReadyH.cons rfl (fun K hK => ?_) AllReadyH.nil
                · go_simp
                  obtain ⟨c0, c1, c2, c3⟩ := (f51_10).cells
                  go_simp
                  have g52 := set_grown W51 (W45.heap.size) 0 1 (.int .i64 (x1 : Int)) (.int .i64 (x2 : Int))
                  have b52 : Below V2.heap.size V2 ((W51.setCell ⟨W45.heap.size, 0, none⟩ (.int .i64 (x1 : Int))).setCell ⟨W45.heap.size, 1, none⟩ (.int .i64 (x2 : Int))) := (b51).grown g52 (b51).size (fun j e => by cases e; exact (b45).size)
                  have f52_10 := ((f51_10).set0 (.int .i64 (x1 : Int))).set1 (.int .i64 (x2 : Int))
                  have f52_11 := (f51_11).kept g52 (by intro e; have := Option.some.inj e; have qz44 := z44.out; have qz50 := z50.out; omega)
                  refine hK _ _ b52 (fun _ => ?_)
                  clear hK K
                  go_simp
                  refine wpAnyH_ready (rs := [13]) (by kernel_rfl) (by simp) ?_
                  refine AllReadyH.cons rfl (fun K hK => ?_) AllReadyH.nil
                  · go_simp
                    obtain ⟨c0, c1, c2, c3⟩ := (f51_11).cells
                    have d1 : W45.heap.size ≠ wr.heap.size := by have qz44 := z44.out; have qz50 := z50.out; omega
                    have d2 : wr.heap.size ≠ W45.heap.size := fun e => d1 e.symm
                    go_simp
                    have g53 := set_grown ((W51.setCell ⟨W45.heap.size, 0, none⟩ (.int .i64 (x1 : Int))).setCell ⟨W45.heap.size, 1, none⟩ (.int .i64 (x2 : Int))) (wr.heap.size) 0 1 (.int .i64 (y1 : Int)) (.int .i64 (y2 : Int))
                    have b53 : Below V2.heap.size V2 ((((W51.setCell ⟨W45.heap.size, 0, none⟩ (.int .i64 (x1 : Int))).setCell ⟨W45.heap.size, 1, none⟩ (.int .i64 (x2 : Int))).setCell ⟨wr.heap.size, 0, none⟩ (.int .i64 (y1 : Int))).setCell ⟨wr.heap.size, 1, none⟩ (.int .i64 (y2 : Int))) := (b52).grown g53 (b52).size (fun j e => by cases e; exact (hS).size)
                    have f53_11 := ((f52_11).set0 (.int .i64 (y1 : Int))).set1 (.int .i64 (y2 : Int))
                    have f53_10 := (f52_10).kept g53 (by intro e; have := Option.some.inj e; have qz44 := z44.out; have qz50 := z50.out; omega)
                    refine hK _ _ b53 (fun _ => ?_)
                    clear hK K
                    go_simp
                    refine wpAnyH_done (by kernel_rfl) ?_ _
                    have fx := f53_10
                    have fy := f53_11
                    have bz := b53
                    obtain ⟨Z, hZ⟩ : ∃ Z, Z = ((((W51.setCell ⟨W45.heap.size, 0, none⟩ (.int .i64 (x1 : Int))).setCell ⟨W45.heap.size, 1, none⟩ (.int .i64 (x2 : Int))).setCell ⟨wr.heap.size, 0, none⟩ (.int .i64 (y1 : Int))).setCell ⟨wr.heap.size, 1, none⟩ (.int .i64 (y2 : Int))) := ⟨_, rfl⟩
                    rw [← hZ] at fx fy bz
                    rw [← hZ]
                    obtain ⟨e0, e1, _, _⟩ := fx.cells
                    obtain ⟨e2, e3, _, _⟩ := fy.cells
                    have HZ := Lib.hid hZ
                    clear hZ
                    go_wp2_with fail
                    go_ret
                    exact ⟨congrArg (fun z => Ending.returned (.bool z)) HN.out.symm, B3.trans (bz.mono B3.size)⟩
          · go_simp
            obtain ⟨W54, e54⟩ : ∃ W', W' = W44.alloc (.cells #[.int .i64 0, .int .i64 0] 56) := ⟨_, rfl⟩
            have b54 : Below V2.heap.size V2 W54 := by rw [e54]; exact (b44).alloc (b44).size _
            have f54_10 : Lies W54 W44.heap.size #[.int .i64 0, .int .i64 0] 56 := by rw [e54]; exact Lies.new W44 #[.int .i64 0, .int .i64 0] 56
            have f54_11 : Lies W54 wr.heap.size #[.int .i64 0, .int .i64 0] 56 := by rw [e54]; exact Lies.alloc f44_11 _
            have z54 := Lib.hid (show W54.heap.size = W44.heap.size + 1 by rw [e54]; simp)
            rw [← e54]
            clear e54
            refine hK _ _ b54 (fun _ => ?_)
            clear hK K
            go_simp
            refine wpAnyH_ready (rs := [4]) (by kernel_rfl) (by simp) ?_
            refine AllReadyH.cons rfl (fun K hK => ?_) AllReadyH.nil
            · go_simp
              go_wp2_with (go_at_call 43; refine (RA' _ b54).mono ?_; rintro e W55 ⟨rfl, h55⟩)
              have b55 := (b54).trans (h55.mono (b54).size)
              have f55_11 := Lies.below f54_11 h55
              have f55_10 := Lies.below f54_10 h55
              have z55 := h55.size
              refine hK _ _ b55 (fun _ => ?_)
              clear hK K h55
              go_simp
              refine wpAnyH_ready (rs := [9]) (by kernel_rfl) (by simp) ?_
              refine AllReadyH.cons rfl (fun K hK => ?_) AllReadyH.nil
              · go_simp
                go_wp2_with (go_at_call 43; refine (RB' _ b55).mono ?_; rintro e W56 ⟨rfl, h56⟩)
                have b56 := (b55).trans (h56.mono (b55).size)
                have f56_11 := Lies.below f55_11 h56
                have f56_10 := Lies.below f55_10 h56
                have z56 := h56.size
                refine hK _ _ b56 (fun _ => ?_)
                clear hK K h56
                go_simp
                refine wpAnyH_ready (rs := [12]) (by kernel_rfl) (by simp) ?_
                refine AllReadyH.cons rfl (fun K hK => ?_) AllReadyH.nil
                · go_simp
                  obtain ⟨c0, c1, c2, c3⟩ := (f56_10).cells
                  go_simp
                  have g57 := set_grown W56 (W44.heap.size) 0 1 (.int .i64 (x1 : Int)) (.int .i64 (x2 : Int))
                  have b57 : Below V2.heap.size V2 ((W56.setCell ⟨W44.heap.size, 0, none⟩ (.int .i64 (x1 : Int))).setCell ⟨W44.heap.size, 1, none⟩ (.int .i64 (x2 : Int))) := (b56).grown g57 (b56).size (fun j e => by cases e; exact (b44).size)
                  have f57_10 := ((f56_10).set0 (.int .i64 (x1 : Int))).set1 (.int .i64 (x2 : Int))
                  have f57_11 := (f56_11).kept g57 (by intro e; have := Option.some.inj e; have qz44 := z44.out; have qz54 := z54.out; omega)
                  refine hK _ _ b57 (fun _ => ?_)
                  clear hK K
                  go_simp
                  refine wpAnyH_ready (rs := [13]) (by kernel_rfl) (by simp) ?_
                  refine AllReadyH.cons rfl (fun K hK => ?_) AllReadyH.nil
                  · go_simp
                    obtain ⟨c0, c1, c2, c3⟩ := (f56_11).cells
                    have d1 : W44.heap.size ≠ wr.heap.size := by have qz44 := z44.out; have qz54 := z54.out; omega
                    have d2 : wr.heap.size ≠ W44.heap.size := fun e => d1 e.symm
                    go_simp
                    have g58 := set_grown ((W56.setCell ⟨W44.heap.size, 0, none⟩ (.int .i64 (x1 : Int))).setCell ⟨W44.heap.size, 1, none⟩ (.int .i64 (x2 : Int))) (wr.heap.size) 0 1 (.int .i64 (y1 : Int)) (.int .i64 (y2 : Int))
                    have b58 : Below V2.heap.size V2 ((((W56.setCell ⟨W44.heap.size, 0, none⟩ (.int .i64 (x1 : Int))).setCell ⟨W44.heap.size, 1, none⟩ (.int .i64 (x2 : Int))).setCell ⟨wr.heap.size, 0, none⟩ (.int .i64 (y1 : Int))).setCell ⟨wr.heap.size, 1, none⟩ (.int .i64 (y2 : Int))) := (b57).grown g58 (b57).size (fun j e => by cases e; exact (hS).size)
                    have f58_11 := ((f57_11).set0 (.int .i64 (y1 : Int))).set1 (.int .i64 (y2 : Int))
                    have f58_10 := (f57_10).kept g58 (by intro e; have := Option.some.inj e; have qz44 := z44.out; have qz54 := z54.out; omega)
                    refine hK _ _ b58 (fun _ => ?_)
                    clear hK K
                    go_simp
                    refine wpAnyH_done (by kernel_rfl) ?_ _
                    have fx := f58_10
                    have fy := f58_11
                    have bz := b58
                    obtain ⟨Z, hZ⟩ : ∃ Z, Z = ((((W56.setCell ⟨W44.heap.size, 0, none⟩ (.int .i64 (x1 : Int))).setCell ⟨W44.heap.size, 1, none⟩ (.int .i64 (x2 : Int))).setCell ⟨wr.heap.size, 0, none⟩ (.int .i64 (y1 : Int))).setCell ⟨wr.heap.size, 1, none⟩ (.int .i64 (y2 : Int))) := ⟨_, rfl⟩
                    rw [← hZ] at fx fy bz
                    rw [← hZ]
                    obtain ⟨e0, e1, _, _⟩ := fx.cells
                    obtain ⟨e2, e3, _, _⟩ := fy.cells
                    have HZ := Lib.hid hZ
                    clear hZ
                    go_wp2_with fail
                    go_ret
                    exact ⟨congrArg (fun z => Ending.returned (.bool z)) HN.out.symm, B3.trans (bz.mono B3.size)⟩
      | false =>
        cases t2 : (bits .andNot .i64 (x2 : Int) (y2 : Int) != 0) with
        | true =>
          have HN := Lib.hid (show (List.range 9).all (sameAt (mixR r u 9) u) = false by
            rw [List.all_eq_false]
            exact ⟨k, List.mem_range.2 hlt, by rw [HH.out.2, t2]; simp⟩)
          go_wp2_with fail
          refine wp_region_held (S := fun w' => Below V2.heap.size V2 w') (by kernel_rfl) ?_
          have hS : Below V2.heap.size V2 wr.drew := hB.drew
          refine wpAnyH_take (i := 0) (v := .agg #[.int .u8 k1, .string s1, .slice ad1 n1 cap1]) rfl (by kernel_rfl) (by kernel_rfl) (by kernel_rfl) (fun _ _ _ h => h) (Or.inl ⟨by rfl, fun w hw => by obtain ⟨l0, l1, l2, _⟩ := Var.cells (lies_kept hw Y1); obtain ⟨m0, m1, m2, _⟩ := Var.cells (lies_kept hw Y2); first | (go_simp; done) | rfl⟩) hS ?_
          go_simp
          refine wpAnyH_take (i := 1) (v := .int .i64 (k : Int)) rfl (by kernel_rfl) (by kernel_rfl) (by kernel_rfl) (fun _ _ _ h => h) (Or.inl ⟨by rfl, fun w hw => by go_simp⟩) hS ?_
          go_simp
          refine wpAnyH_take (i := 2) (v := .int .u64 (k : Int)) rfl (by kernel_rfl) (by kernel_rfl) (by kernel_rfl) (fun _ _ _ h => h) (Or.inl ⟨by rfl, fun w hw => by go_simp⟩) hS ?_
          go_simp
          refine wpAnyH_take (i := 3) (v := .int .i64 (c : Int)) rfl (by kernel_rfl) (by kernel_rfl) (by kernel_rfl) (fun _ _ _ h => h) (Or.inl ⟨by rfl, fun w hw => by go_simp⟩) hS ?_
          go_simp
          refine wpAnyH_take (i := 5) (v := .agg #[.int .u8 k2, .string s2, .slice ad2 n2 cap2]) rfl (by kernel_rfl) (by kernel_rfl) (by kernel_rfl) (fun _ _ _ h => h) (Or.inl ⟨by rfl, fun w hw => by obtain ⟨l0, l1, l2, _⟩ := Var.cells (lies_kept hw Y1); obtain ⟨m0, m1, m2, _⟩ := Var.cells (lies_kept hw Y2); first | (go_simp; done) | rfl⟩) hS ?_
          go_simp
          refine wpAnyH_take (i := 6) (v := .int .i64 (k : Int)) rfl (by kernel_rfl) (by kernel_rfl) (by kernel_rfl) (fun _ _ _ h => h) (Or.inl ⟨by rfl, fun w hw => by go_simp⟩) hS ?_
          go_simp
          refine wpAnyH_take (i := 7) (v := .int .u64 (k : Int)) rfl (by kernel_rfl) (by kernel_rfl) (by kernel_rfl) (fun _ _ _ h => h) (Or.inl ⟨by rfl, fun w hw => by go_simp⟩) hS ?_
          go_simp
          refine wpAnyH_take (i := 8) (v := .int .i64 (c : Int)) rfl (by kernel_rfl) (by kernel_rfl) (by kernel_rfl) (fun _ _ _ h => h) (Or.inl ⟨by rfl, fun w hw => by go_simp⟩) hS ?_
          go_simp
          refine wpAnyH_ready (rs := [4, 10, 11]) (by kernel_rfl) (by simp) ?_
          refine AllReadyH.cons rfl (fun K hK => ?_) (AllReadyH.cons rfl (fun K hK => ?_) (AllReadyH.cons rfl (fun K hK => ?_) AllReadyH.nil))
          · go_simp
            go_wp2_with (go_at_call 43; refine (RA' _ hS).mono ?_; rintro e W59 ⟨rfl, h59⟩)
            have b59 := (hS).trans (h59.mono (hS).size)
            have z59 := h59.size
            refine hK _ _ b59 (fun _ => ?_)
            clear hK K h59
            go_simp
            refine wpAnyH_ready (rs := [9, 10, 11]) (by kernel_rfl) (by simp) ?_
            refine AllReadyH.cons rfl (fun K hK => ?_) (AllReadyH.cons rfl (fun K hK => ?_) (AllReadyH.cons rfl (fun K hK => ?_) AllReadyH.nil))
            · go_simp
              go_wp2_with (go_at_call 43; refine (RB' _ b59).mono ?_; rintro e W60 ⟨rfl, h60⟩)
              have b60 := (b59).trans (h60.mono (b59).size)
              have z60 := h60.size
              refine hK _ _ b60 (fun _ => ?_)
              clear hK K h60
              go_simp
              refine wpAnyH_ready (rs := [10, 11]) (by kernel_rfl) (by simp) ?_
              refine AllReadyH.cons rfl (fun K hK => ?_) (AllReadyH.cons rfl (fun K hK => ?_) AllReadyH.nil)
              · go_simp
                obtain ⟨W61, e61⟩ : ∃ W', W' = W60.alloc (.cells #[.int .i64 0, .int .i64 0] 56) := ⟨_, rfl⟩
                have b61 : Below V2.heap.size V2 W61 := by rw [e61]; exact (b60).alloc (b60).size _
                have f61_10 : Lies W61 W60.heap.size #[.int .i64 0, .int .i64 0] 56 := by rw [e61]; exact Lies.new W60 #[.int .i64 0, .int .i64 0] 56
                have z61 := Lib.hid (show W61.heap.size = W60.heap.size + 1 by rw [e61]; simp)
                rw [← e61]
                clear e61
                refine hK _ _ b61 (fun _ => ?_)
                clear hK K
                go_simp
                refine wpAnyH_ready (rs := [11]) (by kernel_rfl) (by simp) ?_
                refine AllReadyH.cons rfl (fun K hK => ?_) AllReadyH.nil
                · go_simp
                  obtain ⟨W62, e62⟩ : ∃ W', W' = W61.alloc (.cells #[.int .i64 0, .int .i64 0] 56) := ⟨_, rfl⟩
                  have b62 : Below V2.heap.size V2 W62 := by rw [e62]; exact (b61).alloc (b61).size _
                  have f62_11 : Lies W62 W61.heap.size #[.int .i64 0, .int .i64 0] 56 := by rw [e62]; exact Lies.new W61 #[.int .i64 0, .int .i64 0] 56
                  have f62_10 : Lies W62 W60.heap.size #[.int .i64 0, .int .i64 0] 56 := by rw [e62]; exact Lies.alloc f61_10 _
                  have z62 := Lib.hid (show W62.heap.size = W61.heap.size + 1 by rw [e62]; simp)
                  rw [← e62]
                  clear e62
                  refine hK _ _ b62 (fun _ => ?_)
                  clear hK K
                  go_simp
                  refine wpAnyH_ready (rs := [12]) (by kernel_rfl) (by simp) ?_
                  refine AllReadyH.cons rfl (fun K hK => ?_) AllReadyH.nil
                  · go_simp
                    obtain ⟨c0, c1, c2, c3⟩ := (f62_10).cells
                    go_simp
                    have g63 := set_grown W62 (W60.heap.size) 0 1 (.int .i64 (x1 : Int)) (.int .i64 (x2 : Int))
                    have b63 : Below V2.heap.size V2 ((W62.setCell ⟨W60.heap.size, 0, none⟩ (.int .i64 (x1 : Int))).setCell ⟨W60.heap.size, 1, none⟩ (.int .i64 (x2 : Int))) := (b62).grown g63 (b62).size (fun j e => by cases e; exact (b60).size)
                    have f63_10 := ((f62_10).set0 (.int .i64 (x1 : Int))).set1 (.int .i64 (x2 : Int))
                    have f63_11 := (f62_11).kept g63 (by intro e; have := Option.some.inj e; have qz61 := z61.out; have qz62 := z62.out; omega)
                    refine hK _ _ b63 (fun _ => ?_)
                    clear hK K
                    go_simp
                    refine wpAnyH_ready (rs := [13]) (by kernel_rfl) (by simp) ?_
                    refine AllReadyH.cons rfl (fun K hK => ?_) AllReadyH.nil
                    · go_simp
                      obtain ⟨c0, c1, c2, c3⟩ := (f62_11).cells
                      have d1 : W60.heap.size ≠ W61.heap.size := by have qz61 := z61.out; have qz62 := z62.out; omega
                      have d2 : W61.heap.size ≠ W60.heap.size := fun e => d1 e.symm
                      go_simp
                      have g64 := set_grown ((W62.setCell ⟨W60.heap.size, 0, none⟩ (.int .i64 (x1 : Int))).setCell ⟨W60.heap.size, 1, none⟩ (.int .i64 (x2 : Int))) (W61.heap.size) 0 1 (.int .i64 (y1 : Int)) (.int .i64 (y2 : Int))
                      have b64 : Below V2.heap.size V2 ((((W62.setCell ⟨W60.heap.size, 0, none⟩ (.int .i64 (x1 : Int))).setCell ⟨W60.heap.size, 1, none⟩ (.int .i64 (x2 : Int))).setCell ⟨W61.heap.size, 0, none⟩ (.int .i64 (y1 : Int))).setCell ⟨W61.heap.size, 1, none⟩ (.int .i64 (y2 : Int))) := (b63).grown g64 (b63).size (fun j e => by cases e; exact (b61).size)
                      have f64_11 := ((f63_11).set0 (.int .i64 (y1 : Int))).set1 (.int .i64 (y2 : Int))
                      have f64_10 := (f63_10).kept g64 (by intro e; have := Option.some.inj e; have qz61 := z61.out; have qz62 := z62.out; omega)
                      refine hK _ _ b64 (fun _ => ?_)
                      clear hK K
                      go_simp
                      refine wpAnyH_done (by kernel_rfl) ?_ _
                      have fx := f64_10
                      have fy := f64_11
                      have bz := b64
                      obtain ⟨Z, hZ⟩ : ∃ Z, Z = ((((W62.setCell ⟨W60.heap.size, 0, none⟩ (.int .i64 (x1 : Int))).setCell ⟨W60.heap.size, 1, none⟩ (.int .i64 (x2 : Int))).setCell ⟨W61.heap.size, 0, none⟩ (.int .i64 (y1 : Int))).setCell ⟨W61.heap.size, 1, none⟩ (.int .i64 (y2 : Int))) := ⟨_, rfl⟩
                      rw [← hZ] at fx fy bz
                      rw [← hZ]
                      obtain ⟨e0, e1, _, _⟩ := fx.cells
                      obtain ⟨e2, e3, _, _⟩ := fy.cells
                      have HZ := Lib.hid hZ
                      clear hZ
                      go_wp2_with fail
                      go_ret
                      exact ⟨congrArg (fun z => Ending.returned (.bool z)) HN.out.symm, B3.trans (bz.mono B3.size)⟩
              · go_simp
                obtain ⟨W65, e65⟩ : ∃ W', W' = W60.alloc (.cells #[.int .i64 0, .int .i64 0] 56) := ⟨_, rfl⟩
                have b65 : Below V2.heap.size V2 W65 := by rw [e65]; exact (b60).alloc (b60).size _
                have f65_11 : Lies W65 W60.heap.size #[.int .i64 0, .int .i64 0] 56 := by rw [e65]; exact Lies.new W60 #[.int .i64 0, .int .i64 0] 56
                have z65 := Lib.hid (show W65.heap.size = W60.heap.size + 1 by rw [e65]; simp)
                rw [← e65]
                clear e65
                refine hK _ _ b65 (fun _ => ?_)
                clear hK K
                go_simp
                refine wpAnyH_ready (rs := [10]) (by kernel_rfl) (by simp) ?_
                refine AllReadyH.cons rfl (fun K hK => ?_) AllReadyH.nil
                · go_simp
                  obtain ⟨W66, e66⟩ : ∃ W', W' = W65.alloc (.cells #[.int .i64 0, .int .i64 0] 56) := ⟨_, rfl⟩
                  have b66 : Below V2.heap.size V2 W66 := by rw [e66]; exact (b65).alloc (b65).size _
                  have f66_10 : Lies W66 W65.heap.size #[.int .i64 0, .int .i64 0] 56 := by rw [e66]; exact Lies.new W65 #[.int .i64 0, .int .i64 0] 56
                  have f66_11 : Lies W66 W60.heap.size #[.int .i64 0, .int .i64 0] 56 := by rw [e66]; exact Lies.alloc f65_11 _
                  have z66 := Lib.hid (show W66.heap.size = W65.heap.size + 1 by rw [e66]; simp)
                  rw [← e66]
                  clear e66
                  refine hK _ _ b66 (fun _ => ?_)
                  clear hK K
                  go_simp
                  refine wpAnyH_ready (rs := [12]) (by kernel_rfl) (by simp) ?_
                  refine AllReadyH.cons rfl (fun K hK => ?_) AllReadyH.nil
                  · go_simp
                    obtain ⟨c0, c1, c2, c3⟩ := (f66_10).cells
                    go_simp
                    have g67 := set_grown W66 (W65.heap.size) 0 1 (.int .i64 (x1 : Int)) (.int .i64 (x2 : Int))
                    have b67 : Below V2.heap.size V2 ((W66.setCell ⟨W65.heap.size, 0, none⟩ (.int .i64 (x1 : Int))).setCell ⟨W65.heap.size, 1, none⟩ (.int .i64 (x2 : Int))) := (b66).grown g67 (b66).size (fun j e => by cases e; exact (b65).size)
                    have f67_10 := ((f66_10).set0 (.int .i64 (x1 : Int))).set1 (.int .i64 (x2 : Int))
                    have f67_11 := (f66_11).kept g67 (by intro e; have := Option.some.inj e; have qz65 := z65.out; have qz66 := z66.out; omega)
                    refine hK _ _ b67 (fun _ => ?_)
                    clear hK K
                    go_simp
                    refine wpAnyH_ready (rs := [13]) (by kernel_rfl) (by simp) ?_
                    refine AllReadyH.cons rfl (fun K hK => ?_) AllReadyH.nil
                    · go_simp
                      obtain ⟨c0, c1, c2, c3⟩ := (f66_11).cells
                      have d1 : W65.heap.size ≠ W60.heap.size := by have qz65 := z65.out; have qz66 := z66.out; omega
                      have d2 : W60.heap.size ≠ W65.heap.size := fun e => d1 e.symm
                      go_simp
                      have g68 := set_grown ((W66.setCell ⟨W65.heap.size, 0, none⟩ (.int .i64 (x1 : Int))).setCell ⟨W65.heap.size, 1, none⟩ (.int .i64 (x2 : Int))) (W60.heap.size) 0 1 (.int .i64 (y1 : Int)) (.int .i64 (y2 : Int))
                      have b68 : Below V2.heap.size V2 ((((W66.setCell ⟨W65.heap.size, 0, none⟩ (.int .i64 (x1 : Int))).setCell ⟨W65.heap.size, 1, none⟩ (.int .i64 (x2 : Int))).setCell ⟨W60.heap.size, 0, none⟩ (.int .i64 (y1 : Int))).setCell ⟨W60.heap.size, 1, none⟩ (.int .i64 (y2 : Int))) := (b67).grown g68 (b67).size (fun j e => by cases e; exact (b60).size)
                      have f68_11 := ((f67_11).set0 (.int .i64 (y1 : Int))).set1 (.int .i64 (y2 : Int))
                      have f68_10 := (f67_10).kept g68 (by intro e; have := Option.some.inj e; have qz65 := z65.out; have qz66 := z66.out; omega)
                      refine hK _ _ b68 (fun _ => ?_)
                      clear hK K
                      go_simp
                      refine wpAnyH_done (by kernel_rfl) ?_ _
                      have fx := f68_10
                      have fy := f68_11
                      have bz := b68
                      obtain ⟨Z, hZ⟩ : ∃ Z, Z = ((((W66.setCell ⟨W65.heap.size, 0, none⟩ (.int .i64 (x1 : Int))).setCell ⟨W65.heap.size, 1, none⟩ (.int .i64 (x2 : Int))).setCell ⟨W60.heap.size, 0, none⟩ (.int .i64 (y1 : Int))).setCell ⟨W60.heap.size, 1, none⟩ (.int .i64 (y2 : Int))) := ⟨_, rfl⟩
                      rw [← hZ] at fx fy bz
                      rw [← hZ]
                      obtain ⟨e0, e1, _, _⟩ := fx.cells
                      obtain ⟨e2, e3, _, _⟩ := fy.cells
                      have HZ := Lib.hid hZ
                      clear hZ
                      go_wp2_with fail
                      go_ret
                      exact ⟨congrArg (fun z => Ending.returned (.bool z)) HN.out.symm, B3.trans (bz.mono B3.size)⟩
            · go_simp
              obtain ⟨W69, e69⟩ : ∃ W', W' = W59.alloc (.cells #[.int .i64 0, .int .i64 0] 56) := ⟨_, rfl⟩
              have b69 : Below V2.heap.size V2 W69 := by rw [e69]; exact (b59).alloc (b59).size _
              have f69_10 : Lies W69 W59.heap.size #[.int .i64 0, .int .i64 0] 56 := by rw [e69]; exact Lies.new W59 #[.int .i64 0, .int .i64 0] 56
              have z69 := Lib.hid (show W69.heap.size = W59.heap.size + 1 by rw [e69]; simp)
              rw [← e69]
              clear e69
              refine hK _ _ b69 (fun _ => ?_)
              clear hK K
              go_simp
              refine wpAnyH_ready (rs := [9, 11]) (by kernel_rfl) (by simp) ?_
              refine AllReadyH.cons rfl (fun K hK => ?_) (AllReadyH.cons rfl (fun K hK => ?_) AllReadyH.nil)
              · go_simp
                go_wp2_with (go_at_call 43; refine (RB' _ b69).mono ?_; rintro e W70 ⟨rfl, h70⟩)
                have b70 := (b69).trans (h70.mono (b69).size)
                have f70_10 := Lies.below f69_10 h70
                have z70 := h70.size
                refine hK _ _ b70 (fun _ => ?_)
                clear hK K h70
                go_simp
                refine wpAnyH_ready (rs := [11]) (by kernel_rfl) (by simp) ?_
                refine AllReadyH.cons rfl (fun K hK => ?_) AllReadyH.nil
                · go_simp
                  obtain ⟨W71, e71⟩ : ∃ W', W' = W70.alloc (.cells #[.int .i64 0, .int .i64 0] 56) := ⟨_, rfl⟩
                  have b71 : Below V2.heap.size V2 W71 := by rw [e71]; exact (b70).alloc (b70).size _
                  have f71_11 : Lies W71 W70.heap.size #[.int .i64 0, .int .i64 0] 56 := by rw [e71]; exact Lies.new W70 #[.int .i64 0, .int .i64 0] 56
                  have f71_10 : Lies W71 W59.heap.size #[.int .i64 0, .int .i64 0] 56 := by rw [e71]; exact Lies.alloc f70_10 _
                  have z71 := Lib.hid (show W71.heap.size = W70.heap.size + 1 by rw [e71]; simp)
                  rw [← e71]
                  clear e71
                  refine hK _ _ b71 (fun _ => ?_)
                  clear hK K
                  go_simp
                  refine wpAnyH_ready (rs := [12]) (by kernel_rfl) (by simp) ?_
                  refine AllReadyH.cons rfl (fun K hK => ?_) AllReadyH.nil
                  · go_simp
                    obtain ⟨c0, c1, c2, c3⟩ := (f71_10).cells
                    go_simp
                    have g72 := set_grown W71 (W59.heap.size) 0 1 (.int .i64 (x1 : Int)) (.int .i64 (x2 : Int))
                    have b72 : Below V2.heap.size V2 ((W71.setCell ⟨W59.heap.size, 0, none⟩ (.int .i64 (x1 : Int))).setCell ⟨W59.heap.size, 1, none⟩ (.int .i64 (x2 : Int))) := (b71).grown g72 (b71).size (fun j e => by cases e; exact (b59).size)
                    have f72_10 := ((f71_10).set0 (.int .i64 (x1 : Int))).set1 (.int .i64 (x2 : Int))
                    have f72_11 := (f71_11).kept g72 (by intro e; have := Option.some.inj e; have qz69 := z69.out; have qz71 := z71.out; omega)
                    refine hK _ _ b72 (fun _ => ?_)
                    clear hK K
                    go_simp
                    refine wpAnyH_ready (rs := [13]) (by kernel_rfl) (by simp) ?_
                    refine AllReadyH.cons rfl (fun K hK => ?_) AllReadyH.nil
                    · go_simp
                      obtain ⟨c0, c1, c2, c3⟩ := (f71_11).cells
                      have d1 : W59.heap.size ≠ W70.heap.size := by have qz69 := z69.out; have qz71 := z71.out; omega
                      have d2 : W70.heap.size ≠ W59.heap.size := fun e => d1 e.symm
                      go_simp
                      have g73 := set_grown ((W71.setCell ⟨W59.heap.size, 0, none⟩ (.int .i64 (x1 : Int))).setCell ⟨W59.heap.size, 1, none⟩ (.int .i64 (x2 : Int))) (W70.heap.size) 0 1 (.int .i64 (y1 : Int)) (.int .i64 (y2 : Int))
                      have b73 : Below V2.heap.size V2 ((((W71.setCell ⟨W59.heap.size, 0, none⟩ (.int .i64 (x1 : Int))).setCell ⟨W59.heap.size, 1, none⟩ (.int .i64 (x2 : Int))).setCell ⟨W70.heap.size, 0, none⟩ (.int .i64 (y1 : Int))).setCell ⟨W70.heap.size, 1, none⟩ (.int .i64 (y2 : Int))) := (b72).grown g73 (b72).size (fun j e => by cases e; exact (b70).size)
                      have f73_11 := ((f72_11).set0 (.int .i64 (y1 : Int))).set1 (.int .i64 (y2 : Int))
                      have f73_10 := (f72_10).kept g73 (by intro e; have := Option.some.inj e; have qz69 := z69.out; have qz71 := z71.out; omega)
                      refine hK _ _ b73 (fun _ => ?_)
                      clear hK K
                      go_simp
                      refine wpAnyH_done (by kernel_rfl) ?_ _
                      have fx := f73_10
                      have fy := f73_11
                      have bz := b73
                      obtain ⟨Z, hZ⟩ : ∃ Z, Z = ((((W71.setCell ⟨W59.heap.size, 0, none⟩ (.int .i64 (x1 : Int))).setCell ⟨W59.heap.size, 1, none⟩ (.int .i64 (x2 : Int))).setCell ⟨W70.heap.size, 0, none⟩ (.int .i64 (y1 : Int))).setCell ⟨W70.heap.size, 1, none⟩ (.int .i64 (y2 : Int))) := ⟨_, rfl⟩
                      rw [← hZ] at fx fy bz
                      rw [← hZ]
                      obtain ⟨e0, e1, _, _⟩ := fx.cells
                      obtain ⟨e2, e3, _, _⟩ := fy.cells
                      have HZ := Lib.hid hZ
                      clear hZ
                      go_wp2_with fail
                      go_ret
                      exact ⟨congrArg (fun z => Ending.returned (.bool z)) HN.out.symm, B3.trans (bz.mono B3.size)⟩
              · go_simp
                obtain ⟨W74, e74⟩ : ∃ W', W' = W69.alloc (.cells #[.int .i64 0, .int .i64 0] 56) := ⟨_, rfl⟩
                have b74 : Below V2.heap.size V2 W74 := by rw [e74]; exact (b69).alloc (b69).size _
                have f74_11 : Lies W74 W69.heap.size #[.int .i64 0, .int .i64 0] 56 := by rw [e74]; exact Lies.new W69 #[.int .i64 0, .int .i64 0] 56
                have f74_10 : Lies W74 W59.heap.size #[.int .i64 0, .int .i64 0] 56 := by rw [e74]; exact Lies.alloc f69_10 _
                have z74 := Lib.hid (show W74.heap.size = W69.heap.size + 1 by rw [e74]; simp)
                rw [← e74]
                clear e74
                refine hK _ _ b74 (fun _ => ?_)
                clear hK K
                go_simp
                refine wpAnyH_ready (rs := [9]) (by kernel_rfl) (by simp) ?_
                refine AllReadyH.cons rfl (fun K hK => ?_) AllReadyH.nil
                · go_simp
                  go_wp2_with (go_at_call 43; refine (RB' _ b74).mono ?_; rintro e W75 ⟨rfl, h75⟩)
                  have b75 := (b74).trans (h75.mono (b74).size)
                  have f75_10 := Lies.below f74_10 h75
                  have f75_11 := Lies.below f74_11 h75
                  have z75 := h75.size
                  refine hK _ _ b75 (fun _ => ?_)
                  clear hK K h75
                  go_simp
                  refine wpAnyH_ready (rs := [12]) (by kernel_rfl) (by simp) ?_
                  refine AllReadyH.cons rfl (fun K hK => ?_) AllReadyH.nil
                  · go_simp
                    obtain ⟨c0, c1, c2, c3⟩ := (f75_10).cells
                    go_simp
                    have g76 := set_grown W75 (W59.heap.size) 0 1 (.int .i64 (x1 : Int)) (.int .i64 (x2 : Int))
                    have b76 : Below V2.heap.size V2 ((W75.setCell ⟨W59.heap.size, 0, none⟩ (.int .i64 (x1 : Int))).setCell ⟨W59.heap.size, 1, none⟩ (.int .i64 (x2 : Int))) := (b75).grown g76 (b75).size (fun j e => by cases e; exact (b59).size)
                    have f76_10 := ((f75_10).set0 (.int .i64 (x1 : Int))).set1 (.int .i64 (x2 : Int))
                    have f76_11 := (f75_11).kept g76 (by intro e; have := Option.some.inj e; have qz69 := z69.out; have qz74 := z74.out; omega)
                    refine hK _ _ b76 (fun _ => ?_)
                    clear hK K
                    go_simp
                    refine wpAnyH_ready (rs := [13]) (by kernel_rfl) (by simp) ?_
                    refine AllReadyH.cons rfl (fun K hK => ?_) AllReadyH.nil
                    · go_simp
                      obtain ⟨c0, c1, c2, c3⟩ := (f75_11).cells
                      have d1 : W59.heap.size ≠ W69.heap.size := by have qz69 := z69.out; have qz74 := z74.out; omega
                      have d2 : W69.heap.size ≠ W59.heap.size := fun e => d1 e.symm
                      go_simp
                      have g77 := set_grown ((W75.setCell ⟨W59.heap.size, 0, none⟩ (.int .i64 (x1 : Int))).setCell ⟨W59.heap.size, 1, none⟩ (.int .i64 (x2 : Int))) (W69.heap.size) 0 1 (.int .i64 (y1 : Int)) (.int .i64 (y2 : Int))
                      have b77 : Below V2.heap.size V2 ((((W75.setCell ⟨W59.heap.size, 0, none⟩ (.int .i64 (x1 : Int))).setCell ⟨W59.heap.size, 1, none⟩ (.int .i64 (x2 : Int))).setCell ⟨W69.heap.size, 0, none⟩ (.int .i64 (y1 : Int))).setCell ⟨W69.heap.size, 1, none⟩ (.int .i64 (y2 : Int))) := (b76).grown g77 (b76).size (fun j e => by cases e; exact (b69).size)
                      have f77_11 := ((f76_11).set0 (.int .i64 (y1 : Int))).set1 (.int .i64 (y2 : Int))
                      have f77_10 := (f76_10).kept g77 (by intro e; have := Option.some.inj e; have qz69 := z69.out; have qz74 := z74.out; omega)
                      refine hK _ _ b77 (fun _ => ?_)
                      clear hK K
                      go_simp
                      refine wpAnyH_done (by kernel_rfl) ?_ _
                      have fx := f77_10
                      have fy := f77_11
                      have bz := b77
                      obtain ⟨Z, hZ⟩ : ∃ Z, Z = ((((W75.setCell ⟨W59.heap.size, 0, none⟩ (.int .i64 (x1 : Int))).setCell ⟨W59.heap.size, 1, none⟩ (.int .i64 (x2 : Int))).setCell ⟨W69.heap.size, 0, none⟩ (.int .i64 (y1 : Int))).setCell ⟨W69.heap.size, 1, none⟩ (.int .i64 (y2 : Int))) := ⟨_, rfl⟩
                      rw [← hZ] at fx fy bz
                      rw [← hZ]
                      obtain ⟨e0, e1, _, _⟩ := fx.cells
                      obtain ⟨e2, e3, _, _⟩ := fy.cells
                      have HZ := Lib.hid hZ
                      clear hZ
                      go_wp2_with fail
                      go_ret
                      exact ⟨congrArg (fun z => Ending.returned (.bool z)) HN.out.symm, B3.trans (bz.mono B3.size)⟩
            · go_simp
              obtain ⟨W78, e78⟩ : ∃ W', W' = W59.alloc (.cells #[.int .i64 0, .int .i64 0] 56) := ⟨_, rfl⟩
              have b78 : Below V2.heap.size V2 W78 := by rw [e78]; exact (b59).alloc (b59).size _
              have f78_11 : Lies W78 W59.heap.size #[.int .i64 0, .int .i64 0] 56 := by rw [e78]; exact Lies.new W59 #[.int .i64 0, .int .i64 0] 56
              have z78 := Lib.hid (show W78.heap.size = W59.heap.size + 1 by rw [e78]; simp)
              rw [← e78]
              clear e78
              refine hK _ _ b78 (fun _ => ?_)
              clear hK K
              go_simp
              refine wpAnyH_ready (rs := [9, 10]) (by kernel_rfl) (by simp) ?_
              refine AllReadyH.cons rfl (fun K hK => ?_) (AllReadyH.cons rfl (fun K hK => ?_) AllReadyH.nil)
              · go_simp
                go_wp2_with (go_at_call 43; refine (RB' _ b78).mono ?_; rintro e W79 ⟨rfl, h79⟩)
                have b79 := (b78).trans (h79.mono (b78).size)
                have f79_11 := Lies.below f78_11 h79
                have z79 := h79.size
                refine hK _ _ b79 (fun _ => ?_)
                clear hK K h79
                go_simp
                refine wpAnyH_ready (rs := [10]) (by kernel_rfl) (by simp) ?_
                refine AllReadyH.cons rfl (fun K hK => ?_) AllReadyH.nil
                · go_simp
                  obtain ⟨W80, e80⟩ : ∃ W', W' = W79.alloc (.cells #[.int .i64 0, .int .i64 0] 56) := ⟨_, rfl⟩
                  have b80 : Below V2.heap.size V2 W80 := by rw [e80]; exact (b79).alloc (b79).size _
                  have f80_10 : Lies W80 W79.heap.size #[.int .i64 0, .int .i64 0] 56 := by rw [e80]; exact Lies.new W79 #[.int .i64 0, .int .i64 0] 56
                  have f80_11 : Lies W80 W59.heap.size #[.int .i64 0, .int .i64 0] 56 := by rw [e80]; exact Lies.alloc f79_11 _
                  have z80 := Lib.hid (show W80.heap.size = W79.heap.size + 1 by rw [e80]; simp)
                  rw [← e80]
                  clear e80
                  refine hK _ _ b80 (fun _ => ?_)
                  clear hK K
                  go_simp
                  refine wpAnyH_ready (rs := [12]) (by kernel_rfl) (by simp) ?_
                  refine AllReadyH.cons rfl (fun K hK => ?_) AllReadyH.nil
                  · go_simp
                    obtain ⟨c0, c1, c2, c3⟩ := (f80_10).cells
                    go_simp
                    have g81 := set_grown W80 (W79.heap.size) 0 1 (.int .i64 (x1 : Int)) (.int .i64 (x2 : Int))
                    have b81 : Below V2.heap.size V2 ((W80.setCell ⟨W79.heap.size, 0, none⟩ (.int .i64 (x1 : Int))).setCell ⟨W79.heap.size, 1, none⟩ (.int .i64 (x2 : Int))) := (b80).grown g81 (b80).size (fun j e => by cases e; exact (b79).size)
                    have f81_10 := ((f80_10).set0 (.int .i64 (x1 : Int))).set1 (.int .i64 (x2 : Int))
                    have f81_11 := (f80_11).kept g81 (by intro e; have := Option.some.inj e; have qz78 := z78.out; have qz80 := z80.out; omega)
                    refine hK _ _ b81 (fun _ => ?_)
                    clear hK K
                    go_simp
                    refine wpAnyH_ready (rs := [13]) (by kernel_rfl) (by simp) ?_
                    refine AllReadyH.cons rfl (fun K hK => ?_) AllReadyH.nil
                    · go_simp
                      obtain ⟨c0, c1, c2, c3⟩ := (f80_11).cells
                      have d1 : W79.heap.size ≠ W59.heap.size := by have qz78 := z78.out; have qz80 := z80.out; omega
                      have d2 : W59.heap.size ≠ W79.heap.size := fun e => d1 e.symm
                      go_simp
                      have g82 := set_grown ((W80.setCell ⟨W79.heap.size, 0, none⟩ (.int .i64 (x1 : Int))).setCell ⟨W79.heap.size, 1, none⟩ (.int .i64 (x2 : Int))) (W59.heap.size) 0 1 (.int .i64 (y1 : Int)) (.int .i64 (y2 : Int))
                      have b82 : Below V2.heap.size V2 ((((W80.setCell ⟨W79.heap.size, 0, none⟩ (.int .i64 (x1 : Int))).setCell ⟨W79.heap.size, 1, none⟩ (.int .i64 (x2 : Int))).setCell ⟨W59.heap.size, 0, none⟩ (.int .i64 (y1 : Int))).setCell ⟨W59.heap.size, 1, none⟩ (.int .i64 (y2 : Int))) := (b81).grown g82 (b81).size (fun j e => by cases e; exact (b59).size)
                      have f82_11 := ((f81_11).set0 (.int .i64 (y1 : Int))).set1 (.int .i64 (y2 : Int))
                      have f82_10 := (f81_10).kept g82 (by intro e; have := Option.some.inj e; have qz78 := z78.out; have qz80 := z80.out; omega)
                      refine hK _ _ b82 (fun _ => ?_)
                      clear hK K
                      go_simp
                      refine wpAnyH_done (by kernel_rfl) ?_ _
                      have fx := f82_10
                      have fy := f82_11
                      have bz := b82
                      obtain ⟨Z, hZ⟩ : ∃ Z, Z = ((((W80.setCell ⟨W79.heap.size, 0, none⟩ (.int .i64 (x1 : Int))).setCell ⟨W79.heap.size, 1, none⟩ (.int .i64 (x2 : Int))).setCell ⟨W59.heap.size, 0, none⟩ (.int .i64 (y1 : Int))).setCell ⟨W59.heap.size, 1, none⟩ (.int .i64 (y2 : Int))) := ⟨_, rfl⟩
                      rw [← hZ] at fx fy bz
                      rw [← hZ]
                      obtain ⟨e0, e1, _, _⟩ := fx.cells
                      obtain ⟨e2, e3, _, _⟩ := fy.cells
                      have HZ := Lib.hid hZ
                      clear hZ
                      go_wp2_with fail
                      go_ret
                      exact ⟨congrArg (fun z => Ending.returned (.bool z)) HN.out.symm, B3.trans (bz.mono B3.size)⟩
              · go_simp
                obtain ⟨W83, e83⟩ : ∃ W', W' = W78.alloc (.cells #[.int .i64 0, .int .i64 0] 56) := ⟨_, rfl⟩
                have b83 : Below V2.heap.size V2 W83 := by rw [e83]; exact (b78).alloc (b78).size _
                have f83_10 : Lies W83 W78.heap.size #[.int .i64 0, .int .i64 0] 56 := by rw [e83]; exact Lies.new W78 #[.int .i64 0, .int .i64 0] 56
                have f83_11 : Lies W83 W59.heap.size #[.int .i64 0, .int .i64 0] 56 := by rw [e83]; exact Lies.alloc f78_11 _
                have z83 := Lib.hid (show W83.heap.size = W78.heap.size + 1 by rw [e83]; simp)
                rw [← e83]
                clear e83
                refine hK _ _ b83 (fun _ => ?_)
                clear hK K
                go_simp
                refine wpAnyH_ready (rs := [9]) (by kernel_rfl) (by simp) ?_
                refine AllReadyH.cons rfl (fun K hK => ?_) AllReadyH.nil
                · go_simp
                  go_wp2_with (go_at_call 43; refine (RB' _ b83).mono ?_; rintro e W84 ⟨rfl, h84⟩)
                  have b84 := (b83).trans (h84.mono (b83).size)
                  have f84_11 := Lies.below f83_11 h84
                  have f84_10 := Lies.below f83_10 h84
                  have z84 := h84.size
                  refine hK _ _ b84 (fun _ => ?_)
                  clear hK K h84
                  go_simp
                  refine wpAnyH_ready (rs := [12]) (by kernel_rfl) (by simp) ?_
                  refine AllReadyH.cons rfl (fun K hK => ?_) AllReadyH.nil
                  · go_simp
                    obtain ⟨c0, c1, c2, c3⟩ := (f84_10).cells
                    go_simp
                    have g85 := set_grown W84 (W78.heap.size) 0 1 (.int .i64 (x1 : Int)) (.int .i64 (x2 : Int))
                    have b85 : Below V2.heap.size V2 ((W84.setCell ⟨W78.heap.size, 0, none⟩ (.int .i64 (x1 : Int))).setCell ⟨W78.heap.size, 1, none⟩ (.int .i64 (x2 : Int))) := (b84).grown g85 (b84).size (fun j e => by cases e; exact (b78).size)
                    have f85_10 := ((f84_10).set0 (.int .i64 (x1 : Int))).set1 (.int .i64 (x2 : Int))
                    have f85_11 := (f84_11).kept g85 (by intro e; have := Option.some.inj e; have qz78 := z78.out; have qz83 := z83.out; omega)
                    refine hK _ _ b85 (fun _ => ?_)
                    clear hK K
                    go_simp
                    refine wpAnyH_ready (rs := [13]) (by kernel_rfl) (by simp) ?_
                    refine AllReadyH.cons rfl (fun K hK => ?_) AllReadyH.nil
                    · go_simp
                      obtain ⟨c0, c1, c2, c3⟩ := (f84_11).cells
                      have d1 : W78.heap.size ≠ W59.heap.size := by have qz78 := z78.out; have qz83 := z83.out; omega
                      have d2 : W59.heap.size ≠ W78.heap.size := fun e => d1 e.symm
                      go_simp
                      have g86 := set_grown ((W84.setCell ⟨W78.heap.size, 0, none⟩ (.int .i64 (x1 : Int))).setCell ⟨W78.heap.size, 1, none⟩ (.int .i64 (x2 : Int))) (W59.heap.size) 0 1 (.int .i64 (y1 : Int)) (.int .i64 (y2 : Int))
                      have b86 : Below V2.heap.size V2 ((((W84.setCell ⟨W78.heap.size, 0, none⟩ (.int .i64 (x1 : Int))).setCell ⟨W78.heap.size, 1, none⟩ (.int .i64 (x2 : Int))).setCell ⟨W59.heap.size, 0, none⟩ (.int .i64 (y1 : Int))).setCell ⟨W59.heap.size, 1, none⟩ (.int .i64 (y2 : Int))) := (b85).grown g86 (b85).size (fun j e => by cases e; exact (b59).size)
                      have f86_11 := ((f85_11).set0 (.int .i64 (y1 : Int))).set1 (.int .i64 (y2 : Int))
                      have f86_10 := (f85_10).kept g86 (by intro e; have := Option.some.inj e; have qz78 := z78.out; have qz83 := z83.out; omega)
                      refine hK _ _ b86 (fun _ => ?_)
                      clear hK K
                      go_simp
                      refine wpAnyH_done (by kernel_rfl) ?_ _
                      have fx := f86_10
                      have fy := f86_11
                      have bz := b86
                      obtain ⟨Z, hZ⟩ : ∃ Z, Z = ((((W84.setCell ⟨W78.heap.size, 0, none⟩ (.int .i64 (x1 : Int))).setCell ⟨W78.heap.size, 1, none⟩ (.int .i64 (x2 : Int))).setCell ⟨W59.heap.size, 0, none⟩ (.int .i64 (y1 : Int))).setCell ⟨W59.heap.size, 1, none⟩ (.int .i64 (y2 : Int))) := ⟨_, rfl⟩
                      rw [← hZ] at fx fy bz
                      rw [← hZ]
                      obtain ⟨e0, e1, _, _⟩ := fx.cells
                      obtain ⟨e2, e3, _, _⟩ := fy.cells
                      have HZ := Lib.hid hZ
                      clear hZ
                      go_wp2_with fail
                      go_ret
                      exact ⟨congrArg (fun z => Ending.returned (.bool z)) HN.out.symm, B3.trans (bz.mono B3.size)⟩
          · go_simp
            obtain ⟨W87, e87⟩ : ∃ W', W' = (wr.alloc (.cells #[.int .i64 0, .int .i64 0] 56)).drew := ⟨_, rfl⟩
            have b87 : Below V2.heap.size V2 W87 := by rw [e87]; exact (hB.alloc hB.size _).drew
            have f87_10 : Lies W87 wr.heap.size #[.int .i64 0, .int .i64 0] 56 := by rw [e87]; exact Lies.new wr #[.int .i64 0, .int .i64 0] 56
            have z87 := Lib.hid (show W87.heap.size = wr.heap.size + 1 by rw [e87]; simp)
            rw [← e87]
            clear e87
            refine hK _ _ b87 (fun _ => ?_)
            clear hK K
            go_simp
            refine wpAnyH_ready (rs := [4, 11]) (by kernel_rfl) (by simp) ?_
            refine AllReadyH.cons rfl (fun K hK => ?_) (AllReadyH.cons rfl (fun K hK => ?_) AllReadyH.nil)
            · go_simp
              go_wp2_with (go_at_call 43; refine (RA' _ b87).mono ?_; rintro e W88 ⟨rfl, h88⟩)
              have b88 := (b87).trans (h88.mono (b87).size)
              have f88_10 := Lies.below f87_10 h88
              have z88 := h88.size
              refine hK _ _ b88 (fun _ => ?_)
              clear hK K h88
              go_simp
              refine wpAnyH_ready (rs := [9, 11]) (by kernel_rfl) (by simp) ?_
              refine AllReadyH.cons rfl (fun K hK => ?_) (AllReadyH.cons rfl (fun K hK => ?_) AllReadyH.nil)
              · go_simp
                go_wp2_with (go_at_call 43; refine (RB' _ b88).mono ?_; rintro e W89 ⟨rfl, h89⟩)
                have b89 := (b88).trans (h89.mono (b88).size)
                have f89_10 := Lies.below f88_10 h89
                have z89 := h89.size
                refine hK _ _ b89 (fun _ => ?_)
                clear hK K h89
                go_simp
                refine wpAnyH_ready (rs := [11]) (by kernel_rfl) (by simp) ?_
                refine AllReadyH.cons rfl (fun K hK => ?_) AllReadyH.nil
                · go_simp
                  obtain ⟨W90, e90⟩ : ∃ W', W' = W89.alloc (.cells #[.int .i64 0, .int .i64 0] 56) := ⟨_, rfl⟩
                  have b90 : Below V2.heap.size V2 W90 := by rw [e90]; exact (b89).alloc (b89).size _
                  have f90_11 : Lies W90 W89.heap.size #[.int .i64 0, .int .i64 0] 56 := by rw [e90]; exact Lies.new W89 #[.int .i64 0, .int .i64 0] 56
                  have f90_10 : Lies W90 wr.heap.size #[.int .i64 0, .int .i64 0] 56 := by rw [e90]; exact Lies.alloc f89_10 _
                  have z90 := Lib.hid (show W90.heap.size = W89.heap.size + 1 by rw [e90]; simp)
                  rw [← e90]
                  clear e90
                  refine hK _ _ b90 (fun _ => ?_)
                  clear hK K
                  go_simp
                  refine wpAnyH_ready (rs := [12]) (by kernel_rfl) (by simp) ?_
                  refine AllReadyH.cons rfl (fun K hK => ?_) AllReadyH.nil
                  · go_simp
                    obtain ⟨c0, c1, c2, c3⟩ := (f90_10).cells
                    go_simp
                    have g91 := set_grown W90 (wr.heap.size) 0 1 (.int .i64 (x1 : Int)) (.int .i64 (x2 : Int))
                    have b91 : Below V2.heap.size V2 ((W90.setCell ⟨wr.heap.size, 0, none⟩ (.int .i64 (x1 : Int))).setCell ⟨wr.heap.size, 1, none⟩ (.int .i64 (x2 : Int))) := (b90).grown g91 (b90).size (fun j e => by cases e; exact (hS).size)
                    have f91_10 := ((f90_10).set0 (.int .i64 (x1 : Int))).set1 (.int .i64 (x2 : Int))
                    have f91_11 := (f90_11).kept g91 (by intro e; have := Option.some.inj e; have qz87 := z87.out; have qz90 := z90.out; omega)
                    refine hK _ _ b91 (fun _ => ?_)
                    clear hK K
                    go_simp
                    refine wpAnyH_ready (rs := [13]) (by kernel_rfl) (by simp) ?_
                    refine AllReadyH.cons rfl (fun K hK => ?_) AllReadyH.nil
                    · go_simp
                      obtain ⟨c0, c1, c2, c3⟩ := (f90_11).cells
                      have d1 : wr.heap.size ≠ W89.heap.size := by have qz87 := z87.out; have qz90 := z90.out; omega
                      have d2 : W89.heap.size ≠ wr.heap.size := fun e => d1 e.symm
                      go_simp
                      have g92 := set_grown ((W90.setCell ⟨wr.heap.size, 0, none⟩ (.int .i64 (x1 : Int))).setCell ⟨wr.heap.size, 1, none⟩ (.int .i64 (x2 : Int))) (W89.heap.size) 0 1 (.int .i64 (y1 : Int)) (.int .i64 (y2 : Int))
                      have b92 : Below V2.heap.size V2 ((((W90.setCell ⟨wr.heap.size, 0, none⟩ (.int .i64 (x1 : Int))).setCell ⟨wr.heap.size, 1, none⟩ (.int .i64 (x2 : Int))).setCell ⟨W89.heap.size, 0, none⟩ (.int .i64 (y1 : Int))).setCell ⟨W89.heap.size, 1, none⟩ (.int .i64 (y2 : Int))) := (b91).grown g92 (b91).size (fun j e => by cases e; exact (b89).size)
                      have f92_11 := ((f91_11).set0 (.int .i64 (y1 : Int))).set1 (.int .i64 (y2 : Int))
                      have f92_10 := (f91_10).kept g92 (by intro e; have := Option.some.inj e; have qz87 := z87.out; have qz90 := z90.out; omega)
                      refine hK _ _ b92 (fun _ => ?_)
                      clear hK K
                      go_simp
                      refine wpAnyH_done (by kernel_rfl) ?_ _
                      have fx := f92_10
                      have fy := f92_11
                      have bz := b92
                      obtain ⟨Z, hZ⟩ : ∃ Z, Z = ((((W90.setCell ⟨wr.heap.size, 0, none⟩ (.int .i64 (x1 : Int))).setCell ⟨wr.heap.size, 1, none⟩ (.int .i64 (x2 : Int))).setCell ⟨W89.heap.size, 0, none⟩ (.int .i64 (y1 : Int))).setCell ⟨W89.heap.size, 1, none⟩ (.int .i64 (y2 : Int))) := ⟨_, rfl⟩
                      rw [← hZ] at fx fy bz
                      rw [← hZ]
                      obtain ⟨e0, e1, _, _⟩ := fx.cells
                      obtain ⟨e2, e3, _, _⟩ := fy.cells
                      have HZ := Lib.hid hZ
                      clear hZ
                      go_wp2_with fail
                      go_ret
                      exact ⟨congrArg (fun z => Ending.returned (.bool z)) HN.out.symm, B3.trans (bz.mono B3.size)⟩
              · go_simp
                obtain ⟨W93, e93⟩ : ∃ W', W' = W88.alloc (.cells #[.int .i64 0, .int .i64 0] 56) := ⟨_, rfl⟩
                have b93 : Below V2.heap.size V2 W93 := by rw [e93]; exact (b88).alloc (b88).size _
                have f93_11 : Lies W93 W88.heap.size #[.int .i64 0, .int .i64 0] 56 := by rw [e93]; exact Lies.new W88 #[.int .i64 0, .int .i64 0] 56
                have f93_10 : Lies W93 wr.heap.size #[.int .i64 0, .int .i64 0] 56 := by rw [e93]; exact Lies.alloc f88_10 _
                have z93 := Lib.hid (show W93.heap.size = W88.heap.size + 1 by rw [e93]; simp)
                rw [← e93]
                clear e93
                refine hK _ _ b93 (fun _ => ?_)
                clear hK K
                go_simp
                refine wpAnyH_ready (rs := [9]) (by kernel_rfl) (by simp) ?_
                refine AllReadyH.cons rfl (fun K hK => ?_) AllReadyH.nil
                · go_simp
                  go_wp2_with (go_at_call 43; refine (RB' _ b93).mono ?_; rintro e W94 ⟨rfl, h94⟩)
                  have b94 := (b93).trans (h94.mono (b93).size)
                  have f94_10 := Lies.below f93_10 h94
                  have f94_11 := Lies.below f93_11 h94
                  have z94 := h94.size
                  refine hK _ _ b94 (fun _ => ?_)
                  clear hK K h94
                  go_simp
                  refine wpAnyH_ready (rs := [12]) (by kernel_rfl) (by simp) ?_
                  refine AllReadyH.cons rfl (fun K hK => ?_) AllReadyH.nil
                  · go_simp
                    obtain ⟨c0, c1, c2, c3⟩ := (f94_10).cells
                    go_simp
                    have g95 := set_grown W94 (wr.heap.size) 0 1 (.int .i64 (x1 : Int)) (.int .i64 (x2 : Int))
                    have b95 : Below V2.heap.size V2 ((W94.setCell ⟨wr.heap.size, 0, none⟩ (.int .i64 (x1 : Int))).setCell ⟨wr.heap.size, 1, none⟩ (.int .i64 (x2 : Int))) := (b94).grown g95 (b94).size (fun j e => by cases e; exact (hS).size)
                    have f95_10 := ((f94_10).set0 (.int .i64 (x1 : Int))).set1 (.int .i64 (x2 : Int))
                    have f95_11 := (f94_11).kept g95 (by intro e; have := Option.some.inj e; have qz87 := z87.out; have qz93 := z93.out; omega)
                    refine hK _ _ b95 (fun _ => ?_)
                    clear hK K
                    go_simp
                    refine wpAnyH_ready (rs := [13]) (by kernel_rfl) (by simp) ?_
                    refine AllReadyH.cons rfl (fun K hK => ?_) AllReadyH.nil
                    · go_simp
                      obtain ⟨c0, c1, c2, c3⟩ := (f94_11).cells
                      have d1 : wr.heap.size ≠ W88.heap.size := by have qz87 := z87.out; have qz93 := z93.out; omega
                      have d2 : W88.heap.size ≠ wr.heap.size := fun e => d1 e.symm
                      go_simp
                      have g96 := set_grown ((W94.setCell ⟨wr.heap.size, 0, none⟩ (.int .i64 (x1 : Int))).setCell ⟨wr.heap.size, 1, none⟩ (.int .i64 (x2 : Int))) (W88.heap.size) 0 1 (.int .i64 (y1 : Int)) (.int .i64 (y2 : Int))
                      have b96 : Below V2.heap.size V2 ((((W94.setCell ⟨wr.heap.size, 0, none⟩ (.int .i64 (x1 : Int))).setCell ⟨wr.heap.size, 1, none⟩ (.int .i64 (x2 : Int))).setCell ⟨W88.heap.size, 0, none⟩ (.int .i64 (y1 : Int))).setCell ⟨W88.heap.size, 1, none⟩ (.int .i64 (y2 : Int))) := (b95).grown g96 (b95).size (fun j e => by cases e; exact (b88).size)
                      have f96_11 := ((f95_11).set0 (.int .i64 (y1 : Int))).set1 (.int .i64 (y2 : Int))
                      have f96_10 := (f95_10).kept g96 (by intro e; have := Option.some.inj e; have qz87 := z87.out; have qz93 := z93.out; omega)
                      refine hK _ _ b96 (fun _ => ?_)
                      clear hK K
                      go_simp
                      refine wpAnyH_done (by kernel_rfl) ?_ _
                      have fx := f96_10
                      have fy := f96_11
                      have bz := b96
                      obtain ⟨Z, hZ⟩ : ∃ Z, Z = ((((W94.setCell ⟨wr.heap.size, 0, none⟩ (.int .i64 (x1 : Int))).setCell ⟨wr.heap.size, 1, none⟩ (.int .i64 (x2 : Int))).setCell ⟨W88.heap.size, 0, none⟩ (.int .i64 (y1 : Int))).setCell ⟨W88.heap.size, 1, none⟩ (.int .i64 (y2 : Int))) := ⟨_, rfl⟩
                      rw [← hZ] at fx fy bz
                      rw [← hZ]
                      obtain ⟨e0, e1, _, _⟩ := fx.cells
                      obtain ⟨e2, e3, _, _⟩ := fy.cells
                      have HZ := Lib.hid hZ
                      clear hZ
                      go_wp2_with fail
                      go_ret
                      exact ⟨congrArg (fun z => Ending.returned (.bool z)) HN.out.symm, B3.trans (bz.mono B3.size)⟩
            · go_simp
              obtain ⟨W97, e97⟩ : ∃ W', W' = W87.alloc (.cells #[.int .i64 0, .int .i64 0] 56) := ⟨_, rfl⟩
              have b97 : Below V2.heap.size V2 W97 := by rw [e97]; exact (b87).alloc (b87).size _
              have f97_11 : Lies W97 W87.heap.size #[.int .i64 0, .int .i64 0] 56 := by rw [e97]; exact Lies.new W87 #[.int .i64 0, .int .i64 0] 56
              have f97_10 : Lies W97 wr.heap.size #[.int .i64 0, .int .i64 0] 56 := by rw [e97]; exact Lies.alloc f87_10 _
              have z97 := Lib.hid (show W97.heap.size = W87.heap.size + 1 by rw [e97]; simp)
              rw [← e97]
              clear e97
              refine hK _ _ b97 (fun _ => ?_)
              clear hK K
              go_simp
              refine wpAnyH_ready (rs := [4]) (by kernel_rfl) (by simp) ?_
              refine AllReadyH.cons rfl (fun K hK => ?_) AllReadyH.nil
              · go_simp
                go_wp2_with (go_at_call 43; refine (RA' _ b97).mono ?_; rintro e W98 ⟨rfl, h98⟩)
                have b98 := (b97).trans (h98.mono (b97).size)
                have f98_10 := Lies.below f97_10 h98
                have f98_11 := Lies.below f97_11 h98
                have z98 := h98.size
                refine hK _ _ b98 (fun _ => ?_)
                clear hK K h98
                go_simp
                refine wpAnyH_ready (rs := [9]) (by kernel_rfl) (by simp) ?_
                refine AllReadyH.cons rfl (fun K hK => ?_) AllReadyH.nil
                · go_simp
                  go_wp2_with (go_at_call 43; refine (RB' _ b98).mono ?_; rintro e W99 ⟨rfl, h99⟩)
                  have b99 := (b98).trans (h99.mono (b98).size)
                  have f99_10 := Lies.below f98_10 h99
                  have f99_11 := Lies.below f98_11 h99
                  have z99 := h99.size
                  refine hK _ _ b99 (fun _ => ?_)
                  clear hK K h99
                  go_simp
                  refine wpAnyH_ready (rs := [12]) (by kernel_rfl) (by simp) ?_
                  refine AllReadyH.cons rfl (fun K hK => ?_) AllReadyH.nil
                  · go_simp
                    obtain ⟨c0, c1, c2, c3⟩ := (f99_10).cells
                    go_simp
                    have g100 := set_grown W99 (wr.heap.size) 0 1 (.int .i64 (x1 : Int)) (.int .i64 (x2 : Int))
                    have b100 : Below V2.heap.size V2 ((W99.setCell ⟨wr.heap.size, 0, none⟩ (.int .i64 (x1 : Int))).setCell ⟨wr.heap.size, 1, none⟩ (.int .i64 (x2 : Int))) := (b99).grown g100 (b99).size (fun j e => by cases e; exact (hS).size)
                    have f100_10 := ((f99_10).set0 (.int .i64 (x1 : Int))).set1 (.int .i64 (x2 : Int))
                    have f100_11 := (f99_11).kept g100 (by intro e; have := Option.some.inj e; have qz87 := z87.out; have qz97 := z97.out; omega)
                    refine hK _ _ b100 (fun _ => ?_)
                    clear hK K
                    go_simp
                    refine wpAnyH_ready (rs := [13]) (by kernel_rfl) (by simp) ?_
                    refine AllReadyH.cons rfl (fun K hK => ?_) AllReadyH.nil
                    · go_simp
                      obtain ⟨c0, c1, c2, c3⟩ := (f99_11).cells
                      have d1 : wr.heap.size ≠ W87.heap.size := by have qz87 := z87.out; have qz97 := z97.out; omega
                      have d2 : W87.heap.size ≠ wr.heap.size := fun e => d1 e.symm
                      go_simp
                      have g101 := set_grown ((W99.setCell ⟨wr.heap.size, 0, none⟩ (.int .i64 (x1 : Int))).setCell ⟨wr.heap.size, 1, none⟩ (.int .i64 (x2 : Int))) (W87.heap.size) 0 1 (.int .i64 (y1 : Int)) (.int .i64 (y2 : Int))
                      have b101 : Below V2.heap.size V2 ((((W99.setCell ⟨wr.heap.size, 0, none⟩ (.int .i64 (x1 : Int))).setCell ⟨wr.heap.size, 1, none⟩ (.int .i64 (x2 : Int))).setCell ⟨W87.heap.size, 0, none⟩ (.int .i64 (y1 : Int))).setCell ⟨W87.heap.size, 1, none⟩ (.int .i64 (y2 : Int))) := (b100).grown g101 (b100).size (fun j e => by cases e; exact (b87).size)
                      have f101_11 := ((f100_11).set0 (.int .i64 (y1 : Int))).set1 (.int .i64 (y2 : Int))
                      have f101_10 := (f100_10).kept g101 (by intro e; have := Option.some.inj e; have qz87 := z87.out; have qz97 := z97.out; omega)
                      refine hK _ _ b101 (fun _ => ?_)
                      clear hK K
                      go_simp
                      refine wpAnyH_done (by kernel_rfl) ?_ _
                      have fx := f101_10
                      have fy := f101_11
                      have bz := b101
                      obtain ⟨Z, hZ⟩ : ∃ Z, Z = ((((W99.setCell ⟨wr.heap.size, 0, none⟩ (.int .i64 (x1 : Int))).setCell ⟨wr.heap.size, 1, none⟩ (.int .i64 (x2 : Int))).setCell ⟨W87.heap.size, 0, none⟩ (.int .i64 (y1 : Int))).setCell ⟨W87.heap.size, 1, none⟩ (.int .i64 (y2 : Int))) := ⟨_, rfl⟩
                      rw [← hZ] at fx fy bz
                      rw [← hZ]
                      obtain ⟨e0, e1, _, _⟩ := fx.cells
                      obtain ⟨e2, e3, _, _⟩ := fy.cells
                      have HZ := Lib.hid hZ
                      clear hZ
                      go_wp2_with fail
                      go_ret
                      exact ⟨congrArg (fun z => Ending.returned (.bool z)) HN.out.symm, B3.trans (bz.mono B3.size)⟩
          · go_simp
            obtain ⟨W102, e102⟩ : ∃ W', W' = (wr.alloc (.cells #[.int .i64 0, .int .i64 0] 56)).drew := ⟨_, rfl⟩
            have b102 : Below V2.heap.size V2 W102 := by rw [e102]; exact (hB.alloc hB.size _).drew
            have f102_11 : Lies W102 wr.heap.size #[.int .i64 0, .int .i64 0] 56 := by rw [e102]; exact Lies.new wr #[.int .i64 0, .int .i64 0] 56
            have z102 := Lib.hid (show W102.heap.size = wr.heap.size + 1 by rw [e102]; simp)
            rw [← e102]
            clear e102
            refine hK _ _ b102 (fun _ => ?_)
            clear hK K
            go_simp
            refine wpAnyH_ready (rs := [4, 10]) (by kernel_rfl) (by simp) ?_
            refine AllReadyH.cons rfl (fun K hK => ?_) (AllReadyH.cons rfl (fun K hK => ?_) AllReadyH.nil)
            · go_simp
              go_wp2_with (go_at_call 43; refine (RA' _ b102).mono ?_; rintro e W103 ⟨rfl, h103⟩)
              have b103 := (b102).trans (h103.mono (b102).size)
              have f103_11 := Lies.below f102_11 h103
              have z103 := h103.size
              refine hK _ _ b103 (fun _ => ?_)
              clear hK K h103
              go_simp
              refine wpAnyH_ready (rs := [9, 10]) (by kernel_rfl) (by simp) ?_
              refine AllReadyH.cons rfl (fun K hK => ?_) (AllReadyH.cons rfl (fun K hK => ?_) AllReadyH.nil)
              · go_simp
                go_wp2_with (go_at_call 43; refine (RB' _ b103).mono ?_; rintro e W104 ⟨rfl, h104⟩)
                have b104 := (b103).trans (h104.mono (b103).size)
                have f104_11 := Lies.below f103_11 h104
                have z104 := h104.size
                refine hK _ _ b104 (fun _ => ?_)
                clear hK K h104
                go_simp
                refine wpAnyH_ready (rs := [10]) (by kernel_rfl) (by simp) ?_
                refine AllReadyH.cons rfl (fun K hK => ?_) AllReadyH.nil
                · go_simp
                  obtain ⟨W105, e105⟩ : ∃ W', W' = W104.alloc (.cells #[.int .i64 0, .int .i64 0] 56) := ⟨_, rfl⟩
                  have b105 : Below V2.heap.size V2 W105 := by rw [e105]; exact (b104).alloc (b104).size _
                  have f105_10 : Lies W105 W104.heap.size #[.int .i64 0, .int .i64 0] 56 := by rw [e105]; exact Lies.new W104 #[.int .i64 0, .int .i64 0] 56
                  have f105_11 : Lies W105 wr.heap.size #[.int .i64 0, .int .i64 0] 56 := by rw [e105]; exact Lies.alloc f104_11 _
                  have z105 := Lib.hid (show W105.heap.size = W104.heap.size + 1 by rw [e105]; simp)
                  rw [← e105]
                  clear e105
                  refine hK _ _ b105 (fun _ => ?_)
                  clear hK K
                  go_simp
                  refine wpAnyH_ready (rs := [12]) (by kernel_rfl) (by simp) ?_
                  refine AllReadyH.cons rfl (fun K hK => ?_) AllReadyH.nil
                  · go_simp
                    obtain ⟨c0, c1, c2, c3⟩ := (f105_10).cells
                    go_simp
                    have g106 := set_grown W105 (W104.heap.size) 0 1 (.int .i64 (x1 : Int)) (.int .i64 (x2 : Int))
                    have b106 : Below V2.heap.size V2 ((W105.setCell ⟨W104.heap.size, 0, none⟩ (.int .i64 (x1 : Int))).setCell ⟨W104.heap.size, 1, none⟩ (.int .i64 (x2 : Int))) := (b105).grown g106 (b105).size (fun j e => by cases e; exact (b104).size)
                    have f106_10 := ((f105_10).set0 (.int .i64 (x1 : Int))).set1 (.int .i64 (x2 : Int))
                    have f106_11 := (f105_11).kept g106 (by intro e; have := Option.some.inj e; have qz102 := z102.out; have qz105 := z105.out; omega)
                    refine hK _ _ b106 (fun _ => ?_)
                    clear hK K
                    go_simp
                    refine wpAnyH_ready (rs := [13]) (by kernel_rfl) (by simp) ?_
                    refine AllReadyH.cons rfl (fun K hK => ?_) AllReadyH.nil
                    · go_simp
                      obtain ⟨c0, c1, c2, c3⟩ := (f105_11).cells
                      have d1 : W104.heap.size ≠ wr.heap.size := by have qz102 := z102.out; have qz105 := z105.out; omega
                      have d2 : wr.heap.size ≠ W104.heap.size := fun e => d1 e.symm
                      go_simp
                      have g107 := set_grown ((W105.setCell ⟨W104.heap.size, 0, none⟩ (.int .i64 (x1 : Int))).setCell ⟨W104.heap.size, 1, none⟩ (.int .i64 (x2 : Int))) (wr.heap.size) 0 1 (.int .i64 (y1 : Int)) (.int .i64 (y2 : Int))
                      have b107 : Below V2.heap.size V2 ((((W105.setCell ⟨W104.heap.size, 0, none⟩ (.int .i64 (x1 : Int))).setCell ⟨W104.heap.size, 1, none⟩ (.int .i64 (x2 : Int))).setCell ⟨wr.heap.size, 0, none⟩ (.int .i64 (y1 : Int))).setCell ⟨wr.heap.size, 1, none⟩ (.int .i64 (y2 : Int))) := (b106).grown g107 (b106).size (fun j e => by cases e; exact (hS).size)
                      have f107_11 := ((f106_11).set0 (.int .i64 (y1 : Int))).set1 (.int .i64 (y2 : Int))
                      have f107_10 := (f106_10).kept g107 (by intro e; have := Option.some.inj e; have qz102 := z102.out; have qz105 := z105.out; omega)
                      refine hK _ _ b107 (fun _ => ?_)
                      clear hK K
                      go_simp
                      refine wpAnyH_done (by kernel_rfl) ?_ _
                      have fx := f107_10
                      have fy := f107_11
                      have bz := b107
                      obtain ⟨Z, hZ⟩ : ∃ Z, Z = ((((W105.setCell ⟨W104.heap.size, 0, none⟩ (.int .i64 (x1 : Int))).setCell ⟨W104.heap.size, 1, none⟩ (.int .i64 (x2 : Int))).setCell ⟨wr.heap.size, 0, none⟩ (.int .i64 (y1 : Int))).setCell ⟨wr.heap.size, 1, none⟩ (.int .i64 (y2 : Int))) := ⟨_, rfl⟩
                      rw [← hZ] at fx fy bz
                      rw [← hZ]
                      obtain ⟨e0, e1, _, _⟩ := fx.cells
                      obtain ⟨e2, e3, _, _⟩ := fy.cells
                      have HZ := Lib.hid hZ
                      clear hZ
                      go_wp2_with fail
                      go_ret
                      exact ⟨congrArg (fun z => Ending.returned (.bool z)) HN.out.symm, B3.trans (bz.mono B3.size)⟩
              · go_simp
                obtain ⟨W108, e108⟩ : ∃ W', W' = W103.alloc (.cells #[.int .i64 0, .int .i64 0] 56) := ⟨_, rfl⟩
                have b108 : Below V2.heap.size V2 W108 := by rw [e108]; exact (b103).alloc (b103).size _
                have f108_10 : Lies W108 W103.heap.size #[.int .i64 0, .int .i64 0] 56 := by rw [e108]; exact Lies.new W103 #[.int .i64 0, .int .i64 0] 56
                have f108_11 : Lies W108 wr.heap.size #[.int .i64 0, .int .i64 0] 56 := by rw [e108]; exact Lies.alloc f103_11 _
                have z108 := Lib.hid (show W108.heap.size = W103.heap.size + 1 by rw [e108]; simp)
                rw [← e108]
                clear e108
                refine hK _ _ b108 (fun _ => ?_)
                clear hK K
                go_simp
                refine wpAnyH_ready (rs := [9]) (by kernel_rfl) (by simp) ?_
                refine AllReadyH.cons rfl (fun K hK => ?_) AllReadyH.nil
                · go_simp
                  go_wp2_with (go_at_call 43; refine (RB' _ b108).mono ?_; rintro e W109 ⟨rfl, h109⟩)
                  have b109 := (b108).trans (h109.mono (b108).size)
                  have f109_11 := Lies.below f108_11 h109
                  have f109_10 := Lies.below f108_10 h109
                  have z109 := h109.size
                  refine hK _ _ b109 (fun _ => ?_)
                  clear hK K h109
                  go_simp
                  refine wpAnyH_ready (rs := [12]) (by kernel_rfl) (by simp) ?_
                  refine AllReadyH.cons rfl (fun K hK => ?_) AllReadyH.nil
                  · go_simp
                    obtain ⟨c0, c1, c2, c3⟩ := (f109_10).cells
                    go_simp
                    have g110 := set_grown W109 (W103.heap.size) 0 1 (.int .i64 (x1 : Int)) (.int .i64 (x2 : Int))
                    have b110 : Below V2.heap.size V2 ((W109.setCell ⟨W103.heap.size, 0, none⟩ (.int .i64 (x1 : Int))).setCell ⟨W103.heap.size, 1, none⟩ (.int .i64 (x2 : Int))) := (b109).grown g110 (b109).size (fun j e => by cases e; exact (b103).size)
                    have f110_10 := ((f109_10).set0 (.int .i64 (x1 : Int))).set1 (.int .i64 (x2 : Int))
                    have f110_11 := (f109_11).kept g110 (by intro e; have := Option.some.inj e; have qz102 := z102.out; have qz108 := z108.out; omega)
                    refine hK _ _ b110 (fun _ => ?_)
                    clear hK K
                    go_simp
                    refine wpAnyH_ready (rs := [13]) (by kernel_rfl) (by simp) ?_
                    refine AllReadyH.cons rfl (fun K hK => ?_) AllReadyH.nil
                    · go_simp
                      obtain ⟨c0, c1, c2, c3⟩ := (f109_11).cells
                      have d1 : W103.heap.size ≠ wr.heap.size := by have qz102 := z102.out; have qz108 := z108.out; omega
                      have d2 : wr.heap.size ≠ W103.heap.size := fun e => d1 e.symm
                      go_simp
                      have g111 := set_grown ((W109.setCell ⟨W103.heap.size, 0, none⟩ (.int .i64 (x1 : Int))).setCell ⟨W103.heap.size, 1, none⟩ (.int .i64 (x2 : Int))) (wr.heap.size) 0 1 (.int .i64 (y1 : Int)) (.int .i64 (y2 : Int))
                      have b111 : Below V2.heap.size V2 ((((W109.setCell ⟨W103.heap.size, 0, none⟩ (.int .i64 (x1 : Int))).setCell ⟨W103.heap.size, 1, none⟩ (.int .i64 (x2 : Int))).setCell ⟨wr.heap.size, 0, none⟩ (.int .i64 (y1 : Int))).setCell ⟨wr.heap.size, 1, none⟩ (.int .i64 (y2 : Int))) := (b110).grown g111 (b110).size (fun j e => by cases e; exact (hS).size)
                      have f111_11 := ((f110_11).set0 (.int .i64 (y1 : Int))).set1 (.int .i64 (y2 : Int))
                      have f111_10 := (f110_10).kept g111 (by intro e; have := Option.some.inj e; have qz102 := z102.out; have qz108 := z108.out; omega)
                      refine hK _ _ b111 (fun _ => ?_)
                      clear hK K
                      go_simp
                      refine wpAnyH_done (by kernel_rfl) ?_ _
                      have fx := f111_10
                      have fy := f111_11
                      have bz := b111
                      obtain ⟨Z, hZ⟩ : ∃ Z, Z = ((((W109.setCell ⟨W103.heap.size, 0, none⟩ (.int .i64 (x1 : Int))).setCell ⟨W103.heap.size, 1, none⟩ (.int .i64 (x2 : Int))).setCell ⟨wr.heap.size, 0, none⟩ (.int .i64 (y1 : Int))).setCell ⟨wr.heap.size, 1, none⟩ (.int .i64 (y2 : Int))) := ⟨_, rfl⟩
                      rw [← hZ] at fx fy bz
                      rw [← hZ]
                      obtain ⟨e0, e1, _, _⟩ := fx.cells
                      obtain ⟨e2, e3, _, _⟩ := fy.cells
                      have HZ := Lib.hid hZ
                      clear hZ
                      go_wp2_with fail
                      go_ret
                      exact ⟨congrArg (fun z => Ending.returned (.bool z)) HN.out.symm, B3.trans (bz.mono B3.size)⟩
            · go_simp
              obtain ⟨W112, e112⟩ : ∃ W', W' = W102.alloc (.cells #[.int .i64 0, .int .i64 0] 56) := ⟨_, rfl⟩
              have b112 : Below V2.heap.size V2 W112 := by rw [e112]; exact (b102).alloc (b102).size _
              have f112_10 : Lies W112 W102.heap.size #[.int .i64 0, .int .i64 0] 56 := by rw [e112]; exact Lies.new W102 #[.int .i64 0, .int .i64 0] 56
              have f112_11 : Lies W112 wr.heap.size #[.int .i64 0, .int .i64 0] 56 := by rw [e112]; exact Lies.alloc f102_11 _
              have z112 := Lib.hid (show W112.heap.size = W102.heap.size + 1 by rw [e112]; simp)
              rw [← e112]
              clear e112
              refine hK _ _ b112 (fun _ => ?_)
              clear hK K
              go_simp
              refine wpAnyH_ready (rs := [4]) (by kernel_rfl) (by simp) ?_
              refine AllReadyH.cons rfl (fun K hK => ?_) AllReadyH.nil
              · go_simp
                go_wp2_with (go_at_call 43; refine (RA' _ b112).mono ?_; rintro e W113 ⟨rfl, h113⟩)
                have b113 := (b112).trans (h113.mono (b112).size)
                have f113_11 := Lies.below f112_11 h113
                have f113_10 := Lies.below f112_10 h113
                have z113 := h113.size
                refine hK _ _ b113 (fun _ => ?_)
                clear hK K h113
                go_simp
                refine wpAnyH_ready (rs := [9]) (by kernel_rfl) (by simp) ?_
                refine AllReadyH.cons rfl (fun K hK => ?_) AllReadyH.nil
                · go_simp
                  go_wp2_with (go_at_call 43; refine (RB' _ b113).mono ?_; rintro e W114 ⟨rfl, h114⟩)
                  have b114 := (b113).trans (h114.mono (b113).size)
                  have f114_11 := Lies.below f113_11 h114
                  have f114_10 := Lies.below f113_10 h114
                  have z114 := h114.size
                  refine hK _ _ b114 (fun _ => ?_)
                  clear hK K h114
                  go_simp
                  refine wpAnyH_ready (rs := [12]) (by kernel_rfl) (by simp) ?_
                  refine AllReadyH.cons rfl (fun K hK => ?_) AllReadyH.nil
                  · go_simp
                    obtain ⟨c0, c1, c2, c3⟩ := (f114_10).cells
                    go_simp
                    have g115 := set_grown W114 (W102.heap.size) 0 1 (.int .i64 (x1 : Int)) (.int .i64 (x2 : Int))
                    have b115 : Below V2.heap.size V2 ((W114.setCell ⟨W102.heap.size, 0, none⟩ (.int .i64 (x1 : Int))).setCell ⟨W102.heap.size, 1, none⟩ (.int .i64 (x2 : Int))) := (b114).grown g115 (b114).size (fun j e => by cases e; exact (b102).size)
                    have f115_10 := ((f114_10).set0 (.int .i64 (x1 : Int))).set1 (.int .i64 (x2 : Int))
                    have f115_11 := (f114_11).kept g115 (by intro e; have := Option.some.inj e; have qz102 := z102.out; have qz112 := z112.out; omega)
                    refine hK _ _ b115 (fun _ => ?_)
                    clear hK K
                    go_simp
                    refine wpAnyH_ready (rs := [13]) (by kernel_rfl) (by simp) ?_
                    refine AllReadyH.cons rfl (fun K hK => ?_) AllReadyH.nil
                    · go_simp
                      obtain ⟨c0, c1, c2, c3⟩ := (f114_11).cells
                      have d1 : W102.heap.size ≠ wr.heap.size := by have qz102 := z102.out; have qz112 := z112.out; omega
                      have d2 : wr.heap.size ≠ W102.heap.size := fun e => d1 e.symm
                      go_simp
                      have g116 := set_grown ((W114.setCell ⟨W102.heap.size, 0, none⟩ (.int .i64 (x1 : Int))).setCell ⟨W102.heap.size, 1, none⟩ (.int .i64 (x2 : Int))) (wr.heap.size) 0 1 (.int .i64 (y1 : Int)) (.int .i64 (y2 : Int))
                      have b116 : Below V2.heap.size V2 ((((W114.setCell ⟨W102.heap.size, 0, none⟩ (.int .i64 (x1 : Int))).setCell ⟨W102.heap.size, 1, none⟩ (.int .i64 (x2 : Int))).setCell ⟨wr.heap.size, 0, none⟩ (.int .i64 (y1 : Int))).setCell ⟨wr.heap.size, 1, none⟩ (.int .i64 (y2 : Int))) := (b115).grown g116 (b115).size (fun j e => by cases e; exact (hS).size)
                      have f116_11 := ((f115_11).set0 (.int .i64 (y1 : Int))).set1 (.int .i64 (y2 : Int))
                      have f116_10 := (f115_10).kept g116 (by intro e; have := Option.some.inj e; have qz102 := z102.out; have qz112 := z112.out; omega)
                      refine hK _ _ b116 (fun _ => ?_)
                      clear hK K
                      go_simp
                      refine wpAnyH_done (by kernel_rfl) ?_ _
                      have fx := f116_10
                      have fy := f116_11
                      have bz := b116
                      obtain ⟨Z, hZ⟩ : ∃ Z, Z = ((((W114.setCell ⟨W102.heap.size, 0, none⟩ (.int .i64 (x1 : Int))).setCell ⟨W102.heap.size, 1, none⟩ (.int .i64 (x2 : Int))).setCell ⟨wr.heap.size, 0, none⟩ (.int .i64 (y1 : Int))).setCell ⟨wr.heap.size, 1, none⟩ (.int .i64 (y2 : Int))) := ⟨_, rfl⟩
                      rw [← hZ] at fx fy bz
                      rw [← hZ]
                      obtain ⟨e0, e1, _, _⟩ := fx.cells
                      obtain ⟨e2, e3, _, _⟩ := fy.cells
                      have HZ := Lib.hid hZ
                      clear hZ
                      go_wp2_with fail
                      go_ret
                      exact ⟨congrArg (fun z => Ending.returned (.bool z)) HN.out.symm, B3.trans (bz.mono B3.size)⟩
        | false =>
          have HN := Lib.hid (show ∀ j, j < k + 1 → sameAt (mixR r u 9) u j = true by
            intro j hj
            rcases Nat.lt_or_ge j k with h | h
            · exact HH.out.1 j h
            · obtain rfl : j = k := by omega
              rw [HH.out.2, t1, t2]; rfl)
          go_wp2_with fail
          refine wp_region_held (S := fun w' => Below V2.heap.size V2 w') (by kernel_rfl) ?_
          have hS : Below V2.heap.size V2 wr.drew := hB.drew
          refine wpAnyH_take (i := 0) (v := .agg #[.int .u8 k1, .string s1, .slice ad1 n1 cap1]) rfl (by kernel_rfl) (by kernel_rfl) (by kernel_rfl) (fun _ _ _ h => h) (Or.inl ⟨by rfl, fun w hw => by obtain ⟨l0, l1, l2, _⟩ := Var.cells (lies_kept hw Y1); obtain ⟨m0, m1, m2, _⟩ := Var.cells (lies_kept hw Y2); first | (go_simp; done) | rfl⟩) hS ?_
          go_simp
          refine wpAnyH_take (i := 1) (v := .int .i64 (k : Int)) rfl (by kernel_rfl) (by kernel_rfl) (by kernel_rfl) (fun _ _ _ h => h) (Or.inl ⟨by rfl, fun w hw => by go_simp⟩) hS ?_
          go_simp
          refine wpAnyH_take (i := 2) (v := .int .u64 (k : Int)) rfl (by kernel_rfl) (by kernel_rfl) (by kernel_rfl) (fun _ _ _ h => h) (Or.inl ⟨by rfl, fun w hw => by go_simp⟩) hS ?_
          go_simp
          refine wpAnyH_take (i := 3) (v := .int .i64 (c : Int)) rfl (by kernel_rfl) (by kernel_rfl) (by kernel_rfl) (fun _ _ _ h => h) (Or.inl ⟨by rfl, fun w hw => by go_simp⟩) hS ?_
          go_simp
          refine wpAnyH_take (i := 5) (v := .agg #[.int .u8 k2, .string s2, .slice ad2 n2 cap2]) rfl (by kernel_rfl) (by kernel_rfl) (by kernel_rfl) (fun _ _ _ h => h) (Or.inl ⟨by rfl, fun w hw => by obtain ⟨l0, l1, l2, _⟩ := Var.cells (lies_kept hw Y1); obtain ⟨m0, m1, m2, _⟩ := Var.cells (lies_kept hw Y2); first | (go_simp; done) | rfl⟩) hS ?_
          go_simp
          refine wpAnyH_take (i := 6) (v := .int .i64 (k : Int)) rfl (by kernel_rfl) (by kernel_rfl) (by kernel_rfl) (fun _ _ _ h => h) (Or.inl ⟨by rfl, fun w hw => by go_simp⟩) hS ?_
          go_simp
          refine wpAnyH_take (i := 7) (v := .int .u64 (k : Int)) rfl (by kernel_rfl) (by kernel_rfl) (by kernel_rfl) (fun _ _ _ h => h) (Or.inl ⟨by rfl, fun w hw => by go_simp⟩) hS ?_
          go_simp
          refine wpAnyH_take (i := 8) (v := .int .i64 (c : Int)) rfl (by kernel_rfl) (by kernel_rfl) (by kernel_rfl) (fun _ _ _ h => h) (Or.inl ⟨by rfl, fun w hw => by go_simp⟩) hS ?_
          go_simp
          refine wpAnyH_ready (rs := [4, 10, 11]) (by kernel_rfl) (by simp) ?_
          refine AllReadyH.cons rfl (fun K hK => ?_) (AllReadyH.cons rfl (fun K hK => ?_) (AllReadyH.cons rfl (fun K hK => ?_) AllReadyH.nil))
          · go_simp
            go_wp2_with (go_at_call 43; refine (RA' _ hS).mono ?_; rintro e W117 ⟨rfl, h117⟩)
            have b117 := (hS).trans (h117.mono (hS).size)
            have z117 := h117.size
            refine hK _ _ b117 (fun _ => ?_)
            clear hK K h117
            go_simp
            refine wpAnyH_ready (rs := [9, 10, 11]) (by kernel_rfl) (by simp) ?_
            refine AllReadyH.cons rfl (fun K hK => ?_) (AllReadyH.cons rfl (fun K hK => ?_) (AllReadyH.cons rfl (fun K hK => ?_) AllReadyH.nil))
            · go_simp
              go_wp2_with (go_at_call 43; refine (RB' _ b117).mono ?_; rintro e W118 ⟨rfl, h118⟩)
              have b118 := (b117).trans (h118.mono (b117).size)
              have z118 := h118.size
              refine hK _ _ b118 (fun _ => ?_)
              clear hK K h118
              go_simp
              refine wpAnyH_ready (rs := [10, 11]) (by kernel_rfl) (by simp) ?_
              refine AllReadyH.cons rfl (fun K hK => ?_) (AllReadyH.cons rfl (fun K hK => ?_) AllReadyH.nil)
              · go_simp
                obtain ⟨W119, e119⟩ : ∃ W', W' = W118.alloc (.cells #[.int .i64 0, .int .i64 0] 56) := ⟨_, rfl⟩
                have b119 : Below V2.heap.size V2 W119 := by rw [e119]; exact (b118).alloc (b118).size _
                have f119_10 : Lies W119 W118.heap.size #[.int .i64 0, .int .i64 0] 56 := by rw [e119]; exact Lies.new W118 #[.int .i64 0, .int .i64 0] 56
                have z119 := Lib.hid (show W119.heap.size = W118.heap.size + 1 by rw [e119]; simp)
                rw [← e119]
                clear e119
                refine hK _ _ b119 (fun _ => ?_)
                clear hK K
                go_simp
                refine wpAnyH_ready (rs := [11]) (by kernel_rfl) (by simp) ?_
                refine AllReadyH.cons rfl (fun K hK => ?_) AllReadyH.nil
                · go_simp
                  obtain ⟨W120, e120⟩ : ∃ W', W' = W119.alloc (.cells #[.int .i64 0, .int .i64 0] 56) := ⟨_, rfl⟩
                  have b120 : Below V2.heap.size V2 W120 := by rw [e120]; exact (b119).alloc (b119).size _
                  have f120_11 : Lies W120 W119.heap.size #[.int .i64 0, .int .i64 0] 56 := by rw [e120]; exact Lies.new W119 #[.int .i64 0, .int .i64 0] 56
                  have f120_10 : Lies W120 W118.heap.size #[.int .i64 0, .int .i64 0] 56 := by rw [e120]; exact Lies.alloc f119_10 _
                  have z120 := Lib.hid (show W120.heap.size = W119.heap.size + 1 by rw [e120]; simp)
                  rw [← e120]
                  clear e120
                  refine hK _ _ b120 (fun _ => ?_)
                  clear hK K
                  go_simp
                  refine wpAnyH_ready (rs := [12]) (by kernel_rfl) (by simp) ?_
                  refine AllReadyH.cons rfl (fun K hK => ?_) AllReadyH.nil
                  · go_simp
                    obtain ⟨c0, c1, c2, c3⟩ := (f120_10).cells
                    go_simp
                    have g121 := set_grown W120 (W118.heap.size) 0 1 (.int .i64 (x1 : Int)) (.int .i64 (x2 : Int))
                    have b121 : Below V2.heap.size V2 ((W120.setCell ⟨W118.heap.size, 0, none⟩ (.int .i64 (x1 : Int))).setCell ⟨W118.heap.size, 1, none⟩ (.int .i64 (x2 : Int))) := (b120).grown g121 (b120).size (fun j e => by cases e; exact (b118).size)
                    have f121_10 := ((f120_10).set0 (.int .i64 (x1 : Int))).set1 (.int .i64 (x2 : Int))
                    have f121_11 := (f120_11).kept g121 (by intro e; have := Option.some.inj e; have qz119 := z119.out; have qz120 := z120.out; omega)
                    refine hK _ _ b121 (fun _ => ?_)
                    clear hK K
                    go_simp
                    refine wpAnyH_ready (rs := [13]) (by kernel_rfl) (by simp) ?_
                    refine AllReadyH.cons rfl (fun K hK => ?_) AllReadyH.nil
                    · go_simp
                      obtain ⟨c0, c1, c2, c3⟩ := (f120_11).cells
                      have d1 : W118.heap.size ≠ W119.heap.size := by have qz119 := z119.out; have qz120 := z120.out; omega
                      have d2 : W119.heap.size ≠ W118.heap.size := fun e => d1 e.symm
                      go_simp
                      have g122 := set_grown ((W120.setCell ⟨W118.heap.size, 0, none⟩ (.int .i64 (x1 : Int))).setCell ⟨W118.heap.size, 1, none⟩ (.int .i64 (x2 : Int))) (W119.heap.size) 0 1 (.int .i64 (y1 : Int)) (.int .i64 (y2 : Int))
                      have b122 : Below V2.heap.size V2 ((((W120.setCell ⟨W118.heap.size, 0, none⟩ (.int .i64 (x1 : Int))).setCell ⟨W118.heap.size, 1, none⟩ (.int .i64 (x2 : Int))).setCell ⟨W119.heap.size, 0, none⟩ (.int .i64 (y1 : Int))).setCell ⟨W119.heap.size, 1, none⟩ (.int .i64 (y2 : Int))) := (b121).grown g122 (b121).size (fun j e => by cases e; exact (b119).size)
                      have f122_11 := ((f121_11).set0 (.int .i64 (y1 : Int))).set1 (.int .i64 (y2 : Int))
                      have f122_10 := (f121_10).kept g122 (by intro e; have := Option.some.inj e; have qz119 := z119.out; have qz120 := z120.out; omega)
                      refine hK _ _ b122 (fun _ => ?_)
                      clear hK K
                      go_simp
                      refine wpAnyH_done (by kernel_rfl) ?_ _
                      have fx := f122_10
                      have fy := f122_11
                      have bz := b122
                      obtain ⟨Z, hZ⟩ : ∃ Z, Z = ((((W120.setCell ⟨W118.heap.size, 0, none⟩ (.int .i64 (x1 : Int))).setCell ⟨W118.heap.size, 1, none⟩ (.int .i64 (x2 : Int))).setCell ⟨W119.heap.size, 0, none⟩ (.int .i64 (y1 : Int))).setCell ⟨W119.heap.size, 1, none⟩ (.int .i64 (y2 : Int))) := ⟨_, rfl⟩
                      rw [← hZ] at fx fy bz
                      rw [← hZ]
                      obtain ⟨e0, e1, _, _⟩ := fx.cells
                      obtain ⟨e2, e3, _, _⟩ := fy.cells
                      have HZ := Lib.hid hZ
                      clear hZ
                      go_wp2_with fail
                      exact ⟨⟨k + 1, by omega, by go_num, HN.out, bz⟩, by simp [intOf]; omega⟩
              · go_simp
                obtain ⟨W123, e123⟩ : ∃ W', W' = W118.alloc (.cells #[.int .i64 0, .int .i64 0] 56) := ⟨_, rfl⟩
                have b123 : Below V2.heap.size V2 W123 := by rw [e123]; exact (b118).alloc (b118).size _
                have f123_11 : Lies W123 W118.heap.size #[.int .i64 0, .int .i64 0] 56 := by rw [e123]; exact Lies.new W118 #[.int .i64 0, .int .i64 0] 56
                have z123 := Lib.hid (show W123.heap.size = W118.heap.size + 1 by rw [e123]; simp)
                rw [← e123]
                clear e123
                refine hK _ _ b123 (fun _ => ?_)
                clear hK K
                go_simp
                refine wpAnyH_ready (rs := [10]) (by kernel_rfl) (by simp) ?_
                refine AllReadyH.cons rfl (fun K hK => ?_) AllReadyH.nil
                · go_simp
                  obtain ⟨W124, e124⟩ : ∃ W', W' = W123.alloc (.cells #[.int .i64 0, .int .i64 0] 56) := ⟨_, rfl⟩
                  have b124 : Below V2.heap.size V2 W124 := by rw [e124]; exact (b123).alloc (b123).size _
                  have f124_10 : Lies W124 W123.heap.size #[.int .i64 0, .int .i64 0] 56 := by rw [e124]; exact Lies.new W123 #[.int .i64 0, .int .i64 0] 56
                  have f124_11 : Lies W124 W118.heap.size #[.int .i64 0, .int .i64 0] 56 := by rw [e124]; exact Lies.alloc f123_11 _
                  have z124 := Lib.hid (show W124.heap.size = W123.heap.size + 1 by rw [e124]; simp)
                  rw [← e124]
                  clear e124
                  refine hK _ _ b124 (fun _ => ?_)
                  clear hK K
                  go_simp
                  refine wpAnyH_ready (rs := [12]) (by kernel_rfl) (by simp) ?_
                  refine AllReadyH.cons rfl (fun K hK => ?_) AllReadyH.nil
                  · go_simp
                    obtain ⟨c0, c1, c2, c3⟩ := (f124_10).cells
                    go_simp
                    have g125 := set_grown W124 (W123.heap.size) 0 1 (.int .i64 (x1 : Int)) (.int .i64 (x2 : Int))
                    have b125 : Below V2.heap.size V2 ((W124.setCell ⟨W123.heap.size, 0, none⟩ (.int .i64 (x1 : Int))).setCell ⟨W123.heap.size, 1, none⟩ (.int .i64 (x2 : Int))) := (b124).grown g125 (b124).size (fun j e => by cases e; exact (b123).size)
                    have f125_10 := ((f124_10).set0 (.int .i64 (x1 : Int))).set1 (.int .i64 (x2 : Int))
                    have f125_11 := (f124_11).kept g125 (by intro e; have := Option.some.inj e; have qz123 := z123.out; have qz124 := z124.out; omega)
                    refine hK _ _ b125 (fun _ => ?_)
                    clear hK K
                    go_simp
                    refine wpAnyH_ready (rs := [13]) (by kernel_rfl) (by simp) ?_
                    refine AllReadyH.cons rfl (fun K hK => ?_) AllReadyH.nil
                    · go_simp
                      obtain ⟨c0, c1, c2, c3⟩ := (f124_11).cells
                      have d1 : W123.heap.size ≠ W118.heap.size := by have qz123 := z123.out; have qz124 := z124.out; omega
                      have d2 : W118.heap.size ≠ W123.heap.size := fun e => d1 e.symm
                      go_simp
                      have g126 := set_grown ((W124.setCell ⟨W123.heap.size, 0, none⟩ (.int .i64 (x1 : Int))).setCell ⟨W123.heap.size, 1, none⟩ (.int .i64 (x2 : Int))) (W118.heap.size) 0 1 (.int .i64 (y1 : Int)) (.int .i64 (y2 : Int))
                      have b126 : Below V2.heap.size V2 ((((W124.setCell ⟨W123.heap.size, 0, none⟩ (.int .i64 (x1 : Int))).setCell ⟨W123.heap.size, 1, none⟩ (.int .i64 (x2 : Int))).setCell ⟨W118.heap.size, 0, none⟩ (.int .i64 (y1 : Int))).setCell ⟨W118.heap.size, 1, none⟩ (.int .i64 (y2 : Int))) := (b125).grown g126 (b125).size (fun j e => by cases e; exact (b118).size)
                      have f126_11 := ((f125_11).set0 (.int .i64 (y1 : Int))).set1 (.int .i64 (y2 : Int))
                      have f126_10 := (f125_10).kept g126 (by intro e; have := Option.some.inj e; have qz123 := z123.out; have qz124 := z124.out; omega)
                      refine hK _ _ b126 (fun _ => ?_)
                      clear hK K
                      go_simp
                      refine wpAnyH_done (by kernel_rfl) ?_ _
                      have fx := f126_10
                      have fy := f126_11
                      have bz := b126
                      obtain ⟨Z, hZ⟩ : ∃ Z, Z = ((((W124.setCell ⟨W123.heap.size, 0, none⟩ (.int .i64 (x1 : Int))).setCell ⟨W123.heap.size, 1, none⟩ (.int .i64 (x2 : Int))).setCell ⟨W118.heap.size, 0, none⟩ (.int .i64 (y1 : Int))).setCell ⟨W118.heap.size, 1, none⟩ (.int .i64 (y2 : Int))) := ⟨_, rfl⟩
                      rw [← hZ] at fx fy bz
                      rw [← hZ]
                      obtain ⟨e0, e1, _, _⟩ := fx.cells
                      obtain ⟨e2, e3, _, _⟩ := fy.cells
                      have HZ := Lib.hid hZ
                      clear hZ
                      go_wp2_with fail
                      exact ⟨⟨k + 1, by omega, by go_num, HN.out, bz⟩, by simp [intOf]; omega⟩
            · go_simp
              obtain ⟨W127, e127⟩ : ∃ W', W' = W117.alloc (.cells #[.int .i64 0, .int .i64 0] 56) := ⟨_, rfl⟩
              have b127 : Below V2.heap.size V2 W127 := by rw [e127]; exact (b117).alloc (b117).size _
              have f127_10 : Lies W127 W117.heap.size #[.int .i64 0, .int .i64 0] 56 := by rw [e127]; exact Lies.new W117 #[.int .i64 0, .int .i64 0] 56
              have z127 := Lib.hid (show W127.heap.size = W117.heap.size + 1 by rw [e127]; simp)
              rw [← e127]
              clear e127
              refine hK _ _ b127 (fun _ => ?_)
              clear hK K
              go_simp
              refine wpAnyH_ready (rs := [9, 11]) (by kernel_rfl) (by simp) ?_
              refine AllReadyH.cons rfl (fun K hK => ?_) (AllReadyH.cons rfl (fun K hK => ?_) AllReadyH.nil)
              · go_simp
                go_wp2_with (go_at_call 43; refine (RB' _ b127).mono ?_; rintro e W128 ⟨rfl, h128⟩)
                have b128 := (b127).trans (h128.mono (b127).size)
                have f128_10 := Lies.below f127_10 h128
                have z128 := h128.size
                refine hK _ _ b128 (fun _ => ?_)
                clear hK K h128
                go_simp
                refine wpAnyH_ready (rs := [11]) (by kernel_rfl) (by simp) ?_
                refine AllReadyH.cons rfl (fun K hK => ?_) AllReadyH.nil
                · go_simp
                  obtain ⟨W129, e129⟩ : ∃ W', W' = W128.alloc (.cells #[.int .i64 0, .int .i64 0] 56) := ⟨_, rfl⟩
                  have b129 : Below V2.heap.size V2 W129 := by rw [e129]; exact (b128).alloc (b128).size _
                  have f129_11 : Lies W129 W128.heap.size #[.int .i64 0, .int .i64 0] 56 := by rw [e129]; exact Lies.new W128 #[.int .i64 0, .int .i64 0] 56
                  have f129_10 : Lies W129 W117.heap.size #[.int .i64 0, .int .i64 0] 56 := by rw [e129]; exact Lies.alloc f128_10 _
                  have z129 := Lib.hid (show W129.heap.size = W128.heap.size + 1 by rw [e129]; simp)
                  rw [← e129]
                  clear e129
                  refine hK _ _ b129 (fun _ => ?_)
                  clear hK K
                  go_simp
                  refine wpAnyH_ready (rs := [12]) (by kernel_rfl) (by simp) ?_
                  refine AllReadyH.cons rfl (fun K hK => ?_) AllReadyH.nil
                  · go_simp
                    obtain ⟨c0, c1, c2, c3⟩ := (f129_10).cells
                    go_simp
                    have g130 := set_grown W129 (W117.heap.size) 0 1 (.int .i64 (x1 : Int)) (.int .i64 (x2 : Int))
                    have b130 : Below V2.heap.size V2 ((W129.setCell ⟨W117.heap.size, 0, none⟩ (.int .i64 (x1 : Int))).setCell ⟨W117.heap.size, 1, none⟩ (.int .i64 (x2 : Int))) := (b129).grown g130 (b129).size (fun j e => by cases e; exact (b117).size)
                    have f130_10 := ((f129_10).set0 (.int .i64 (x1 : Int))).set1 (.int .i64 (x2 : Int))
                    have f130_11 := (f129_11).kept g130 (by intro e; have := Option.some.inj e; have qz127 := z127.out; have qz129 := z129.out; omega)
                    refine hK _ _ b130 (fun _ => ?_)
                    clear hK K
                    go_simp
                    refine wpAnyH_ready (rs := [13]) (by kernel_rfl) (by simp) ?_
                    refine AllReadyH.cons rfl (fun K hK => ?_) AllReadyH.nil
                    · go_simp
                      obtain ⟨c0, c1, c2, c3⟩ := (f129_11).cells
                      have d1 : W117.heap.size ≠ W128.heap.size := by have qz127 := z127.out; have qz129 := z129.out; omega
                      have d2 : W128.heap.size ≠ W117.heap.size := fun e => d1 e.symm
                      go_simp
                      have g131 := set_grown ((W129.setCell ⟨W117.heap.size, 0, none⟩ (.int .i64 (x1 : Int))).setCell ⟨W117.heap.size, 1, none⟩ (.int .i64 (x2 : Int))) (W128.heap.size) 0 1 (.int .i64 (y1 : Int)) (.int .i64 (y2 : Int))
                      have b131 : Below V2.heap.size V2 ((((W129.setCell ⟨W117.heap.size, 0, none⟩ (.int .i64 (x1 : Int))).setCell ⟨W117.heap.size, 1, none⟩ (.int .i64 (x2 : Int))).setCell ⟨W128.heap.size, 0, none⟩ (.int .i64 (y1 : Int))).setCell ⟨W128.heap.size, 1, none⟩ (.int .i64 (y2 : Int))) := (b130).grown g131 (b130).size (fun j e => by cases e; exact (b128).size)
                      have f131_11 := ((f130_11).set0 (.int .i64 (y1 : Int))).set1 (.int .i64 (y2 : Int))
                      have f131_10 := (f130_10).kept g131 (by intro e; have := Option.some.inj e; have qz127 := z127.out; have qz129 := z129.out; omega)
                      refine hK _ _ b131 (fun _ => ?_)
                      clear hK K
                      go_simp
                      refine wpAnyH_done (by kernel_rfl) ?_ _
                      have fx := f131_10
                      have fy := f131_11
                      have bz := b131
                      obtain ⟨Z, hZ⟩ : ∃ Z, Z = ((((W129.setCell ⟨W117.heap.size, 0, none⟩ (.int .i64 (x1 : Int))).setCell ⟨W117.heap.size, 1, none⟩ (.int .i64 (x2 : Int))).setCell ⟨W128.heap.size, 0, none⟩ (.int .i64 (y1 : Int))).setCell ⟨W128.heap.size, 1, none⟩ (.int .i64 (y2 : Int))) := ⟨_, rfl⟩
                      rw [← hZ] at fx fy bz
                      rw [← hZ]
                      obtain ⟨e0, e1, _, _⟩ := fx.cells
                      obtain ⟨e2, e3, _, _⟩ := fy.cells
                      have HZ := Lib.hid hZ
                      clear hZ
                      go_wp2_with fail
                      exact ⟨⟨k + 1, by omega, by go_num, HN.out, bz⟩, by simp [intOf]; omega⟩
              · go_simp
                obtain ⟨W132, e132⟩ : ∃ W', W' = W127.alloc (.cells #[.int .i64 0, .int .i64 0] 56) := ⟨_, rfl⟩
                have b132 : Below V2.heap.size V2 W132 := by rw [e132]; exact (b127).alloc (b127).size _
                have f132_11 : Lies W132 W127.heap.size #[.int .i64 0, .int .i64 0] 56 := by rw [e132]; exact Lies.new W127 #[.int .i64 0, .int .i64 0] 56
                have f132_10 : Lies W132 W117.heap.size #[.int .i64 0, .int .i64 0] 56 := by rw [e132]; exact Lies.alloc f127_10 _
                have z132 := Lib.hid (show W132.heap.size = W127.heap.size + 1 by rw [e132]; simp)
                rw [← e132]
                clear e132
                refine hK _ _ b132 (fun _ => ?_)
                clear hK K
                go_simp
                refine wpAnyH_ready (rs := [9]) (by kernel_rfl) (by simp) ?_
                refine AllReadyH.cons rfl (fun K hK => ?_) AllReadyH.nil
                · go_simp
                  go_wp2_with (go_at_call 43; refine (RB' _ b132).mono ?_; rintro e W133 ⟨rfl, h133⟩)
                  have b133 := (b132).trans (h133.mono (b132).size)
                  have f133_10 := Lies.below f132_10 h133
                  have f133_11 := Lies.below f132_11 h133
                  have z133 := h133.size
                  refine hK _ _ b133 (fun _ => ?_)
                  clear hK K h133
                  go_simp
                  refine wpAnyH_ready (rs := [12]) (by kernel_rfl) (by simp) ?_
                  refine AllReadyH.cons rfl (fun K hK => ?_) AllReadyH.nil
                  · go_simp
                    obtain ⟨c0, c1, c2, c3⟩ := (f133_10).cells
                    go_simp
                    have g134 := set_grown W133 (W117.heap.size) 0 1 (.int .i64 (x1 : Int)) (.int .i64 (x2 : Int))
                    have b134 : Below V2.heap.size V2 ((W133.setCell ⟨W117.heap.size, 0, none⟩ (.int .i64 (x1 : Int))).setCell ⟨W117.heap.size, 1, none⟩ (.int .i64 (x2 : Int))) := (b133).grown g134 (b133).size (fun j e => by cases e; exact (b117).size)
                    have f134_10 := ((f133_10).set0 (.int .i64 (x1 : Int))).set1 (.int .i64 (x2 : Int))
                    have f134_11 := (f133_11).kept g134 (by intro e; have := Option.some.inj e; have qz127 := z127.out; have qz132 := z132.out; omega)
                    refine hK _ _ b134 (fun _ => ?_)
                    clear hK K
                    go_simp
                    refine wpAnyH_ready (rs := [13]) (by kernel_rfl) (by simp) ?_
                    refine AllReadyH.cons rfl (fun K hK => ?_) AllReadyH.nil
                    · go_simp
                      obtain ⟨c0, c1, c2, c3⟩ := (f133_11).cells
                      have d1 : W117.heap.size ≠ W127.heap.size := by have qz127 := z127.out; have qz132 := z132.out; omega
                      have d2 : W127.heap.size ≠ W117.heap.size := fun e => d1 e.symm
                      go_simp
                      have g135 := set_grown ((W133.setCell ⟨W117.heap.size, 0, none⟩ (.int .i64 (x1 : Int))).setCell ⟨W117.heap.size, 1, none⟩ (.int .i64 (x2 : Int))) (W127.heap.size) 0 1 (.int .i64 (y1 : Int)) (.int .i64 (y2 : Int))
                      have b135 : Below V2.heap.size V2 ((((W133.setCell ⟨W117.heap.size, 0, none⟩ (.int .i64 (x1 : Int))).setCell ⟨W117.heap.size, 1, none⟩ (.int .i64 (x2 : Int))).setCell ⟨W127.heap.size, 0, none⟩ (.int .i64 (y1 : Int))).setCell ⟨W127.heap.size, 1, none⟩ (.int .i64 (y2 : Int))) := (b134).grown g135 (b134).size (fun j e => by cases e; exact (b127).size)
                      have f135_11 := ((f134_11).set0 (.int .i64 (y1 : Int))).set1 (.int .i64 (y2 : Int))
                      have f135_10 := (f134_10).kept g135 (by intro e; have := Option.some.inj e; have qz127 := z127.out; have qz132 := z132.out; omega)
                      refine hK _ _ b135 (fun _ => ?_)
                      clear hK K
                      go_simp
                      refine wpAnyH_done (by kernel_rfl) ?_ _
                      have fx := f135_10
                      have fy := f135_11
                      have bz := b135
                      obtain ⟨Z, hZ⟩ : ∃ Z, Z = ((((W133.setCell ⟨W117.heap.size, 0, none⟩ (.int .i64 (x1 : Int))).setCell ⟨W117.heap.size, 1, none⟩ (.int .i64 (x2 : Int))).setCell ⟨W127.heap.size, 0, none⟩ (.int .i64 (y1 : Int))).setCell ⟨W127.heap.size, 1, none⟩ (.int .i64 (y2 : Int))) := ⟨_, rfl⟩
                      rw [← hZ] at fx fy bz
                      rw [← hZ]
                      obtain ⟨e0, e1, _, _⟩ := fx.cells
                      obtain ⟨e2, e3, _, _⟩ := fy.cells
                      have HZ := Lib.hid hZ
                      clear hZ
                      go_wp2_with fail
                      exact ⟨⟨k + 1, by omega, by go_num, HN.out, bz⟩, by simp [intOf]; omega⟩
            · go_simp
              obtain ⟨W136, e136⟩ : ∃ W', W' = W117.alloc (.cells #[.int .i64 0, .int .i64 0] 56) := ⟨_, rfl⟩
              have b136 : Below V2.heap.size V2 W136 := by rw [e136]; exact (b117).alloc (b117).size _
              have f136_11 : Lies W136 W117.heap.size #[.int .i64 0, .int .i64 0] 56 := by rw [e136]; exact Lies.new W117 #[.int .i64 0, .int .i64 0] 56
              have z136 := Lib.hid (show W136.heap.size = W117.heap.size + 1 by rw [e136]; simp)
              rw [← e136]
              clear e136
              refine hK _ _ b136 (fun _ => ?_)
              clear hK K
              go_simp
              refine wpAnyH_ready (rs := [9, 10]) (by kernel_rfl) (by simp) ?_
              refine AllReadyH.cons rfl (fun K hK => ?_) (AllReadyH.cons rfl (fun K hK => ?_) AllReadyH.nil)
              · go_simp
                go_wp2_with (go_at_call 43; refine (RB' _ b136).mono ?_; rintro e W137 ⟨rfl, h137⟩)
                have b137 := (b136).trans (h137.mono (b136).size)
                have f137_11 := Lies.below f136_11 h137
                have z137 := h137.size
                refine hK _ _ b137 (fun _ => ?_)
                clear hK K h137
                go_simp
                refine wpAnyH_ready (rs := [10]) (by kernel_rfl) (by simp) ?_
                refine AllReadyH.cons rfl (fun K hK => ?_) AllReadyH.nil
                · go_simp
                  obtain ⟨W138, e138⟩ : ∃ W', W' = W137.alloc (.cells #[.int .i64 0, .int .i64 0] 56) := ⟨_, rfl⟩
                  have b138 : Below V2.heap.size V2 W138 := by rw [e138]; exact (b137).alloc (b137).size _
                  have f138_10 : Lies W138 W137.heap.size #[.int .i64 0, .int .i64 0] 56 := by rw [e138]; exact Lies.new W137 #[.int .i64 0, .int .i64 0] 56
                  have f138_11 : Lies W138 W117.heap.size #[.int .i64 0, .int .i64 0] 56 := by rw [e138]; exact Lies.alloc f137_11 _
                  have z138 := Lib.hid (show W138.heap.size = W137.heap.size + 1 by rw [e138]; simp)
                  rw [← e138]
                  clear e138
                  refine hK _ _ b138 (fun _ => ?_)
                  clear hK K
                  go_simp
                  refine wpAnyH_ready (rs := [12]) (by kernel_rfl) (by simp) ?_
                  refine AllReadyH.cons rfl (fun K hK => ?_) AllReadyH.nil
                  · go_simp
                    obtain ⟨c0, c1, c2, c3⟩ := (f138_10).cells
                    go_simp
                    have g139 := set_grown W138 (W137.heap.size) 0 1 (.int .i64 (x1 : Int)) (.int .i64 (x2 : Int))
                    have b139 : Below V2.heap.size V2 ((W138.setCell ⟨W137.heap.size, 0, none⟩ (.int .i64 (x1 : Int))).setCell ⟨W137.heap.size, 1, none⟩ (.int .i64 (x2 : Int))) := (b138).grown g139 (b138).size (fun j e => by cases e; exact (b137).size)
                    have f139_10 := ((f138_10).set0 (.int .i64 (x1 : Int))).set1 (.int .i64 (x2 : Int))
                    have f139_11 := (f138_11).kept g139 (by intro e; have := Option.some.inj e; have qz136 := z136.out; have qz138 := z138.out; omega)
                    refine hK _ _ b139 (fun _ => ?_)
                    clear hK K
                    go_simp
                    refine wpAnyH_ready (rs := [13]) (by kernel_rfl) (by simp) ?_
                    refine AllReadyH.cons rfl (fun K hK => ?_) AllReadyH.nil
                    · go_simp
                      obtain ⟨c0, c1, c2, c3⟩ := (f138_11).cells
                      have d1 : W137.heap.size ≠ W117.heap.size := by have qz136 := z136.out; have qz138 := z138.out; omega
                      have d2 : W117.heap.size ≠ W137.heap.size := fun e => d1 e.symm
                      go_simp
                      have g140 := set_grown ((W138.setCell ⟨W137.heap.size, 0, none⟩ (.int .i64 (x1 : Int))).setCell ⟨W137.heap.size, 1, none⟩ (.int .i64 (x2 : Int))) (W117.heap.size) 0 1 (.int .i64 (y1 : Int)) (.int .i64 (y2 : Int))
                      have b140 : Below V2.heap.size V2 ((((W138.setCell ⟨W137.heap.size, 0, none⟩ (.int .i64 (x1 : Int))).setCell ⟨W137.heap.size, 1, none⟩ (.int .i64 (x2 : Int))).setCell ⟨W117.heap.size, 0, none⟩ (.int .i64 (y1 : Int))).setCell ⟨W117.heap.size, 1, none⟩ (.int .i64 (y2 : Int))) := (b139).grown g140 (b139).size (fun j e => by cases e; exact (b117).size)
                      have f140_11 := ((f139_11).set0 (.int .i64 (y1 : Int))).set1 (.int .i64 (y2 : Int))
                      have f140_10 := (f139_10).kept g140 (by intro e; have := Option.some.inj e; have qz136 := z136.out; have qz138 := z138.out; omega)
                      refine hK _ _ b140 (fun _ => ?_)
                      clear hK K
                      go_simp
                      refine wpAnyH_done (by kernel_rfl) ?_ _
                      have fx := f140_10
                      have fy := f140_11
                      have bz := b140
                      obtain ⟨Z, hZ⟩ : ∃ Z, Z = ((((W138.setCell ⟨W137.heap.size, 0, none⟩ (.int .i64 (x1 : Int))).setCell ⟨W137.heap.size, 1, none⟩ (.int .i64 (x2 : Int))).setCell ⟨W117.heap.size, 0, none⟩ (.int .i64 (y1 : Int))).setCell ⟨W117.heap.size, 1, none⟩ (.int .i64 (y2 : Int))) := ⟨_, rfl⟩
                      rw [← hZ] at fx fy bz
                      rw [← hZ]
                      obtain ⟨e0, e1, _, _⟩ := fx.cells
                      obtain ⟨e2, e3, _, _⟩ := fy.cells
                      have HZ := Lib.hid hZ
                      clear hZ
                      go_wp2_with fail
                      exact ⟨⟨k + 1, by omega, by go_num, HN.out, bz⟩, by simp [intOf]; omega⟩
              · go_simp
                obtain ⟨W141, e141⟩ : ∃ W', W' = W136.alloc (.cells #[.int .i64 0, .int .i64 0] 56) := ⟨_, rfl⟩
                have b141 : Below V2.heap.size V2 W141 := by rw [e141]; exact (b136).alloc (b136).size _
                have f141_10 : Lies W141 W136.heap.size #[.int .i64 0, .int .i64 0] 56 := by rw [e141]; exact Lies.new W136 #[.int .i64 0, .int .i64 0] 56
                have f141_11 : Lies W141 W117.heap.size #[.int .i64 0, .int .i64 0] 56 := by rw [e141]; exact Lies.alloc f136_11 _
                have z141 := Lib.hid (show W141.heap.size = W136.heap.size + 1 by rw [e141]; simp)
                rw [← e141]
                clear e141
                refine hK _ _ b141 (fun _ => ?_)
                clear hK K
                go_simp
                refine wpAnyH_ready (rs := [9]) (by kernel_rfl) (by simp) ?_
                refine AllReadyH.cons rfl (fun K hK => ?_) AllReadyH.nil
                · go_simp
                  go_wp2_with (go_at_call 43; refine (RB' _ b141).mono ?_; rintro e W142 ⟨rfl, h142⟩)
                  have b142 := (b141).trans (h142.mono (b141).size)
                  have f142_11 := Lies.below f141_11 h142
                  have f142_10 := Lies.below f141_10 h142
                  have z142 := h142.size
                  refine hK _ _ b142 (fun _ => ?_)
                  clear hK K h142
                  go_simp
                  refine wpAnyH_ready (rs := [12]) (by kernel_rfl) (by simp) ?_
                  refine AllReadyH.cons rfl (fun K hK => ?_) AllReadyH.nil
                  · go_simp
                    obtain ⟨c0, c1, c2, c3⟩ := (f142_10).cells
                    go_simp
                    have g143 := set_grown W142 (W136.heap.size) 0 1 (.int .i64 (x1 : Int)) (.int .i64 (x2 : Int))
                    have b143 : Below V2.heap.size V2 ((W142.setCell ⟨W136.heap.size, 0, none⟩ (.int .i64 (x1 : Int))).setCell ⟨W136.heap.size, 1, none⟩ (.int .i64 (x2 : Int))) := (b142).grown g143 (b142).size (fun j e => by cases e; exact (b136).size)
                    have f143_10 := ((f142_10).set0 (.int .i64 (x1 : Int))).set1 (.int .i64 (x2 : Int))
                    have f143_11 := (f142_11).kept g143 (by intro e; have := Option.some.inj e; have qz136 := z136.out; have qz141 := z141.out; omega)
                    refine hK _ _ b143 (fun _ => ?_)
                    clear hK K
                    go_simp
                    refine wpAnyH_ready (rs := [13]) (by kernel_rfl) (by simp) ?_
                    refine AllReadyH.cons rfl (fun K hK => ?_) AllReadyH.nil
                    · go_simp
                      obtain ⟨c0, c1, c2, c3⟩ := (f142_11).cells
                      have d1 : W136.heap.size ≠ W117.heap.size := by have qz136 := z136.out; have qz141 := z141.out; omega
                      have d2 : W117.heap.size ≠ W136.heap.size := fun e => d1 e.symm
                      go_simp
                      have g144 := set_grown ((W142.setCell ⟨W136.heap.size, 0, none⟩ (.int .i64 (x1 : Int))).setCell ⟨W136.heap.size, 1, none⟩ (.int .i64 (x2 : Int))) (W117.heap.size) 0 1 (.int .i64 (y1 : Int)) (.int .i64 (y2 : Int))
                      have b144 : Below V2.heap.size V2 ((((W142.setCell ⟨W136.heap.size, 0, none⟩ (.int .i64 (x1 : Int))).setCell ⟨W136.heap.size, 1, none⟩ (.int .i64 (x2 : Int))).setCell ⟨W117.heap.size, 0, none⟩ (.int .i64 (y1 : Int))).setCell ⟨W117.heap.size, 1, none⟩ (.int .i64 (y2 : Int))) := (b143).grown g144 (b143).size (fun j e => by cases e; exact (b117).size)
                      have f144_11 := ((f143_11).set0 (.int .i64 (y1 : Int))).set1 (.int .i64 (y2 : Int))
                      have f144_10 := (f143_10).kept g144 (by intro e; have := Option.some.inj e; have qz136 := z136.out; have qz141 := z141.out; omega)
                      refine hK _ _ b144 (fun _ => ?_)
                      clear hK K
                      go_simp
                      refine wpAnyH_done (by kernel_rfl) ?_ _
                      have fx := f144_10
                      have fy := f144_11
                      have bz := b144
                      obtain ⟨Z, hZ⟩ : ∃ Z, Z = ((((W142.setCell ⟨W136.heap.size, 0, none⟩ (.int .i64 (x1 : Int))).setCell ⟨W136.heap.size, 1, none⟩ (.int .i64 (x2 : Int))).setCell ⟨W117.heap.size, 0, none⟩ (.int .i64 (y1 : Int))).setCell ⟨W117.heap.size, 1, none⟩ (.int .i64 (y2 : Int))) := ⟨_, rfl⟩
                      rw [← hZ] at fx fy bz
                      rw [← hZ]
                      obtain ⟨e0, e1, _, _⟩ := fx.cells
                      obtain ⟨e2, e3, _, _⟩ := fy.cells
                      have HZ := Lib.hid hZ
                      clear hZ
                      go_wp2_with fail
                      exact ⟨⟨k + 1, by omega, by go_num, HN.out, bz⟩, by simp [intOf]; omega⟩
          · go_simp
            obtain ⟨W145, e145⟩ : ∃ W', W' = (wr.alloc (.cells #[.int .i64 0, .int .i64 0] 56)).drew := ⟨_, rfl⟩
            have b145 : Below V2.heap.size V2 W145 := by rw [e145]; exact (hB.alloc hB.size _).drew
            have f145_10 : Lies W145 wr.heap.size #[.int .i64 0, .int .i64 0] 56 := by rw [e145]; exact Lies.new wr #[.int .i64 0, .int .i64 0] 56
            have z145 := Lib.hid (show W145.heap.size = wr.heap.size + 1 by rw [e145]; simp)
            rw [← e145]
            clear e145
            refine hK _ _ b145 (fun _ => ?_)
            clear hK K
            go_simp
            refine wpAnyH_ready (rs := [4, 11]) (by kernel_rfl) (by simp) ?_
            refine AllReadyH.cons rfl (fun K hK => ?_) (AllReadyH.cons rfl (fun K hK => ?_) AllReadyH.nil)
            · go_simp
              go_wp2_with (go_at_call 43; refine (RA' _ b145).mono ?_; rintro e W146 ⟨rfl, h146⟩)
              have b146 := (b145).trans (h146.mono (b145).size)
              have f146_10 := Lies.below f145_10 h146
              have z146 := h146.size
              refine hK _ _ b146 (fun _ => ?_)
              clear hK K h146
              go_simp
              refine wpAnyH_ready (rs := [9, 11]) (by kernel_rfl) (by simp) ?_
              refine AllReadyH.cons rfl (fun K hK => ?_) (AllReadyH.cons rfl (fun K hK => ?_) AllReadyH.nil)
              · go_simp
                go_wp2_with (go_at_call 43; refine (RB' _ b146).mono ?_; rintro e W147 ⟨rfl, h147⟩)
                have b147 := (b146).trans (h147.mono (b146).size)
                have f147_10 := Lies.below f146_10 h147
                have z147 := h147.size
                refine hK _ _ b147 (fun _ => ?_)
                clear hK K h147
                go_simp
                refine wpAnyH_ready (rs := [11]) (by kernel_rfl) (by simp) ?_
                refine AllReadyH.cons rfl (fun K hK => ?_) AllReadyH.nil
                · go_simp
                  obtain ⟨W148, e148⟩ : ∃ W', W' = W147.alloc (.cells #[.int .i64 0, .int .i64 0] 56) := ⟨_, rfl⟩
                  have b148 : Below V2.heap.size V2 W148 := by rw [e148]; exact (b147).alloc (b147).size _
                  have f148_11 : Lies W148 W147.heap.size #[.int .i64 0, .int .i64 0] 56 := by rw [e148]; exact Lies.new W147 #[.int .i64 0, .int .i64 0] 56
                  have f148_10 : Lies W148 wr.heap.size #[.int .i64 0, .int .i64 0] 56 := by rw [e148]; exact Lies.alloc f147_10 _
                  have z148 := Lib.hid (show W148.heap.size = W147.heap.size + 1 by rw [e148]; simp)
                  rw [← e148]
                  clear e148
                  refine hK _ _ b148 (fun _ => ?_)
                  clear hK K
                  go_simp
                  refine wpAnyH_ready (rs := [12]) (by kernel_rfl) (by simp) ?_
                  refine AllReadyH.cons rfl (fun K hK => ?_) AllReadyH.nil
                  · go_simp
                    obtain ⟨c0, c1, c2, c3⟩ := (f148_10).cells
                    go_simp
                    have g149 := set_grown W148 (wr.heap.size) 0 1 (.int .i64 (x1 : Int)) (.int .i64 (x2 : Int))
                    have b149 : Below V2.heap.size V2 ((W148.setCell ⟨wr.heap.size, 0, none⟩ (.int .i64 (x1 : Int))).setCell ⟨wr.heap.size, 1, none⟩ (.int .i64 (x2 : Int))) := (b148).grown g149 (b148).size (fun j e => by cases e; exact (hS).size)
                    have f149_10 := ((f148_10).set0 (.int .i64 (x1 : Int))).set1 (.int .i64 (x2 : Int))
                    have f149_11 := (f148_11).kept g149 (by intro e; have := Option.some.inj e; have qz145 := z145.out; have qz148 := z148.out; omega)
                    refine hK _ _ b149 (fun _ => ?_)
                    clear hK K
                    go_simp
                    refine wpAnyH_ready (rs := [13]) (by kernel_rfl) (by simp) ?_
                    refine AllReadyH.cons rfl (fun K hK => ?_) AllReadyH.nil
                    · go_simp
                      obtain ⟨c0, c1, c2, c3⟩ := (f148_11).cells
                      have d1 : wr.heap.size ≠ W147.heap.size := by have qz145 := z145.out; have qz148 := z148.out; omega
                      have d2 : W147.heap.size ≠ wr.heap.size := fun e => d1 e.symm
                      go_simp
                      have g150 := set_grown ((W148.setCell ⟨wr.heap.size, 0, none⟩ (.int .i64 (x1 : Int))).setCell ⟨wr.heap.size, 1, none⟩ (.int .i64 (x2 : Int))) (W147.heap.size) 0 1 (.int .i64 (y1 : Int)) (.int .i64 (y2 : Int))
                      have b150 : Below V2.heap.size V2 ((((W148.setCell ⟨wr.heap.size, 0, none⟩ (.int .i64 (x1 : Int))).setCell ⟨wr.heap.size, 1, none⟩ (.int .i64 (x2 : Int))).setCell ⟨W147.heap.size, 0, none⟩ (.int .i64 (y1 : Int))).setCell ⟨W147.heap.size, 1, none⟩ (.int .i64 (y2 : Int))) := (b149).grown g150 (b149).size (fun j e => by cases e; exact (b147).size)
                      have f150_11 := ((f149_11).set0 (.int .i64 (y1 : Int))).set1 (.int .i64 (y2 : Int))
                      have f150_10 := (f149_10).kept g150 (by intro e; have := Option.some.inj e; have qz145 := z145.out; have qz148 := z148.out; omega)
                      refine hK _ _ b150 (fun _ => ?_)
                      clear hK K
                      go_simp
                      refine wpAnyH_done (by kernel_rfl) ?_ _
                      have fx := f150_10
                      have fy := f150_11
                      have bz := b150
                      obtain ⟨Z, hZ⟩ : ∃ Z, Z = ((((W148.setCell ⟨wr.heap.size, 0, none⟩ (.int .i64 (x1 : Int))).setCell ⟨wr.heap.size, 1, none⟩ (.int .i64 (x2 : Int))).setCell ⟨W147.heap.size, 0, none⟩ (.int .i64 (y1 : Int))).setCell ⟨W147.heap.size, 1, none⟩ (.int .i64 (y2 : Int))) := ⟨_, rfl⟩
                      rw [← hZ] at fx fy bz
                      rw [← hZ]
                      obtain ⟨e0, e1, _, _⟩ := fx.cells
                      obtain ⟨e2, e3, _, _⟩ := fy.cells
                      have HZ := Lib.hid hZ
                      clear hZ
                      go_wp2_with fail
                      exact ⟨⟨k + 1, by omega, by go_num, HN.out, bz⟩, by simp [intOf]; omega⟩
              · go_simp
                obtain ⟨W151, e151⟩ : ∃ W', W' = W146.alloc (.cells #[.int .i64 0, .int .i64 0] 56) := ⟨_, rfl⟩
                have b151 : Below V2.heap.size V2 W151 := by rw [e151]; exact (b146).alloc (b146).size _
                have f151_11 : Lies W151 W146.heap.size #[.int .i64 0, .int .i64 0] 56 := by rw [e151]; exact Lies.new W146 #[.int .i64 0, .int .i64 0] 56
                have f151_10 : Lies W151 wr.heap.size #[.int .i64 0, .int .i64 0] 56 := by rw [e151]; exact Lies.alloc f146_10 _
                have z151 := Lib.hid (show W151.heap.size = W146.heap.size + 1 by rw [e151]; simp)
                rw [← e151]
                clear e151
                refine hK _ _ b151 (fun _ => ?_)
                clear hK K
                go_simp
                refine wpAnyH_ready (rs := [9]) (by kernel_rfl) (by simp) ?_
                refine AllReadyH.cons rfl (fun K hK => ?_) AllReadyH.nil
                · go_simp
                  go_wp2_with (go_at_call 43; refine (RB' _ b151).mono ?_; rintro e W152 ⟨rfl, h152⟩)
                  have b152 := (b151).trans (h152.mono (b151).size)
                  have f152_10 := Lies.below f151_10 h152
                  have f152_11 := Lies.below f151_11 h152
                  have z152 := h152.size
                  refine hK _ _ b152 (fun _ => ?_)
                  clear hK K h152
                  go_simp
                  refine wpAnyH_ready (rs := [12]) (by kernel_rfl) (by simp) ?_
                  refine AllReadyH.cons rfl (fun K hK => ?_) AllReadyH.nil
                  · go_simp
                    obtain ⟨c0, c1, c2, c3⟩ := (f152_10).cells
                    go_simp
                    have g153 := set_grown W152 (wr.heap.size) 0 1 (.int .i64 (x1 : Int)) (.int .i64 (x2 : Int))
                    have b153 : Below V2.heap.size V2 ((W152.setCell ⟨wr.heap.size, 0, none⟩ (.int .i64 (x1 : Int))).setCell ⟨wr.heap.size, 1, none⟩ (.int .i64 (x2 : Int))) := (b152).grown g153 (b152).size (fun j e => by cases e; exact (hS).size)
                    have f153_10 := ((f152_10).set0 (.int .i64 (x1 : Int))).set1 (.int .i64 (x2 : Int))
                    have f153_11 := (f152_11).kept g153 (by intro e; have := Option.some.inj e; have qz145 := z145.out; have qz151 := z151.out; omega)
                    refine hK _ _ b153 (fun _ => ?_)
                    clear hK K
                    go_simp
                    refine wpAnyH_ready (rs := [13]) (by kernel_rfl) (by simp) ?_
                    refine AllReadyH.cons rfl (fun K hK => ?_) AllReadyH.nil
                    · go_simp
                      obtain ⟨c0, c1, c2, c3⟩ := (f152_11).cells
                      have d1 : wr.heap.size ≠ W146.heap.size := by have qz145 := z145.out; have qz151 := z151.out; omega
                      have d2 : W146.heap.size ≠ wr.heap.size := fun e => d1 e.symm
                      go_simp
                      have g154 := set_grown ((W152.setCell ⟨wr.heap.size, 0, none⟩ (.int .i64 (x1 : Int))).setCell ⟨wr.heap.size, 1, none⟩ (.int .i64 (x2 : Int))) (W146.heap.size) 0 1 (.int .i64 (y1 : Int)) (.int .i64 (y2 : Int))
                      have b154 : Below V2.heap.size V2 ((((W152.setCell ⟨wr.heap.size, 0, none⟩ (.int .i64 (x1 : Int))).setCell ⟨wr.heap.size, 1, none⟩ (.int .i64 (x2 : Int))).setCell ⟨W146.heap.size, 0, none⟩ (.int .i64 (y1 : Int))).setCell ⟨W146.heap.size, 1, none⟩ (.int .i64 (y2 : Int))) := (b153).grown g154 (b153).size (fun j e => by cases e; exact (b146).size)
                      have f154_11 := ((f153_11).set0 (.int .i64 (y1 : Int))).set1 (.int .i64 (y2 : Int))
                      have f154_10 := (f153_10).kept g154 (by intro e; have := Option.some.inj e; have qz145 := z145.out; have qz151 := z151.out; omega)
                      refine hK _ _ b154 (fun _ => ?_)
                      clear hK K
                      go_simp
                      refine wpAnyH_done (by kernel_rfl) ?_ _
                      have fx := f154_10
                      have fy := f154_11
                      have bz := b154
                      obtain ⟨Z, hZ⟩ : ∃ Z, Z = ((((W152.setCell ⟨wr.heap.size, 0, none⟩ (.int .i64 (x1 : Int))).setCell ⟨wr.heap.size, 1, none⟩ (.int .i64 (x2 : Int))).setCell ⟨W146.heap.size, 0, none⟩ (.int .i64 (y1 : Int))).setCell ⟨W146.heap.size, 1, none⟩ (.int .i64 (y2 : Int))) := ⟨_, rfl⟩
                      rw [← hZ] at fx fy bz
                      rw [← hZ]
                      obtain ⟨e0, e1, _, _⟩ := fx.cells
                      obtain ⟨e2, e3, _, _⟩ := fy.cells
                      have HZ := Lib.hid hZ
                      clear hZ
                      go_wp2_with fail
                      exact ⟨⟨k + 1, by omega, by go_num, HN.out, bz⟩, by simp [intOf]; omega⟩
            · go_simp
              obtain ⟨W155, e155⟩ : ∃ W', W' = W145.alloc (.cells #[.int .i64 0, .int .i64 0] 56) := ⟨_, rfl⟩
              have b155 : Below V2.heap.size V2 W155 := by rw [e155]; exact (b145).alloc (b145).size _
              have f155_11 : Lies W155 W145.heap.size #[.int .i64 0, .int .i64 0] 56 := by rw [e155]; exact Lies.new W145 #[.int .i64 0, .int .i64 0] 56
              have f155_10 : Lies W155 wr.heap.size #[.int .i64 0, .int .i64 0] 56 := by rw [e155]; exact Lies.alloc f145_10 _
              have z155 := Lib.hid (show W155.heap.size = W145.heap.size + 1 by rw [e155]; simp)
              rw [← e155]
              clear e155
              refine hK _ _ b155 (fun _ => ?_)
              clear hK K
              go_simp
              refine wpAnyH_ready (rs := [4]) (by kernel_rfl) (by simp) ?_
              refine AllReadyH.cons rfl (fun K hK => ?_) AllReadyH.nil
              · go_simp
                go_wp2_with (go_at_call 43; refine (RA' _ b155).mono ?_; rintro e W156 ⟨rfl, h156⟩)
                have b156 := (b155).trans (h156.mono (b155).size)
                have f156_10 := Lies.below f155_10 h156
                have f156_11 := Lies.below f155_11 h156
                have z156 := h156.size
                refine hK _ _ b156 (fun _ => ?_)
                clear hK K h156
                go_simp
                refine wpAnyH_ready (rs := [9]) (by kernel_rfl) (by simp) ?_
                refine AllReadyH.cons rfl (fun K hK => ?_) AllReadyH.nil
                · go_simp
                  go_wp2_with (go_at_call 43; refine (RB' _ b156).mono ?_; rintro e W157 ⟨rfl, h157⟩)
                  have b157 := (b156).trans (h157.mono (b156).size)
                  have f157_10 := Lies.below f156_10 h157
                  have f157_11 := Lies.below f156_11 h157
                  have z157 := h157.size
                  refine hK _ _ b157 (fun _ => ?_)
                  clear hK K h157
                  go_simp
                  refine wpAnyH_ready (rs := [12]) (by kernel_rfl) (by simp) ?_
                  refine AllReadyH.cons rfl (fun K hK => ?_) AllReadyH.nil
                  · go_simp
                    obtain ⟨c0, c1, c2, c3⟩ := (f157_10).cells
                    go_simp
                    have g158 := set_grown W157 (wr.heap.size) 0 1 (.int .i64 (x1 : Int)) (.int .i64 (x2 : Int))
                    have b158 : Below V2.heap.size V2 ((W157.setCell ⟨wr.heap.size, 0, none⟩ (.int .i64 (x1 : Int))).setCell ⟨wr.heap.size, 1, none⟩ (.int .i64 (x2 : Int))) := (b157).grown g158 (b157).size (fun j e => by cases e; exact (hS).size)
                    have f158_10 := ((f157_10).set0 (.int .i64 (x1 : Int))).set1 (.int .i64 (x2 : Int))
                    have f158_11 := (f157_11).kept g158 (by intro e; have := Option.some.inj e; have qz145 := z145.out; have qz155 := z155.out; omega)
                    refine hK _ _ b158 (fun _ => ?_)
                    clear hK K
                    go_simp
                    refine wpAnyH_ready (rs := [13]) (by kernel_rfl) (by simp) ?_
                    refine AllReadyH.cons rfl (fun K hK => ?_) AllReadyH.nil
                    · go_simp
                      obtain ⟨c0, c1, c2, c3⟩ := (f157_11).cells
                      have d1 : wr.heap.size ≠ W145.heap.size := by have qz145 := z145.out; have qz155 := z155.out; omega
                      have d2 : W145.heap.size ≠ wr.heap.size := fun e => d1 e.symm
                      go_simp
                      have g159 := set_grown ((W157.setCell ⟨wr.heap.size, 0, none⟩ (.int .i64 (x1 : Int))).setCell ⟨wr.heap.size, 1, none⟩ (.int .i64 (x2 : Int))) (W145.heap.size) 0 1 (.int .i64 (y1 : Int)) (.int .i64 (y2 : Int))
                      have b159 : Below V2.heap.size V2 ((((W157.setCell ⟨wr.heap.size, 0, none⟩ (.int .i64 (x1 : Int))).setCell ⟨wr.heap.size, 1, none⟩ (.int .i64 (x2 : Int))).setCell ⟨W145.heap.size, 0, none⟩ (.int .i64 (y1 : Int))).setCell ⟨W145.heap.size, 1, none⟩ (.int .i64 (y2 : Int))) := (b158).grown g159 (b158).size (fun j e => by cases e; exact (b145).size)
                      have f159_11 := ((f158_11).set0 (.int .i64 (y1 : Int))).set1 (.int .i64 (y2 : Int))
                      have f159_10 := (f158_10).kept g159 (by intro e; have := Option.some.inj e; have qz145 := z145.out; have qz155 := z155.out; omega)
                      refine hK _ _ b159 (fun _ => ?_)
                      clear hK K
                      go_simp
                      refine wpAnyH_done (by kernel_rfl) ?_ _
                      have fx := f159_10
                      have fy := f159_11
                      have bz := b159
                      obtain ⟨Z, hZ⟩ : ∃ Z, Z = ((((W157.setCell ⟨wr.heap.size, 0, none⟩ (.int .i64 (x1 : Int))).setCell ⟨wr.heap.size, 1, none⟩ (.int .i64 (x2 : Int))).setCell ⟨W145.heap.size, 0, none⟩ (.int .i64 (y1 : Int))).setCell ⟨W145.heap.size, 1, none⟩ (.int .i64 (y2 : Int))) := ⟨_, rfl⟩
                      rw [← hZ] at fx fy bz
                      rw [← hZ]
                      obtain ⟨e0, e1, _, _⟩ := fx.cells
                      obtain ⟨e2, e3, _, _⟩ := fy.cells
                      have HZ := Lib.hid hZ
                      clear hZ
                      go_wp2_with fail
                      exact ⟨⟨k + 1, by omega, by go_num, HN.out, bz⟩, by simp [intOf]; omega⟩
          · go_simp
            obtain ⟨W160, e160⟩ : ∃ W', W' = (wr.alloc (.cells #[.int .i64 0, .int .i64 0] 56)).drew := ⟨_, rfl⟩
            have b160 : Below V2.heap.size V2 W160 := by rw [e160]; exact (hB.alloc hB.size _).drew
            have f160_11 : Lies W160 wr.heap.size #[.int .i64 0, .int .i64 0] 56 := by rw [e160]; exact Lies.new wr #[.int .i64 0, .int .i64 0] 56
            have z160 := Lib.hid (show W160.heap.size = wr.heap.size + 1 by rw [e160]; simp)
            rw [← e160]
            clear e160
            refine hK _ _ b160 (fun _ => ?_)
            clear hK K
            go_simp
            refine wpAnyH_ready (rs := [4, 10]) (by kernel_rfl) (by simp) ?_
            refine AllReadyH.cons rfl (fun K hK => ?_) (AllReadyH.cons rfl (fun K hK => ?_) AllReadyH.nil)
            · go_simp
              go_wp2_with (go_at_call 43; refine (RA' _ b160).mono ?_; rintro e W161 ⟨rfl, h161⟩)
              have b161 := (b160).trans (h161.mono (b160).size)
              have f161_11 := Lies.below f160_11 h161
              have z161 := h161.size
              refine hK _ _ b161 (fun _ => ?_)
              clear hK K h161
              go_simp
              refine wpAnyH_ready (rs := [9, 10]) (by kernel_rfl) (by simp) ?_
              refine AllReadyH.cons rfl (fun K hK => ?_) (AllReadyH.cons rfl (fun K hK => ?_) AllReadyH.nil)
              · go_simp
                go_wp2_with (go_at_call 43; refine (RB' _ b161).mono ?_; rintro e W162 ⟨rfl, h162⟩)
                have b162 := (b161).trans (h162.mono (b161).size)
                have f162_11 := Lies.below f161_11 h162
                have z162 := h162.size
                refine hK _ _ b162 (fun _ => ?_)
                clear hK K h162
                go_simp
                refine wpAnyH_ready (rs := [10]) (by kernel_rfl) (by simp) ?_
                refine AllReadyH.cons rfl (fun K hK => ?_) AllReadyH.nil
                · go_simp
                  obtain ⟨W163, e163⟩ : ∃ W', W' = W162.alloc (.cells #[.int .i64 0, .int .i64 0] 56) := ⟨_, rfl⟩
                  have b163 : Below V2.heap.size V2 W163 := by rw [e163]; exact (b162).alloc (b162).size _
                  have f163_10 : Lies W163 W162.heap.size #[.int .i64 0, .int .i64 0] 56 := by rw [e163]; exact Lies.new W162 #[.int .i64 0, .int .i64 0] 56
                  have f163_11 : Lies W163 wr.heap.size #[.int .i64 0, .int .i64 0] 56 := by rw [e163]; exact Lies.alloc f162_11 _
                  have z163 := Lib.hid (show W163.heap.size = W162.heap.size + 1 by rw [e163]; simp)
                  rw [← e163]
                  clear e163
                  refine hK _ _ b163 (fun _ => ?_)
                  clear hK K
                  go_simp
                  refine wpAnyH_ready (rs := [12]) (by kernel_rfl) (by simp) ?_
                  refine AllReadyH.cons rfl (fun K hK => ?_) AllReadyH.nil
                  · go_simp
                    obtain ⟨c0, c1, c2, c3⟩ := (f163_10).cells
                    go_simp
                    have g164 := set_grown W163 (W162.heap.size) 0 1 (.int .i64 (x1 : Int)) (.int .i64 (x2 : Int))
                    have b164 : Below V2.heap.size V2 ((W163.setCell ⟨W162.heap.size, 0, none⟩ (.int .i64 (x1 : Int))).setCell ⟨W162.heap.size, 1, none⟩ (.int .i64 (x2 : Int))) := (b163).grown g164 (b163).size (fun j e => by cases e; exact (b162).size)
                    have f164_10 := ((f163_10).set0 (.int .i64 (x1 : Int))).set1 (.int .i64 (x2 : Int))
                    have f164_11 := (f163_11).kept g164 (by intro e; have := Option.some.inj e; have qz160 := z160.out; have qz163 := z163.out; omega)
                    refine hK _ _ b164 (fun _ => ?_)
                    clear hK K
                    go_simp
                    refine wpAnyH_ready (rs := [13]) (by kernel_rfl) (by simp) ?_
                    refine AllReadyH.cons rfl (fun K hK => ?_) AllReadyH.nil
                    · go_simp
                      obtain ⟨c0, c1, c2, c3⟩ := (f163_11).cells
                      have d1 : W162.heap.size ≠ wr.heap.size := by have qz160 := z160.out; have qz163 := z163.out; omega
                      have d2 : wr.heap.size ≠ W162.heap.size := fun e => d1 e.symm
                      go_simp
                      have g165 := set_grown ((W163.setCell ⟨W162.heap.size, 0, none⟩ (.int .i64 (x1 : Int))).setCell ⟨W162.heap.size, 1, none⟩ (.int .i64 (x2 : Int))) (wr.heap.size) 0 1 (.int .i64 (y1 : Int)) (.int .i64 (y2 : Int))
                      have b165 : Below V2.heap.size V2 ((((W163.setCell ⟨W162.heap.size, 0, none⟩ (.int .i64 (x1 : Int))).setCell ⟨W162.heap.size, 1, none⟩ (.int .i64 (x2 : Int))).setCell ⟨wr.heap.size, 0, none⟩ (.int .i64 (y1 : Int))).setCell ⟨wr.heap.size, 1, none⟩ (.int .i64 (y2 : Int))) := (b164).grown g165 (b164).size (fun j e => by cases e; exact (hS).size)
                      have f165_11 := ((f164_11).set0 (.int .i64 (y1 : Int))).set1 (.int .i64 (y2 : Int))
                      have f165_10 := (f164_10).kept g165 (by intro e; have := Option.some.inj e; have qz160 := z160.out; have qz163 := z163.out; omega)
                      refine hK _ _ b165 (fun _ => ?_)
                      clear hK K
                      go_simp
                      refine wpAnyH_done (by kernel_rfl) ?_ _
                      have fx := f165_10
                      have fy := f165_11
                      have bz := b165
                      obtain ⟨Z, hZ⟩ : ∃ Z, Z = ((((W163.setCell ⟨W162.heap.size, 0, none⟩ (.int .i64 (x1 : Int))).setCell ⟨W162.heap.size, 1, none⟩ (.int .i64 (x2 : Int))).setCell ⟨wr.heap.size, 0, none⟩ (.int .i64 (y1 : Int))).setCell ⟨wr.heap.size, 1, none⟩ (.int .i64 (y2 : Int))) := ⟨_, rfl⟩
                      rw [← hZ] at fx fy bz
                      rw [← hZ]
                      obtain ⟨e0, e1, _, _⟩ := fx.cells
                      obtain ⟨e2, e3, _, _⟩ := fy.cells
                      have HZ := Lib.hid hZ
                      clear hZ
                      go_wp2_with fail
                      exact ⟨⟨k + 1, by omega, by go_num, HN.out, bz⟩, by simp [intOf]; omega⟩
              · go_simp
                obtain ⟨W166, e166⟩ : ∃ W', W' = W161.alloc (.cells #[.int .i64 0, .int .i64 0] 56) := ⟨_, rfl⟩
                have b166 : Below V2.heap.size V2 W166 := by rw [e166]; exact (b161).alloc (b161).size _
                have f166_10 : Lies W166 W161.heap.size #[.int .i64 0, .int .i64 0] 56 := by rw [e166]; exact Lies.new W161 #[.int .i64 0, .int .i64 0] 56
                have f166_11 : Lies W166 wr.heap.size #[.int .i64 0, .int .i64 0] 56 := by rw [e166]; exact Lies.alloc f161_11 _
                have z166 := Lib.hid (show W166.heap.size = W161.heap.size + 1 by rw [e166]; simp)
                rw [← e166]
                clear e166
                refine hK _ _ b166 (fun _ => ?_)
                clear hK K
                go_simp
                refine wpAnyH_ready (rs := [9]) (by kernel_rfl) (by simp) ?_
                refine AllReadyH.cons rfl (fun K hK => ?_) AllReadyH.nil
                · go_simp
                  go_wp2_with (go_at_call 43; refine (RB' _ b166).mono ?_; rintro e W167 ⟨rfl, h167⟩)
                  have b167 := (b166).trans (h167.mono (b166).size)
                  have f167_11 := Lies.below f166_11 h167
                  have f167_10 := Lies.below f166_10 h167
                  have z167 := h167.size
                  refine hK _ _ b167 (fun _ => ?_)
                  clear hK K h167
                  go_simp
                  refine wpAnyH_ready (rs := [12]) (by kernel_rfl) (by simp) ?_
                  refine AllReadyH.cons rfl (fun K hK => ?_) AllReadyH.nil
                  · go_simp
                    obtain ⟨c0, c1, c2, c3⟩ := (f167_10).cells
                    go_simp
                    have g168 := set_grown W167 (W161.heap.size) 0 1 (.int .i64 (x1 : Int)) (.int .i64 (x2 : Int))
                    have b168 : Below V2.heap.size V2 ((W167.setCell ⟨W161.heap.size, 0, none⟩ (.int .i64 (x1 : Int))).setCell ⟨W161.heap.size, 1, none⟩ (.int .i64 (x2 : Int))) := (b167).grown g168 (b167).size (fun j e => by cases e; exact (b161).size)
                    have f168_10 := ((f167_10).set0 (.int .i64 (x1 : Int))).set1 (.int .i64 (x2 : Int))
                    have f168_11 := (f167_11).kept g168 (by intro e; have := Option.some.inj e; have qz160 := z160.out; have qz166 := z166.out; omega)
                    refine hK _ _ b168 (fun _ => ?_)
                    clear hK K
                    go_simp
                    refine wpAnyH_ready (rs := [13]) (by kernel_rfl) (by simp) ?_
                    refine AllReadyH.cons rfl (fun K hK => ?_) AllReadyH.nil
                    · go_simp
                      obtain ⟨c0, c1, c2, c3⟩ := (f167_11).cells
                      have d1 : W161.heap.size ≠ wr.heap.size := by have qz160 := z160.out; have qz166 := z166.out; omega
                      have d2 : wr.heap.size ≠ W161.heap.size := fun e => d1 e.symm
                      go_simp
                      have g169 := set_grown ((W167.setCell ⟨W161.heap.size, 0, none⟩ (.int .i64 (x1 : Int))).setCell ⟨W161.heap.size, 1, none⟩ (.int .i64 (x2 : Int))) (wr.heap.size) 0 1 (.int .i64 (y1 : Int)) (.int .i64 (y2 : Int))
                      have b169 : Below V2.heap.size V2 ((((W167.setCell ⟨W161.heap.size, 0, none⟩ (.int .i64 (x1 : Int))).setCell ⟨W161.heap.size, 1, none⟩ (.int .i64 (x2 : Int))).setCell ⟨wr.heap.size, 0, none⟩ (.int .i64 (y1 : Int))).setCell ⟨wr.heap.size, 1, none⟩ (.int .i64 (y2 : Int))) := (b168).grown g169 (b168).size (fun j e => by cases e; exact (hS).size)
                      have f169_11 := ((f168_11).set0 (.int .i64 (y1 : Int))).set1 (.int .i64 (y2 : Int))
                      have f169_10 := (f168_10).kept g169 (by intro e; have := Option.some.inj e; have qz160 := z160.out; have qz166 := z166.out; omega)
                      refine hK _ _ b169 (fun _ => ?_)
                      clear hK K
                      go_simp
                      refine wpAnyH_done (by kernel_rfl) ?_ _
                      have fx := f169_10
                      have fy := f169_11
                      have bz := b169
                      obtain ⟨Z, hZ⟩ : ∃ Z, Z = ((((W167.setCell ⟨W161.heap.size, 0, none⟩ (.int .i64 (x1 : Int))).setCell ⟨W161.heap.size, 1, none⟩ (.int .i64 (x2 : Int))).setCell ⟨wr.heap.size, 0, none⟩ (.int .i64 (y1 : Int))).setCell ⟨wr.heap.size, 1, none⟩ (.int .i64 (y2 : Int))) := ⟨_, rfl⟩
                      rw [← hZ] at fx fy bz
                      rw [← hZ]
                      obtain ⟨e0, e1, _, _⟩ := fx.cells
                      obtain ⟨e2, e3, _, _⟩ := fy.cells
                      have HZ := Lib.hid hZ
                      clear hZ
                      go_wp2_with fail
                      exact ⟨⟨k + 1, by omega, by go_num, HN.out, bz⟩, by simp [intOf]; omega⟩
            · go_simp
              obtain ⟨W170, e170⟩ : ∃ W', W' = W160.alloc (.cells #[.int .i64 0, .int .i64 0] 56) := ⟨_, rfl⟩
              have b170 : Below V2.heap.size V2 W170 := by rw [e170]; exact (b160).alloc (b160).size _
              have f170_10 : Lies W170 W160.heap.size #[.int .i64 0, .int .i64 0] 56 := by rw [e170]; exact Lies.new W160 #[.int .i64 0, .int .i64 0] 56
              have f170_11 : Lies W170 wr.heap.size #[.int .i64 0, .int .i64 0] 56 := by rw [e170]; exact Lies.alloc f160_11 _
              have z170 := Lib.hid (show W170.heap.size = W160.heap.size + 1 by rw [e170]; simp)
              rw [← e170]
              clear e170
              refine hK _ _ b170 (fun _ => ?_)
              clear hK K
              go_simp
              refine wpAnyH_ready (rs := [4]) (by kernel_rfl) (by simp) ?_
              refine AllReadyH.cons rfl (fun K hK => ?_) AllReadyH.nil
              · go_simp
                go_wp2_with (go_at_call 43; refine (RA' _ b170).mono ?_; rintro e W171 ⟨rfl, h171⟩)
                have b171 := (b170).trans (h171.mono (b170).size)
                have f171_11 := Lies.below f170_11 h171
                have f171_10 := Lies.below f170_10 h171
                have z171 := h171.size
                refine hK _ _ b171 (fun _ => ?_)
                clear hK K h171
                go_simp
                refine wpAnyH_ready (rs := [9]) (by kernel_rfl) (by simp) ?_
                refine AllReadyH.cons rfl (fun K hK => ?_) AllReadyH.nil
                · go_simp
                  go_wp2_with (go_at_call 43; refine (RB' _ b171).mono ?_; rintro e W172 ⟨rfl, h172⟩)
                  have b172 := (b171).trans (h172.mono (b171).size)
                  have f172_11 := Lies.below f171_11 h172
                  have f172_10 := Lies.below f171_10 h172
                  have z172 := h172.size
                  refine hK _ _ b172 (fun _ => ?_)
                  clear hK K h172
                  go_simp
                  refine wpAnyH_ready (rs := [12]) (by kernel_rfl) (by simp) ?_
                  refine AllReadyH.cons rfl (fun K hK => ?_) AllReadyH.nil
                  · go_simp
                    obtain ⟨c0, c1, c2, c3⟩ := (f172_10).cells
                    go_simp
                    have g173 := set_grown W172 (W160.heap.size) 0 1 (.int .i64 (x1 : Int)) (.int .i64 (x2 : Int))
                    have b173 : Below V2.heap.size V2 ((W172.setCell ⟨W160.heap.size, 0, none⟩ (.int .i64 (x1 : Int))).setCell ⟨W160.heap.size, 1, none⟩ (.int .i64 (x2 : Int))) := (b172).grown g173 (b172).size (fun j e => by cases e; exact (b160).size)
                    have f173_10 := ((f172_10).set0 (.int .i64 (x1 : Int))).set1 (.int .i64 (x2 : Int))
                    have f173_11 := (f172_11).kept g173 (by intro e; have := Option.some.inj e; have qz160 := z160.out; have qz170 := z170.out; omega)
                    refine hK _ _ b173 (fun _ => ?_)
                    clear hK K
                    go_simp
                    refine wpAnyH_ready (rs := [13]) (by kernel_rfl) (by simp) ?_
                    refine AllReadyH.cons rfl (fun K hK => ?_) AllReadyH.nil
                    · go_simp
                      obtain ⟨c0, c1, c2, c3⟩ := (f172_11).cells
                      have d1 : W160.heap.size ≠ wr.heap.size := by have qz160 := z160.out; have qz170 := z170.out; omega
                      have d2 : wr.heap.size ≠ W160.heap.size := fun e => d1 e.symm
                      go_simp
                      have g174 := set_grown ((W172.setCell ⟨W160.heap.size, 0, none⟩ (.int .i64 (x1 : Int))).setCell ⟨W160.heap.size, 1, none⟩ (.int .i64 (x2 : Int))) (wr.heap.size) 0 1 (.int .i64 (y1 : Int)) (.int .i64 (y2 : Int))
                      have b174 : Below V2.heap.size V2 ((((W172.setCell ⟨W160.heap.size, 0, none⟩ (.int .i64 (x1 : Int))).setCell ⟨W160.heap.size, 1, none⟩ (.int .i64 (x2 : Int))).setCell ⟨wr.heap.size, 0, none⟩ (.int .i64 (y1 : Int))).setCell ⟨wr.heap.size, 1, none⟩ (.int .i64 (y2 : Int))) := (b173).grown g174 (b173).size (fun j e => by cases e; exact (hS).size)
                      have f174_11 := ((f173_11).set0 (.int .i64 (y1 : Int))).set1 (.int .i64 (y2 : Int))
                      have f174_10 := (f173_10).kept g174 (by intro e; have := Option.some.inj e; have qz160 := z160.out; have qz170 := z170.out; omega)
                      refine hK _ _ b174 (fun _ => ?_)
                      clear hK K
                      go_simp
                      refine wpAnyH_done (by kernel_rfl) ?_ _
                      have fx := f174_10
                      have fy := f174_11
                      have bz := b174
                      obtain ⟨Z, hZ⟩ : ∃ Z, Z = ((((W172.setCell ⟨W160.heap.size, 0, none⟩ (.int .i64 (x1 : Int))).setCell ⟨W160.heap.size, 1, none⟩ (.int .i64 (x2 : Int))).setCell ⟨wr.heap.size, 0, none⟩ (.int .i64 (y1 : Int))).setCell ⟨wr.heap.size, 1, none⟩ (.int .i64 (y2 : Int))) := ⟨_, rfl⟩
                      rw [← hZ] at fx fy bz
                      rw [← hZ]
                      obtain ⟨e0, e1, _, _⟩ := fx.cells
                      obtain ⟨e2, e3, _, _⟩ := fy.cells
                      have HZ := Lib.hid hZ
                      clear hZ
                      go_wp2_with fail
                      exact ⟨⟨k + 1, by omega, by go_num, HN.out, bz⟩, by simp [intOf]; omega⟩
    · obtain rfl : k = 9 := by omega
      go_wp2
      go_ret
      exact ⟨congrArg (fun z => Ending.returned (.bool z)) (List.all_eq_true.2 (fun x hx => hall x (List.mem_range.1 hx))).symm, B3.trans (hB.mono B3.size)⟩
end Go.Proofs.YtgkgkaapjljpcaaDoor

