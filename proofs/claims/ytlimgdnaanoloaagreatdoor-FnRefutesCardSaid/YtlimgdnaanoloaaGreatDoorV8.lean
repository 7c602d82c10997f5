/- The walk of FnRefutes. -/
import Derived.Test.YtlimgdnaanoloaaGreatDoorDT
import Derived.Test.YtlimgdnaanoloaaGreatDoorTR
import Derived.Test.YtlimgdnaanoloaaGreatDoorTS
namespace Go.Proofs.YtlimgdnaanoloaaGreatDoor
open Go.ChangeShapes Go.WideShapes Go.ChangeAt Go.RowKit Go.Shelf Go.Maps
attribute [local go_sem] Oper.semAt_some
set_option maxRecDepth 100000

theorem ofInt_wrap (n : Int) : BitVec.ofInt 64 (IntKind.i64.wrap n) = BitVec.ofInt 64 n := by
  apply BitVec.eq_of_toNat_eq
  rw [BitVec.toNat_ofInt, BitVec.toNat_ofInt]
  congr 1
  rw [IntKind.wrap_i64]
  omega
theorem and_left_out (r z : Int) : bits .and .i64 r (bits .andNot .i64 r z) = bits .andNot .i64 r z := by
  show IntKind.i64.wrap ((BitVec.ofInt 64 r &&& BitVec.ofInt 64 (IntKind.i64.wrap ((BitVec.ofInt 64 r &&& ~~~ BitVec.ofInt 64 z).toNat : Int))).toNat : Int) = IntKind.i64.wrap ((BitVec.ofInt 64 r &&& ~~~ BitVec.ofInt 64 z).toNat : Int)
  rw [ofInt_wrap, BitVec.ofInt_natCast, BitVec.ofNat_toNat, BitVec.setWidth_eq, ← BitVec.and_assoc, BitVec.and_self]
theorem none_left (z : Int) : bits .andNot .i64 z z = 0 := by
  show IntKind.i64.wrap ((BitVec.ofInt 64 z &&& ~~~ BitVec.ofInt 64 z).toNat : Int) = 0
  have : BitVec.ofInt 64 z &&& ~~~ BitVec.ofInt 64 z = 0 := by simp
  rw [this]
  rfl
theorem reach_set {p : ByteArray} {b x : Int} (h : reachB p b x = true) : isSet (reachN p b x) = true := by
  obtain ⟨nd, m, hP, hm, rfl, hx, hn⟩ := reach_true h
  rw [hn]
  obtain ⟨hok, _⟩ := readP_iff.1 hP
  have hr := run_lt nd hok m hm
  refine decide_eq_true ?_
  unfold exitN
  split <;> omega

/-- What is held while two triples are drawn: the results' blocks, the first triple's, the reader. -/
structure Midr (B k : Nat) (W X : World) (g : Nat) (b : Int) (p : ByteArray) (x r : Int) : Prop where
  one : TripAt X W.heap.size 0 ⟨#[]⟩ 0 0
  two : TripAt X (W.heap.size + 1) 0 ⟨#[]⟩ 0 0
  var : TripAt X g b p x r
  rd : Rd B X (W.heap.size + 1 + 1) k
  bel : Below W.heap.size W X
  lt : W.heap.size + 1 + 1 < g
theorem Midr.ran {B k k' : Nat} {W X Y : World} {g : Nat} {b : Int} {p : ByteArray} {x r : Int} (h : Midr B k W X g b p x r) (hY : Rd B Y (W.heap.size + 1 + 1) k') (hg : X.grownBy Y (some (W.heap.size + 1 + 1))) : Midr B k' W Y g b p x r :=
  ⟨h.one.grown hg (by omega), h.two.grown hg (by omega), h.var.grown hg (by have := h.lt; omega), hY, h.bel.trans ((below_of_grown hg (by have := h.rd.lt; omega)).mono (by omega)), h.lt⟩
theorem Midr.alloc {B k : Nat} {W X : World} {g : Nat} {b : Int} {p : ByteArray} {x r : Int} (h : Midr B k W X g b p x r) (o : Obj) : Midr B k W (X.alloc o) g b p x r :=
  ⟨h.one.alloc _, h.two.alloc _, h.var.alloc _, h.rd.below ((Below.refl _ _).alloc (Nat.le_refl _) _), h.bel.alloc h.bel.size _, h.lt⟩
theorem Midr.drew {B k : Nat} {W X : World} {g : Nat} {b : Int} {p : ByteArray} {x r : Int} (h : Midr B k W X g b p x r) : Midr B k W X.drew g b p x r :=
  ⟨h.one, h.two, h.var, h.rd.below (Below.refl _ _).drew, h.bel.drew, h.lt⟩
theorem Midr.setv {B k : Nat} {W X : World} {g g' o : Nat} {b : Int} {p : ByteArray} {x r : Int} (h : Midr B k W X g b p x r) (hn : g < g') (v : Value) : Midr B k W (X.setCell ⟨g', o, none⟩ v) g b p x r :=
  ⟨h.one.other (by have := h.lt; omega) _, h.two.other (by have := h.lt; omega) _, h.var.other (by omega) _, h.rd.set (by have := h.lt; omega) _, h.bel.setCell (p := ⟨g', o, none⟩) (by have := h.lt; show W.heap.size ≤ g'; omega) _, h.lt⟩
/-- Two triples in the results' blocks. -/
theorem Midr.done {B k : Nat} {W X : World} {g : Nat} {b : Int} {p : ByteArray} {x r : Int} (h : Midr B k W X g b p x r) (b' : Int) (p' : ByteArray) (x' r' : Int) :
    TripAt (set4 (set4 X W.heap.size b p x r) (W.heap.size + 1) b' p' x' r') W.heap.size b p x r ∧ TripAt (set4 (set4 X W.heap.size b p x r) (W.heap.size + 1) b' p' x' r') (W.heap.size + 1) b' p' x' r' ∧ Below W.heap.size W (set4 (set4 X W.heap.size b p x r) (W.heap.size + 1) b' p' x' r') := by
  have h1 := set4_trip h.one b p x r
  have hne : W.heap.size ≠ W.heap.size + 1 := by omega
  have hne' : W.heap.size + 1 ≠ W.heap.size := by omega
  have h2 : TripAt (set4 X W.heap.size b p x r) (W.heap.size + 1) 0 ⟨#[]⟩ 0 0 := (((h.two.other hne' _).other hne' _).other hne' _).other hne' _
  exact ⟨(((h1.other hne _).other hne _).other hne _).other hne _, set4_trip h2 b' p' x' r', set4_below (set4_below h.bel (Nat.le_refl _) b p x r) (Nat.le_succ _) b' p' x' r'⟩
/-- The loads of the first triple, behind stores to other blocks. -/
theorem four_kept {X : World} {g g' : Nat} {b : Int} {p : ByteArray} {x r : Int} (h : X.cell? ⟨g, 0, none⟩ = some (.int .i64 b) ∧ X.cell? ⟨g, 1, none⟩ = some (.string p) ∧ X.cell? ⟨g, 2, none⟩ = some (.int .i64 x) ∧ X.cell? ⟨g, 3, none⟩ = some (.int .i64 r)) (hn : g ≠ g') (b' : Int) (p' : ByteArray) (x' r' : Int) :
    (set4 X g' b' p' x' r').cell? ⟨g, 0, none⟩ = some (.int .i64 b) ∧ (set4 X g' b' p' x' r').cell? ⟨g, 1, none⟩ = some (.string p) ∧ (set4 X g' b' p' x' r').cell? ⟨g, 2, none⟩ = some (.int .i64 x) ∧ (set4 X g' b' p' x' r').cell? ⟨g, 3, none⟩ = some (.int .i64 r) := by
  have hb : (set4 X g' b' p' x' r').heap[g]? = X.heap[g]? := by
    unfold set4
    exact (heap_setCell_other _ ⟨g', 3, none⟩ g _ hn).trans ((heap_setCell_other _ ⟨g', 2, none⟩ g _ hn).trans ((heap_setCell_other _ ⟨g', 1, none⟩ g _ hn).trans (heap_setCell_other _ ⟨g', 0, none⟩ g _ hn)))
  exact ⟨(World.cell?_of_block (a := ⟨g, 0, none⟩) hb).trans h.1, (World.cell?_of_block (a := ⟨g, 1, none⟩) hb).trans h.2.1, (World.cell?_of_block (a := ⟨g, 2, none⟩) hb).trans h.2.2.1, (World.cell?_of_block (a := ⟨g, 3, none⟩) hb).trans h.2.2.2⟩

set_option maxHeartbeats 4000000 in
theorem drawR {B : Nat} {W : World} {a : Option Addr} {len cap : Nat} (h : Code B W a len cap) (hB : B ≤ W.heap.size) :
    Calls Tryz.prog 26 #[.slice a len cap] W fun e W' => ∃ (b : Int) (p : ByteArray) (x r b' : Int) (p' : ByteArray) (x' r' : Int), p.size ≤ 60 ∧ p'.size ≤ 60 ∧ e = .returned (.tuple #[.agg #[.int .i64 b, .string p, .int .i64 x, .int .i64 r], .agg #[.int .i64 b', .string p', .int .i64 x', .int .i64 r']]) ∧ Below W.heap.size W W' := by
  have z0 := (TripAt.new W 0 ⟨#[]⟩ 0 0).alloc (.cells #[.int .i64 0, .string ⟨#[]⟩, .int .i64 0, .int .i64 0] 24)
  have z1 := TripAt.new (W.alloc (.cells #[.int .i64 0, .string ⟨#[]⟩, .int .i64 0, .int .i64 0] 24)) 0 ⟨#[]⟩ 0 0
  rw [World.size_alloc] at z1
  have c0 : Below W.heap.size W ((W.alloc (.cells #[.int .i64 0, .string ⟨#[]⟩, .int .i64 0, .int .i64 0] 24)).alloc (.cells #[.int .i64 0, .string ⟨#[]⟩, .int .i64 0, .int .i64 0] 24)) := ((Below.refl _ W).alloc (Nat.le_refl _) _).alloc (by simp) _
  have hc := h.below (W' := (W.alloc (.cells #[.int .i64 0, .string ⟨#[]⟩, .int .i64 0, .int .i64 0] 24)).alloc (.cells #[.int .i64 0, .string ⟨#[]⟩, .int .i64 0, .int .i64 0] 24)) (c0.mono hB)
  go_enter Tryz.func26, Tryz.ntmps26
  go_wp2_with fail
  go_at_call 32
  have HO := open33 hc (Nat.le_trans hB c0.size)
  rw [World.size_alloc, World.size_alloc] at HO
  refine HO.mono ?_
  rintro e W1 ⟨rfl, h1, b1, hs1⟩
  go_wp2_with fail
  go_at_call 31
  refine (draw5 h1 (by omega)).mono ?_
  rintro e W2 ⟨b, p, x, r, hp, rfl, ⟨j2, hj2, h2⟩, g2⟩
  have hM : Midr B j2 W (W2.alloc (.cells #[.int .i64 b, .string p, .int .i64 x, .int .i64 r] 24)) W2.heap.size b p x r :=
    ⟨((z0.below b1 (by omega)).grown g2 (by omega)).alloc _, ((z1.below b1 (by omega)).grown g2 (by omega)).alloc _, TripAt.new W2 b p x r, h2.below ((Below.refl _ _).alloc (Nat.le_refl _) _), ((c0.trans (b1.mono (by omega))).trans ((below_of_grown g2 (by have := h1.lt; omega)).mono (by omega))).alloc ((c0.trans (b1.mono (by omega))).trans ((below_of_grown g2 (by have := h1.lt; omega)).mono (by omega))).size _, by have := h2.lt; omega⟩
  clear z0 z1 c0 hc h1 b1 h2 g2 HO hs1
  go_wp2_with fail
  go_at_call 45
  refine (pick36 hM.rd (by omega) (by omega) (by omega)).mono ?_
  rintro e W3 ⟨y, rfl, y0, y1, h3, g3⟩
  have hM3 := hM.ran h3 g3
  clear hM h3 g3
  generalize W2.heap.size = g at hM3 ⊢
  obtain ⟨c0, c1, c2, c3⟩ := hM3.var.cells
  have hlt := hM3.lt
  have hn1 : g ≠ W.heap.size := by omega
  have hn2 : g ≠ W.heap.size + 1 := by omega
  obtain ⟨k0, k1, k2, k3⟩ := hM3.one.frozen
  obtain ⟨m0, m1, m2, m3⟩ := hM3.two.frozen
  by_cases q0 : y = 0
  · subst q0
    go_wp2_with fail
    have hM3 := hM3.drew
    refine wp_region_held (S := fun w' => TripAt w' g b p x r) (by kernel_rfl) ?_
    refine wpAnyH_take (i := 0) (v := .agg #[.int .i64 b, .string p, .int .i64 x, .int .i64 r]) rfl (by kernel_rfl) (by kernel_rfl) (by kernel_rfl) (fun _ _ _ h => h) (Or.inl ⟨by rfl, fun w hw => by obtain ⟨c0, c1, c2, c3⟩ := hw.cells; first | (go_simp; done) | rfl⟩) hM3.var ?_
    go_simp
    refine wpAnyH_take (i := 1) (v := .pointer (some ⟨W.heap.size + 1 + 1, 0, none⟩)) rfl (by kernel_rfl) (by kernel_rfl) (by kernel_rfl) (fun _ _ _ h => h) (Or.inl ⟨by rfl, fun w hw => by go_simp⟩) hM3.var ?_
    go_simp
    refine wpAnyH_ready (rs := [2]) (by kernel_rfl) (by simp) ?_
    refine AllReadyH.cons rfl (fun K hK => ?_) AllReadyH.nil
    go_simp
    go_wp2_with (go_at_call 31; refine (draw5 hM3.rd (by omega)).mono ?_; rintro e W4 ⟨b', p', x', r', hp', rfl, ⟨j4, hj4, h4⟩, g4⟩; have hM4 := hM3.ran h4 g4)
    refine hK _ _ hM4.var (fun _ => ?_)
    clear hK K
    go_simp
    obtain ⟨e0, e1, e2, e3⟩ := hM4.one.cells
    obtain ⟨k0, k1, k2, k3⟩ := hM4.one.frozen
    obtain ⟨s1, s2, s3⟩ := hM4.done b' p' x' r'
    have v1 : TripAt (set4 W4 W.heap.size b p x r) g b p x r := (((hM4.var.other hn1 _).other hn1 _).other hn1 _).other hn1 _
    have v2 : TripAt (set4 (set4 W4 W.heap.size b p x r) (W.heap.size + 1) b' p' x' r') g b p x r := (((v1.other hn2 _).other hn2 _).other hn2 _).other hn2 _
    have u1 : TripAt (set4 W4 W.heap.size b p x r) (W.heap.size + 1) 0 ⟨#[]⟩ 0 0 := (((hM4.two.other (Nat.succ_ne_self _) _).other (Nat.succ_ne_self _) _).other (Nat.succ_ne_self _) _).other (Nat.succ_ne_self _) _
    obtain ⟨n0, n1, n2, n3⟩ := u1.cells
    obtain ⟨m0, m1, m2, m3⟩ := u1.frozen
    unfold set4 at s1 s2 s3 v1 v2 n0 n1 n2 n3 m0 m1 m2 m3
    refine wpAnyH_ready (rs := [3]) (by kernel_rfl) (by simp) ?_
    refine AllReadyH.cons rfl (fun K hK => ?_) AllReadyH.nil
    go_simp
    refine hK _ _ v1 (fun _ => ?_)
    clear hK K
    go_simp
    refine wpAnyH_ready (rs := [4]) (by kernel_rfl) (by simp) ?_
    refine AllReadyH.cons rfl (fun K hK => ?_) AllReadyH.nil
    go_simp
    refine hK _ _ v2 (fun _ => ?_)
    clear hK K
    go_simp
    refine wpAnyH_done (by kernel_rfl) ?_ _
    go_wp2_with fail
    obtain ⟨a0, a1, a2, a3⟩ := s1.cells
    obtain ⟨d0, d1, d2, d3⟩ := s2.cells
    exact bodyPost_ret (v := .tuple #[.agg #[.int .i64 b, .string p, .int .i64 x, .int .i64 r], .agg #[.int .i64 b', .string p', .int .i64 x', .int .i64 r']]) (by simp [results, Tryz.results26, go_sem, a0, a1, a2, a3, d0, d1, d2, d3]) rfl ⟨b, p, x, r, b', p', x', r', hp, hp', rfl, s3⟩
  · have n0 : (y == 0) = false := by simpa using q0
    have hM4 := hM3.alloc (.cells #[.int .i64 b, .string p, .int .i64 x, .int .i64 r] 24)
    have hV4 := TripAt.new W3 b p x r
    have hg6 := hM3.var.lt
    go_wp2_with fail
    generalize W3.alloc (.cells #[.int .i64 b, .string p, .int .i64 x, .int .i64 r] 24) = X at hM4 hV4 ⊢
    generalize W3.heap.size = g6 at hV4 hg6 ⊢
    have hM5 := hM4.drew
    have hV5 : TripAt X.drew g6 b p x r := hV4
    refine wp_region_held (S := fun w' => TripAt w' g b p x r) (by kernel_rfl) ?_
    refine wpAnyH_take (i := 0) (v := .pointer (some ⟨g, 0, none⟩)) rfl (by kernel_rfl) (by kernel_rfl) (by kernel_rfl) (fun _ _ _ h => h) (Or.inl ⟨by rfl, fun w hw => by go_simp⟩) hM5.var ?_
    go_simp
    refine wpAnyH_take (i := 1) (v := .int .i64 b) rfl (by kernel_rfl) (by kernel_rfl) (by kernel_rfl) (fun _ _ _ h => h) (Or.inl ⟨by rfl, fun w hw => by obtain ⟨c0, c1, c2, c3⟩ := hw.cells; first | (go_simp; done) | rfl⟩) hM5.var ?_
    go_simp
    refine wpAnyH_take (i := 2) (v := .pointer (some ⟨W.heap.size + 1 + 1, 0, none⟩)) rfl (by kernel_rfl) (by kernel_rfl) (by kernel_rfl) (fun _ _ _ h => h) (Or.inl ⟨by rfl, fun w hw => by go_simp⟩) hM5.var ?_
    go_simp
    refine wpAnyH_ready (rs := [3]) (by kernel_rfl) (by simp) ?_
    refine AllReadyH.cons rfl (fun K hK => ?_) AllReadyH.nil
    go_simp
    go_wp2_with (go_at_call 57; refine (good37g hM5.rd (by omega)).mono ?_; rintro e W6 ⟨z, rfl, ⟨j6, hj6, h6⟩, r6⟩; have hM6 := hM5.ran h6 r6; have hV6 := hV5.grown r6 (by omega))
    refine hK _ _ hM6.var (fun _ => ?_)
    clear hK K
    go_simp
    refine wpAnyH_take (i := 4) (v := .int .i64 (bits .or .i64 b z)) rfl (by kernel_rfl) (by kernel_rfl) (by kernel_rfl) (fun _ _ _ h => h) (Or.inl ⟨by rfl, fun w hw => by go_simp⟩) hM6.var ?_
    go_simp
    refine wpAnyH_take (i := 5) (v := .int .i64 (bits .and .i64 (bits .or .i64 b z) 511)) rfl (by kernel_rfl) (by kernel_rfl) (by kernel_rfl) (fun _ _ _ h => h) (Or.inl ⟨by rfl, fun w hw => by go_simp⟩) hM6.var ?_
    go_simp
    refine wpAnyH_take (i := 6) (v := .pointer (some ⟨g6, 0, none⟩)) rfl (by kernel_rfl) (by kernel_rfl) (by kernel_rfl) (fun _ _ _ h => h) (Or.inl ⟨by rfl, fun w hw => by go_simp⟩) hM6.var ?_
    go_simp
    generalize (bits .and .i64 (bits .or .i64 b z) 511) = nb
    obtain ⟨e0, e1, e2, e3⟩ := hV6.cells
    obtain ⟨k0, k1, k2, k3⟩ := hV6.frozen
    have hM7 := hM6.setv (o := 0) hg6 (.int .i64 nb)
    have hV7 := set_before hV6 nb
    refine wpAnyH_ready (rs := [7]) (by kernel_rfl) (by simp) ?_
    refine AllReadyH.cons rfl (fun K hK => ?_) AllReadyH.nil
    go_simp
    refine hK _ _ hM7.var (fun _ => ?_)
    clear hK K
    go_simp
    refine wpAnyH_done (by kernel_rfl) ?_ _
    generalize W6.setCell ⟨g6, 0, none⟩ (.int .i64 nb) = Y at hM7 hV7 ⊢
    clear e0 e1 e2 e3 k0 k1 k2 k3
    go_wp2_with fail
    go_at_call 57
    refine (good37g hM7.rd (by omega)).mono ?_
    rintro e W8 ⟨z2, rfl, ⟨j8, hj8, h8⟩, r8⟩
    have hM8 := hM7.ran h8 r8
    have hV8 := hV7.grown r8 (by omega)
    have hM9 := (hM8.setv (o := 3) hg6 (.int .i64 z2)).drew
    have hV9 := set_behind hV8 z2
    obtain ⟨e0, e1, e2, e3⟩ := hV8.cells
    obtain ⟨k0, k1, k2, k3⟩ := hV8.frozen
    go_wp2_with fail
    generalize W8.setCell ⟨g6, 3, none⟩ (.int .i64 z2) = Z at hM9 hV9 ⊢
    replace hV9 : TripAt Z.drew g6 nb p x z2 := hV9
    clear e0 e1 e2 e3 k0 k1 k2 k3
    refine wp_region_held (S := fun w' => TripAt w' g b p x r ∧ TripAt w' g6 nb p x z2) (by kernel_rfl) ?_
    refine wpAnyH_take (i := 0) (v := .agg #[.int .i64 b, .string p, .int .i64 x, .int .i64 r]) rfl (by kernel_rfl) (by kernel_rfl) (by kernel_rfl) (fun _ _ _ h => h) (Or.inl ⟨by rfl, fun w hw => by obtain ⟨c0, c1, c2, c3⟩ := hw.1.cells; first | (go_simp; done) | rfl⟩) ⟨hM9.var, hV9⟩ ?_
    go_simp
    refine wpAnyH_take (i := 1) (v := .agg #[.int .i64 nb, .string p, .int .i64 x, .int .i64 z2]) rfl (by kernel_rfl) (by kernel_rfl) (by kernel_rfl) (fun _ _ _ h => h) (Or.inl ⟨by rfl, fun w hw => by obtain ⟨c0, c1, c2, c3⟩ := hw.2.cells; first | (go_simp; done) | rfl⟩) ⟨hM9.var, hV9⟩ ?_
    go_simp
    generalize Z.drew = U at hM9 hV9 ⊢
    obtain ⟨e0, e1, e2, e3⟩ := hM9.one.cells
    obtain ⟨k0, k1, k2, k3⟩ := hM9.one.frozen
    have hq1 : g6 ≠ W.heap.size := by omega
    have hq2 : g6 ≠ W.heap.size + 1 := by omega
    obtain ⟨s1, s2, s3⟩ := hM9.done nb p x z2
    have v1 : TripAt (set4 U W.heap.size b p x r) g b p x r := (((hM9.var.other hn1 _).other hn1 _).other hn1 _).other hn1 _
    have v2 : TripAt (set4 (set4 U W.heap.size b p x r) (W.heap.size + 1) nb p x z2) g b p x r := (((v1.other hn2 _).other hn2 _).other hn2 _).other hn2 _
    have y1 : TripAt (set4 U W.heap.size b p x r) g6 nb p x z2 := (((hV9.other hq1 _).other hq1 _).other hq1 _).other hq1 _
    have y2 : TripAt (set4 (set4 U W.heap.size b p x r) (W.heap.size + 1) nb p x z2) g6 nb p x z2 := (((y1.other hq2 _).other hq2 _).other hq2 _).other hq2 _
    have u1 : TripAt (set4 U W.heap.size b p x r) (W.heap.size + 1) 0 ⟨#[]⟩ 0 0 := (((hM9.two.other (Nat.succ_ne_self _) _).other (Nat.succ_ne_self _) _).other (Nat.succ_ne_self _) _).other (Nat.succ_ne_self _) _
    obtain ⟨n0, n1, n2, n3⟩ := u1.cells
    obtain ⟨m0, m1, m2, m3⟩ := u1.frozen
    unfold set4 at s1 s2 s3 v1 v2 y1 y2 n0 n1 n2 n3 m0 m1 m2 m3
    refine wpAnyH_ready (rs := [2]) (by kernel_rfl) (by simp) ?_
    refine AllReadyH.cons rfl (fun K hK => ?_) AllReadyH.nil
    go_simp
    refine hK _ _ ⟨v1, y1⟩ (fun _ => ?_)
    clear hK K
    go_simp
    refine wpAnyH_ready (rs := [3]) (by kernel_rfl) (by simp) ?_
    refine AllReadyH.cons rfl (fun K hK => ?_) AllReadyH.nil
    go_simp
    refine hK _ _ ⟨v2, y2⟩ (fun _ => ?_)
    clear hK K
    go_simp
    refine wpAnyH_done (by kernel_rfl) ?_ _
    go_wp2_with fail
    obtain ⟨a0, a1, a2, a3⟩ := s1.cells
    obtain ⟨d0, d1, d2, d3⟩ := s2.cells
    exact bodyPost_ret (v := .tuple #[.agg #[.int .i64 b, .string p, .int .i64 x, .int .i64 r], .agg #[.int .i64 nb, .string p, .int .i64 x, .int .i64 z2]]) (by simp [results, Tryz.results26, go_sem, a0, a1, a2, a3, d0, d1, d2, d3]) rfl ⟨b, p, x, r, nb, p, x, z2, hp, hp, rfl, s3⟩
theorem none_iff (a b : Int) : (bits .andNot .i64 a b == 0) = true ↔ BitVec.ofInt 64 a &&& ~~~ BitVec.ofInt 64 b = 0#64 := by
  have e : bits .andNot .i64 a b = IntKind.i64.wrap ((BitVec.ofInt 64 a &&& ~~~ BitVec.ofInt 64 b).toNat : Int) := rfl
  rw [e, beq_iff_eq]
  have hlt := (BitVec.ofInt 64 a &&& ~~~ BitVec.ofInt 64 b).isLt
  generalize BitVec.ofInt 64 a &&& ~~~ BitVec.ofInt 64 b = v at hlt
  rw [IntKind.wrap_i64]
  constructor
  · intro h
    apply BitVec.eq_of_toNat_eq
    show v.toNat = 0
    omega
  · intro h
    have h0 : v.toNat = 0 := by rw [h]; rfl
    omega
theorem sub_trans {A B C : BitVec 64} (h1 : A &&& ~~~ B = 0#64) (h2 : B &&& ~~~ C = 0#64) : A &&& ~~~ C = 0#64 := by
  ext i hi
  have e1 := congrArg (fun v => v[i]) h1
  have e2 := congrArg (fun v => v[i]) h2
  simp at e1 e2 ⊢
  intro ha
  exact e2 (e1 ha)
theorem sub_or (a b : Nat) : BitVec.ofInt 64 (a : Int) &&& ~~~ BitVec.ofInt 64 ((a ||| b : Nat) : Int) = 0#64 := by
  rw [BitVec.ofInt_natCast, BitVec.ofInt_natCast]
  ext i hi
  simp
  intro h h2
  simp [h] at h2
theorem or_sub {a b : Nat} (ha : a < 512) (h : BitVec.ofInt 64 (a : Int) &&& ~~~ BitVec.ofInt 64 (b : Int) = 0#64) : a ||| b = b := by
  rw [BitVec.ofInt_natCast, BitVec.ofInt_natCast] at h
  apply Nat.eq_of_testBit_eq
  intro i
  by_cases hi : i < 64
  · have e := congrArg (fun v => v.getLsbD i) h
    simp only [BitVec.getLsbD_and, BitVec.getLsbD_not, BitVec.getLsbD_ofNat, Nat.zero_testBit, hi, decide_true, Bool.true_and] at e
    rw [Nat.testBit_or]
    cases h1 : a.testBit i with
    | false => rfl
    | true =>
      cases h2 : b.testBit i with
      | true => rfl
      | false => rw [h1, h2] at e; cases e
  · have : a.testBit i = false := Nat.testBit_lt_two_pow (Nat.lt_of_lt_of_le ha (by
      calc 512 = 2 ^ 9 := rfl
        _ ≤ 2 ^ i := Nat.pow_le_pow_right (by decide) (by omega)))
    rw [Nat.testBit_or, this, Bool.false_or]
theorem reach_mono {p : ByteArray} {b b' x : Int} (h1 : reachB p b x = true) (h2 : reachB p b' x = true) (h : (bits .andNot .i64 b b' == 0) = true) : (bits .andNot .i64 (reachN p b x) (reachN p b' x) == 0) = true := by
  obtain ⟨nd, m, hP, hm, rfl, hx, hn⟩ := reach_true h1
  obtain ⟨nd', m', hP', hm', rfl, hx', hn'⟩ := reach_true h2
  rw [hP] at hP'
  obtain rfl := Option.some.inj hP'
  have e := or_sub hm ((none_iff _ _).1 h)
  have ho := run_or nd m m'
  rw [e] at ho
  have hq : exitN x (runR nd m') = exitN x (runR nd m) ||| exitN x (runR nd m') := by
    conv => lhs; rw [ho]
    unfold exitN both2
    split <;> rfl
  rw [hn, hn', none_iff, hq]
  exact sub_or _ _
/-- What refutes a triple leaves it not held always. -/
theorem ref_not_always {b : Int} {p : ByteArray} {x r b' : Int} {p' : ByteArray} {x' r' : Int} (h : refT b p x r b' p' x' r' = true) : alwaysT b' p' x' r' = false := by
  rw [ref_eq] at h
  simp only [Bool.and_eq_true, decide_eq_true_eq] at h
  obtain ⟨⟨⟨⟨h1, h2⟩, rfl⟩, rfl⟩, h3, h4⟩ := h
  unfold sureT at h1
  rw [Bool.and_eq_true] at h1
  have hm := reach_mono (reach_valid h1.1) (reach_valid h2) h3
  cases ha : alwaysT b' p x r' with
  | false => rfl
  | true =>
    unfold alwaysT at ha
    rw [Bool.and_eq_true] at ha
    have := (none_iff _ _).2 (sub_trans ((none_iff _ _).1 h1.2) (sub_trans ((none_iff _ _).1 hm) ((none_iff _ _).1 ha.2)))
    rw [beq_iff_eq] at this
    rw [this] at h4
    exact absurd h4 (by decide)
/-- The most that is sure refutes exactly what does not hold always. -/
theorem most_refutes {b : Int} {p : ByteArray} {x r : Int} (h : validT b p x r = true) : refT b p x (reachN p b x) b p x r = !alwaysT b p x r := by
  have hro := reach_valid h
  have hzs := reach_set hro
  have hvm : validT b p x (reachN p b x) = true := by rw [valid_reach, hro, hzs]; rfl
  rw [ref_eq, (sure_yes hvm).1, none_left, none_left, h]
  unfold alwaysT
  rw [h]
  simp [bne]

theorem eqSame (a : Int) (t : ByteArray) (x r : Int) (w : World) : (Op.equalIn 10000 24 (.agg #[.int .i64 a, .string t, .int .i64 x, .int .i64 r]) (.agg #[.int .i64 a, .string t, .int .i64 x, .int .i64 r])).run Tryz.prog w = .ok true w := by
  rw [show (10000 : Nat) = 9999 + 1 from rfl, run_equalIn_struct w 9999 24 _ _ (by kernel_rfl) (by kernel_rfl)]
  have hl : (Tryz.prog.fieldsOf 24).toList = [⟨"Before", 3, 0, false, "", "", 0⟩, ⟨"Program", 9, 1, false, "", "", 8⟩, ⟨"Exit", 3, 2, false, "", "", 24⟩, ⟨"Behind", 3, 3, false, "", "", 32⟩] := by kernel_rfl
  have u3 : ∀ (x y : Int) (w : World), (Op.equalIn 9999 3 (.int .i64 x) (.int .i64 y)).run Tryz.prog w = .ok (x == y) w := fun x y w => run_equalIn_int w 9998 3 .i64 .i64 x y Tryz.underlying3
  have u9 : ∀ (x y : ByteArray) (w : World), (Op.equalIn 9999 9 (.string x) (.string y)).run Tryz.prog w = .ok (x.toList == y.toList) w := fun x y w => run_equalIn_string w 9998 9 x y Tryz.underlying9
  have q0 : ∀ (a : Int) (t : ByteArray) (x r : Int) (w : World), (part 3 #[.int .i64 a, .string t, .int .i64 x, .int .i64 r] 0).run Tryz.prog w = .ok (.int .i64 a) w := fun a t x r w => by kernel_rfl
  have q1 : ∀ (a : Int) (t : ByteArray) (x r : Int) (w : World), (part 9 #[.int .i64 a, .string t, .int .i64 x, .int .i64 r] 1).run Tryz.prog w = .ok (.string t) w := fun a t x r w => by kernel_rfl
  have q2 : ∀ (a : Int) (t : ByteArray) (x r : Int) (w : World), (part 3 #[.int .i64 a, .string t, .int .i64 x, .int .i64 r] 2).run Tryz.prog w = .ok (.int .i64 x) w := fun a t x r w => by kernel_rfl
  have q3 : ∀ (a : Int) (t : ByteArray) (x r : Int) (w : World), (part 3 #[.int .i64 a, .string t, .int .i64 x, .int .i64 r] 3).run Tryz.prog w = .ok (.int .i64 r) w := fun a t x r w => by kernel_rfl
  rw [hl]
  have n1 : "Before" ≠ "_" := by decide
  have n2 : "Program" ≠ "_" := by decide
  have n3 : "Exit" ≠ "_" := by decide
  have n4 : "Behind" ≠ "_" := by decide
  simp [Op.eqFields, n1, n2, n3, n4, Sem.run_bind, q0, q1, q2, q3, u3, u9]

set_option maxHeartbeats 1000000 in
theorem drawM {B : Nat} {W : World} {a : Option Addr} {len cap : Nat} (h : Code B W a len cap) (hB : B ≤ W.heap.size) :
    Calls Tryz.prog 28 #[.slice a len cap] W fun e W' => ∃ (p : ByteArray) (s x : Int), p.size ≤ 130 ∧ e = .returned (.tuple #[.int .i64 s, .string p, .int .i64 x]) ∧ Below W.heap.size W W' := by
  go_enter Tryz.func28, Tryz.ntmps28
  go_wp2_with fail
  go_at_call 60
  refine (drawR5 h hB).mono ?_
  rintro e W1 ⟨p, s, x, hp, rfl, b1⟩
  go_wp2_with fail
  exact bodyPost_ret (v := .tuple #[.int .i64 s, .string p, .int .i64 x]) (by simp [results, Tryz.results28, go_sem]) rfl ⟨p, s, x, hp, rfl, b1⟩

set_option maxHeartbeats 8000000 in
theorem refutes_walk (w : World) (a0 : Option Addr) (len0 cap0 : Nat) (hC0 : Code w.heap.size w a0 len0 cap0) (hlen0 : len0 ≤ 1048576) (a : Option Addr) (len cap : Nat) (hC1 : Code w.heap.size w a len cap) (hlen : len ≤ 1048576) {N : Nat} (hL : Laid3 N w) (hE : NoTrip N w) :
    Calls Tryz.prog 5 #[.slice a0 len0 cap0, .slice a len cap] w fun e w' => e = .returned (.bool true) ∧ Below w.heap.size w w' := by
  have hli : (len : Int) ≤ 1048576 := by omega
  have hli0 : (len0 : Int) ≤ 1048576 := by omega
  go_enter Tryz.func5, Tryz.ntmps5
  go_wp2_with fail
  go_at_call 26
  refine (drawR hC0 (Nat.le_refl _)).mono ?_
  rintro e W1 ⟨b, p, x, r, b', p', x', r', hp, hp', rfl, hb1⟩
  have hA := (TripAt.new W1 b p x r).alloc (.cells #[.int .i64 b', .string p', .int .i64 x', .int .i64 r'] 24)
  have hB := TripAt.new (W1.alloc (.cells #[.int .i64 b, .string p, .int .i64 x, .int .i64 r] 24)) b' p' x' r'
  rw [World.size_alloc] at hB
  have hcur := (hb1.alloc hb1.size (.cells #[.int .i64 b, .string p, .int .i64 x, .int .i64 r] 24)).alloc (hb1.alloc hb1.size (.cells #[.int .i64 b, .string p, .int .i64 x, .int .i64 r] 24)).size (.cells #[.int .i64 b', .string p', .int .i64 x', .int .i64 r'] 24)
  clear hb1
  obtain ⟨c0, c1, c2, c3⟩ := hA.cells
  obtain ⟨d0, d1, d2, d3⟩ := hB.cells
  have aR := fun (X : World) (hX : Laid3 N X) (hY : NoTrip N X) => pref28 b p x r b' p' x' r' X hX hY
  have mR := fun X => mref27 b p x r b' p' x' r' (by omega) (by omega) X
  have aB := fun (X : World) (hX : Laid3 N X) => pmost26 b' p' x' X hX
  have aW := fun (X : World) (hX : Laid3 N X) (hY : NoTrip N X) => palways24 b' p' x' r' X hX hY
  have aV := fun (X : World) (hX : Laid3 N X) => ptvalid b' p' x' r' X hX
  have hna := ref_not_always (b := b) (p := p) (x := x) (r := r) (b' := b') (p' := p') (x' := x') (r' := r')
  by_cases hv : validT b' p' x' r' = true
  · have hro := reach_valid hv
    have hmr := most_refutes hv
    have aF := fun (X : World) (hX : Laid3 N X) (hY : NoTrip N X) => pref28 b' p' x' (reachN p' b' x') b' p' x' r' X hX hY
    have hmo : mostT b' p' x' = ⟨b', p', x', reachN p' b' x'⟩ := by unfold mostT; rw [if_pos hro]
    rw [hmr] at aF
    rw [hmo, hro] at aB
    rw [hv] at aV
    dsimp only at aB
    clear hro hmr hmo hv
    obtain ⟨yb, hyb⟩ : ∃ yb, yb = b' := ⟨_, rfl⟩
    obtain ⟨yp, hyp⟩ : ∃ yp, yp = p' := ⟨_, rfl⟩
    obtain ⟨yx, hyx⟩ : ∃ yx, yx = x' := ⟨_, rfl⟩
    have aB2 : ∀ (X : World), Laid3 N X → Calls Tryz.prog 23 #[.int .i64 b', .string p', .int .i64 x'] X fun e w' => e = .returned (.tuple #[.agg #[.int .i64 yb, .string yp, .int .i64 yx, .int .i64 (reachN p' b' x')], .bool true]) ∧ Below X.heap.size X w' := by subst hyb hyp hyx; exact aB
    have aF2 : ∀ (X : World), Laid3 N X → NoTrip N X → Calls Tryz.prog 27 #[.agg #[.int .i64 yb, .string yp, .int .i64 yx, .int .i64 (reachN p' b' x')], .agg #[.int .i64 b', .string p', .int .i64 x', .int .i64 r']] X fun e w' => e = .returned (.bool (!alwaysT b' p' x' r')) ∧ Below X.heap.size X w' := by subst hyb hyp hyx; exact aF
    clear aB aF hyb hyp hyx
    have aB := aB2
    have aF := aF2
    clear aB2 aF2
    generalize reachN p' b' x' = yr at aB aF
    generalize alwaysT b' p' x' r' = al at aW aF hna
    generalize refT b p x r b' p' x' r' = s at aR mR hna
    cases s with
    | false =>
      clear hna
      cases al with
      | false =>
        go_wp2_with fail
        go_at_call 27
        refine (aR _ (hL.below hcur hL.lt) (hE.below hcur hL.lt)).mono ?_
        rintro e W2 ⟨rfl, hb⟩
        replace hcur := hcur.trans (hb.mono hcur.size); replace hA := hA.below hb hA.lt; replace hB := hB.below hb hB.lt; clear hb
        generalize W1.heap.size = g5 at hA hB ⊢
        go_wp2_with fail
        go_at_call 28
        refine (drawM (hC1.below hcur) hcur.size).mono ?_
        rintro e W3 ⟨p2, s2, x2, hp2, rfl, hb⟩
        replace hcur := hcur.trans (hb.mono hcur.size); replace hA := hA.below hb hA.lt; replace hB := hB.below hb hB.lt; clear hb
        have aM := fun (X : World) (hX : Laid3 N X) => pmost26 s2 p2 x2 X hX
        have mM := fun X => mmost25 s2 p2 (by omega) x2 X
        generalize mostT s2 p2 x2 = zz at aM mM
        generalize reachB p2 s2 x2 = okk at aM mM
        obtain ⟨zb, zp, zx, zr⟩ := zz
        dsimp only at aM mM
        have he := fun X => eqSame zb zp zx zr X
        go_wp2_with fail
        go_at_call 23
        refine (aM _ (hL.below hcur hL.lt)).mono ?_
        rintro e W4 ⟨rfl, hb⟩
        replace hcur := hcur.trans (hb.mono hcur.size); replace hA := hA.below hb hA.lt; replace hB := hB.below hb hB.lt; clear hb
        have hM1 := TripAt.new W4 zb zp zx zr
        replace hA := hA.alloc (.cells #[.int .i64 zb, .string zp, .int .i64 zx, .int .i64 zr] 24)
        replace hB := hB.alloc (.cells #[.int .i64 zb, .string zp, .int .i64 zx, .int .i64 zr] 24)
        replace hcur := hcur.alloc hcur.size (.cells #[.int .i64 zb, .string zp, .int .i64 zx, .int .i64 zr] 24)
        go_wp2_with fail
        generalize W4.heap.size = g11 at hM1 ⊢
        generalize W4.alloc (.cells #[.int .i64 zb, .string zp, .int .i64 zx, .int .i64 zr] 24) = X4 at hcur hA hB hM1 ⊢
        go_at_call 29
        refine (mM _).mono ?_
        rintro e W5 ⟨rfl, hb⟩
        replace hcur := hcur.trans (hb.mono hcur.size); replace hA := hA.below hb hA.lt; replace hB := hB.below hb hB.lt; replace hM1 := hM1.below hb hM1.lt; clear hb
        have hM2 := TripAt.new W5 zb zp zx zr
        replace hA := hA.alloc (.cells #[.int .i64 zb, .string zp, .int .i64 zx, .int .i64 zr] 24)
        replace hB := hB.alloc (.cells #[.int .i64 zb, .string zp, .int .i64 zx, .int .i64 zr] 24)
        replace hM1 := hM1.alloc (.cells #[.int .i64 zb, .string zp, .int .i64 zx, .int .i64 zr] 24)
        replace hcur := hcur.alloc hcur.size (.cells #[.int .i64 zb, .string zp, .int .i64 zx, .int .i64 zr] 24)
        obtain ⟨c0, c1, c2, c3⟩ := hA.cells
        obtain ⟨d0, d1, d2, d3⟩ := hB.cells
        go_wp2_with fail
        clear c0 c1 c2 c3 d0 d1 d2 d3
        generalize W5.heap.size = g13 at hM2 ⊢
        generalize W5.alloc (.cells #[.int .i64 zb, .string zp, .int .i64 zx, .int .i64 zr] 24) = X5 at hcur hA hB hM1 hM2 ⊢
        go_at_call 30
        refine (mR _).mono ?_
        rintro e W6 ⟨rfl, hb⟩
        replace hcur := hcur.trans (hb.mono hcur.size); replace hA := hA.below hb hA.lt; replace hB := hB.below hb hB.lt; replace hM1 := hM1.below hb hM1.lt; replace hM2 := hM2.below hb hM2.lt; clear hb
        obtain ⟨d0, d1, d2, d3⟩ := hB.cells
        obtain ⟨m0, m1, m2, m3⟩ := hM1.cells
        obtain ⟨n0, n1, n2, n3⟩ := hM2.cells
        go_wp2_with fail
        go_at_call 23
        refine (aB _ (hL.below hcur hL.lt)).mono ?_
        rintro e W8 ⟨rfl, hb⟩
        replace hcur := hcur.trans (hb.mono hcur.size); replace hB := hB.below hb hB.lt; clear hb
        have hM3 := TripAt.new W8 yb yp yx yr
        replace hB := hB.alloc (.cells #[.int .i64 yb, .string yp, .int .i64 yx, .int .i64 yr] 24)
        replace hcur := hcur.alloc hcur.size (.cells #[.int .i64 yb, .string yp, .int .i64 yx, .int .i64 yr] 24)
        go_wp2_with fail
        generalize W8.heap.size = g15 at hM3 ⊢
        generalize W8.alloc (.cells #[.int .i64 yb, .string yp, .int .i64 yx, .int .i64 yr] 24) = X8 at hcur hB hM3 ⊢
        replace hcur := hcur.drew
        replace hB : TripAt X8.drew (g5 + 1) b' p' x' r' := hB
        replace hM3 : TripAt X8.drew g15 yb yp yx yr := hM3
        refine wp_region_held (S := fun w' => TripAt w' (g5 + 1) b' p' x' r' ∧ TripAt w' g15 yb yp yx yr) (by kernel_rfl) ?_
        have hS := And.intro hB hM3
        clear hB hM3
        refine wpAnyH_take (i := 0) (v := .bool true) rfl (by kernel_rfl) (by kernel_rfl) (by kernel_rfl) (fun _ _ _ h => h) (Or.inl ⟨by rfl, fun w hw => by go_simp⟩) hS ?_
        go_simp
        refine wpAnyH_take (i := 1) (v := .bool false) rfl (by kernel_rfl) (by kernel_rfl) (by kernel_rfl) (fun _ _ _ h => h) (Or.inl ⟨by rfl, fun w hw => by go_simp⟩) hS ?_
        go_simp
        refine wpAnyH_take (i := 2) (v := .bool false) rfl (by kernel_rfl) (by kernel_rfl) (by kernel_rfl) (fun _ _ _ h => h) (Or.inl ⟨by rfl, fun w hw => by go_simp⟩) hS ?_
        go_simp
        refine wpAnyH_take (i := 3) (v := .agg #[.int .i64 b', .string p', .int .i64 x', .int .i64 r']) rfl (by kernel_rfl) (by kernel_rfl) (by kernel_rfl) (fun _ _ _ h => h) (Or.inl ⟨by rfl, fun w hw => by obtain ⟨c0, c1, c2, c3⟩ := hw.1.cells; first | (go_simp; done) | rfl⟩) hS ?_
        go_simp
        refine wpAnyH_ready (rs := [4]) (by kernel_rfl) (by simp) ?_
        refine AllReadyH.cons rfl (fun K hK => ?_) AllReadyH.nil
        go_simp
        go_wp2_with (go_at_call 10; refine (aV _ (hL.below hcur hL.lt)).mono ?_; rintro e W9 ⟨rfl, hb⟩; replace hcur := hcur.trans (hb.mono hcur.size))
        refine hK _ _ (⟨hS.1.below hb hS.1.lt, hS.2.below hb hS.2.lt⟩) (fun hS2 => ?_)
        clear hK K
        go_simp
        refine wpAnyH_take (i := 5) (v := .bool false) rfl (by kernel_rfl) (by kernel_rfl) (by kernel_rfl) (fun _ _ _ h => h) (Or.inl ⟨by rfl, fun w hw => by go_simp⟩) hS2 ?_
        go_simp
        refine wpAnyH_take (i := 6) (v := .bool false) rfl (by kernel_rfl) (by kernel_rfl) (by kernel_rfl) (fun _ _ _ h => h) (Or.inl ⟨by rfl, fun w hw => by go_simp⟩) hS2 ?_
        go_simp
        refine wpAnyH_take (i := 7) (v := .bool false) rfl (by kernel_rfl) (by kernel_rfl) (by kernel_rfl) (fun _ _ _ h => h) (Or.inl ⟨by rfl, fun w hw => by go_simp⟩) hS2 ?_
        go_simp
        refine wpAnyH_take (i := 8) (v := .agg #[.int .i64 yb, .string yp, .int .i64 yx, .int .i64 yr]) rfl (by kernel_rfl) (by kernel_rfl) (by kernel_rfl) (fun _ _ _ h => h) (Or.inl ⟨by rfl, fun w hw => by obtain ⟨c0, c1, c2, c3⟩ := hw.2.cells; first | (go_simp; done) | rfl⟩) hS2 ?_
        go_simp
        refine wpAnyH_take (i := 9) (v := .agg #[.int .i64 b', .string p', .int .i64 x', .int .i64 r']) rfl (by kernel_rfl) (by kernel_rfl) (by kernel_rfl) (fun _ _ _ h => h) (Or.inl ⟨by rfl, fun w hw => by obtain ⟨c0, c1, c2, c3⟩ := hw.1.cells; first | (go_simp; done) | rfl⟩) hS2 ?_
        go_simp
        refine wpAnyH_take (i := 11) (v := .agg #[.int .i64 b', .string p', .int .i64 x', .int .i64 r']) rfl (by kernel_rfl) (by kernel_rfl) (by kernel_rfl) (fun _ _ _ h => h) (Or.inl ⟨by rfl, fun w hw => by obtain ⟨c0, c1, c2, c3⟩ := hw.1.cells; first | (go_simp; done) | rfl⟩) hS2 ?_
        go_simp
        refine wpAnyH_ready (rs := [10]) (by kernel_rfl) (by simp) ?_
        refine AllReadyH.cons rfl (fun K hK => ?_) AllReadyH.nil
        go_simp
        go_wp2_with (go_at_call 27; refine (aF _ (hL.below hcur hL.lt) (hE.below hcur hL.lt)).mono ?_; rintro e W10 ⟨rfl, hb⟩; replace hcur := hcur.trans (hb.mono hcur.size))
        refine hK _ _ (⟨hS2.1.below hb hS2.1.lt, hS2.2.below hb hS2.2.lt⟩) (fun hS3 => ?_)
        clear hK K
        go_simp
        refine wpAnyH_ready (rs := [12]) (by kernel_rfl) (by simp) ?_
        refine AllReadyH.cons rfl (fun K hK => ?_) AllReadyH.nil
        go_simp
        go_wp2_with (go_at_call 16; refine (aW _ (hL.below hcur hL.lt) (hE.below hcur hL.lt)).mono ?_; rintro e W11 ⟨rfl, hb⟩; replace hcur := hcur.trans (hb.mono hcur.size))
        refine hK _ _ (⟨hS3.1.below hb hS3.1.lt, hS3.2.below hb hS3.2.lt⟩) (fun hS4 => ?_)
        clear hK K
        go_simp
        refine wpAnyH_take (i := 13) (v := .bool true) rfl (by kernel_rfl) (by kernel_rfl) (by kernel_rfl) (fun _ _ _ h => h) (Or.inl ⟨by rfl, fun w hw => by go_simp⟩) hS4 ?_
        go_simp
        refine wpAnyH_take (i := 14) (v := .bool true) rfl (by kernel_rfl) (by kernel_rfl) (by kernel_rfl) (fun _ _ _ h => h) (Or.inl ⟨by rfl, fun w hw => by go_simp⟩) hS4 ?_
        go_simp
        refine wpAnyH_take (i := 15) (v := .bool true) rfl (by kernel_rfl) (by kernel_rfl) (by kernel_rfl) (fun _ _ _ h => h) (Or.inl ⟨by rfl, fun w hw => by go_simp⟩) hS4 ?_
        go_simp
        refine wpAnyH_done (by kernel_rfl) ?_ _
        go_wp2_with fail
        go_ret
        first | exact ⟨rfl, hcur⟩ | exact ⟨rfl, hcur.drew⟩
      | true =>
        go_wp2_with fail
        go_at_call 27
        refine (aR _ (hL.below hcur hL.lt) (hE.below hcur hL.lt)).mono ?_
        rintro e W2 ⟨rfl, hb⟩
        replace hcur := hcur.trans (hb.mono hcur.size); replace hA := hA.below hb hA.lt; replace hB := hB.below hb hB.lt; clear hb
        generalize W1.heap.size = g5 at hA hB ⊢
        go_wp2_with fail
        go_at_call 28
        refine (drawM (hC1.below hcur) hcur.size).mono ?_
        rintro e W3 ⟨p2, s2, x2, hp2, rfl, hb⟩
        replace hcur := hcur.trans (hb.mono hcur.size); replace hA := hA.below hb hA.lt; replace hB := hB.below hb hB.lt; clear hb
        have aM := fun (X : World) (hX : Laid3 N X) => pmost26 s2 p2 x2 X hX
        have mM := fun X => mmost25 s2 p2 (by omega) x2 X
        generalize mostT s2 p2 x2 = zz at aM mM
        generalize reachB p2 s2 x2 = okk at aM mM
        obtain ⟨zb, zp, zx, zr⟩ := zz
        dsimp only at aM mM
        have he := fun X => eqSame zb zp zx zr X
        go_wp2_with fail
        go_at_call 23
        refine (aM _ (hL.below hcur hL.lt)).mono ?_
        rintro e W4 ⟨rfl, hb⟩
        replace hcur := hcur.trans (hb.mono hcur.size); replace hA := hA.below hb hA.lt; replace hB := hB.below hb hB.lt; clear hb
        have hM1 := TripAt.new W4 zb zp zx zr
        replace hA := hA.alloc (.cells #[.int .i64 zb, .string zp, .int .i64 zx, .int .i64 zr] 24)
        replace hB := hB.alloc (.cells #[.int .i64 zb, .string zp, .int .i64 zx, .int .i64 zr] 24)
        replace hcur := hcur.alloc hcur.size (.cells #[.int .i64 zb, .string zp, .int .i64 zx, .int .i64 zr] 24)
        go_wp2_with fail
        generalize W4.heap.size = g11 at hM1 ⊢
        generalize W4.alloc (.cells #[.int .i64 zb, .string zp, .int .i64 zx, .int .i64 zr] 24) = X4 at hcur hA hB hM1 ⊢
        go_at_call 29
        refine (mM _).mono ?_
        rintro e W5 ⟨rfl, hb⟩
        replace hcur := hcur.trans (hb.mono hcur.size); replace hA := hA.below hb hA.lt; replace hB := hB.below hb hB.lt; replace hM1 := hM1.below hb hM1.lt; clear hb
        have hM2 := TripAt.new W5 zb zp zx zr
        replace hA := hA.alloc (.cells #[.int .i64 zb, .string zp, .int .i64 zx, .int .i64 zr] 24)
        replace hB := hB.alloc (.cells #[.int .i64 zb, .string zp, .int .i64 zx, .int .i64 zr] 24)
        replace hM1 := hM1.alloc (.cells #[.int .i64 zb, .string zp, .int .i64 zx, .int .i64 zr] 24)
        replace hcur := hcur.alloc hcur.size (.cells #[.int .i64 zb, .string zp, .int .i64 zx, .int .i64 zr] 24)
        obtain ⟨c0, c1, c2, c3⟩ := hA.cells
        obtain ⟨d0, d1, d2, d3⟩ := hB.cells
        go_wp2_with fail
        clear c0 c1 c2 c3 d0 d1 d2 d3
        generalize W5.heap.size = g13 at hM2 ⊢
        generalize W5.alloc (.cells #[.int .i64 zb, .string zp, .int .i64 zx, .int .i64 zr] 24) = X5 at hcur hA hB hM1 hM2 ⊢
        go_at_call 30
        refine (mR _).mono ?_
        rintro e W6 ⟨rfl, hb⟩
        replace hcur := hcur.trans (hb.mono hcur.size); replace hA := hA.below hb hA.lt; replace hB := hB.below hb hB.lt; replace hM1 := hM1.below hb hM1.lt; replace hM2 := hM2.below hb hM2.lt; clear hb
        obtain ⟨d0, d1, d2, d3⟩ := hB.cells
        obtain ⟨m0, m1, m2, m3⟩ := hM1.cells
        obtain ⟨n0, n1, n2, n3⟩ := hM2.cells
        go_wp2_with fail
        go_at_call 23
        refine (aB _ (hL.below hcur hL.lt)).mono ?_
        rintro e W8 ⟨rfl, hb⟩
        replace hcur := hcur.trans (hb.mono hcur.size); replace hB := hB.below hb hB.lt; clear hb
        have hM3 := TripAt.new W8 yb yp yx yr
        replace hB := hB.alloc (.cells #[.int .i64 yb, .string yp, .int .i64 yx, .int .i64 yr] 24)
        replace hcur := hcur.alloc hcur.size (.cells #[.int .i64 yb, .string yp, .int .i64 yx, .int .i64 yr] 24)
        go_wp2_with fail
        generalize W8.heap.size = g15 at hM3 ⊢
        generalize W8.alloc (.cells #[.int .i64 yb, .string yp, .int .i64 yx, .int .i64 yr] 24) = X8 at hcur hB hM3 ⊢
        replace hcur := hcur.drew
        replace hB : TripAt X8.drew (g5 + 1) b' p' x' r' := hB
        replace hM3 : TripAt X8.drew g15 yb yp yx yr := hM3
        refine wp_region_held (S := fun w' => TripAt w' (g5 + 1) b' p' x' r' ∧ TripAt w' g15 yb yp yx yr) (by kernel_rfl) ?_
        have hS := And.intro hB hM3
        clear hB hM3
        refine wpAnyH_take (i := 0) (v := .bool true) rfl (by kernel_rfl) (by kernel_rfl) (by kernel_rfl) (fun _ _ _ h => h) (Or.inl ⟨by rfl, fun w hw => by go_simp⟩) hS ?_
        go_simp
        refine wpAnyH_take (i := 1) (v := .bool false) rfl (by kernel_rfl) (by kernel_rfl) (by kernel_rfl) (fun _ _ _ h => h) (Or.inl ⟨by rfl, fun w hw => by go_simp⟩) hS ?_
        go_simp
        refine wpAnyH_take (i := 2) (v := .bool false) rfl (by kernel_rfl) (by kernel_rfl) (by kernel_rfl) (fun _ _ _ h => h) (Or.inl ⟨by rfl, fun w hw => by go_simp⟩) hS ?_
        go_simp
        refine wpAnyH_take (i := 3) (v := .agg #[.int .i64 b', .string p', .int .i64 x', .int .i64 r']) rfl (by kernel_rfl) (by kernel_rfl) (by kernel_rfl) (fun _ _ _ h => h) (Or.inl ⟨by rfl, fun w hw => by obtain ⟨c0, c1, c2, c3⟩ := hw.1.cells; first | (go_simp; done) | rfl⟩) hS ?_
        go_simp
        refine wpAnyH_ready (rs := [4]) (by kernel_rfl) (by simp) ?_
        refine AllReadyH.cons rfl (fun K hK => ?_) AllReadyH.nil
        go_simp
        go_wp2_with (go_at_call 10; refine (aV _ (hL.below hcur hL.lt)).mono ?_; rintro e W9 ⟨rfl, hb⟩; replace hcur := hcur.trans (hb.mono hcur.size))
        refine hK _ _ (⟨hS.1.below hb hS.1.lt, hS.2.below hb hS.2.lt⟩) (fun hS2 => ?_)
        clear hK K
        go_simp
        refine wpAnyH_take (i := 5) (v := .bool false) rfl (by kernel_rfl) (by kernel_rfl) (by kernel_rfl) (fun _ _ _ h => h) (Or.inl ⟨by rfl, fun w hw => by go_simp⟩) hS2 ?_
        go_simp
        refine wpAnyH_take (i := 6) (v := .bool false) rfl (by kernel_rfl) (by kernel_rfl) (by kernel_rfl) (fun _ _ _ h => h) (Or.inl ⟨by rfl, fun w hw => by go_simp⟩) hS2 ?_
        go_simp
        refine wpAnyH_take (i := 7) (v := .bool false) rfl (by kernel_rfl) (by kernel_rfl) (by kernel_rfl) (fun _ _ _ h => h) (Or.inl ⟨by rfl, fun w hw => by go_simp⟩) hS2 ?_
        go_simp
        refine wpAnyH_take (i := 8) (v := .agg #[.int .i64 yb, .string yp, .int .i64 yx, .int .i64 yr]) rfl (by kernel_rfl) (by kernel_rfl) (by kernel_rfl) (fun _ _ _ h => h) (Or.inl ⟨by rfl, fun w hw => by obtain ⟨c0, c1, c2, c3⟩ := hw.2.cells; first | (go_simp; done) | rfl⟩) hS2 ?_
        go_simp
        refine wpAnyH_take (i := 9) (v := .agg #[.int .i64 b', .string p', .int .i64 x', .int .i64 r']) rfl (by kernel_rfl) (by kernel_rfl) (by kernel_rfl) (fun _ _ _ h => h) (Or.inl ⟨by rfl, fun w hw => by obtain ⟨c0, c1, c2, c3⟩ := hw.1.cells; first | (go_simp; done) | rfl⟩) hS2 ?_
        go_simp
        refine wpAnyH_take (i := 11) (v := .agg #[.int .i64 b', .string p', .int .i64 x', .int .i64 r']) rfl (by kernel_rfl) (by kernel_rfl) (by kernel_rfl) (fun _ _ _ h => h) (Or.inl ⟨by rfl, fun w hw => by obtain ⟨c0, c1, c2, c3⟩ := hw.1.cells; first | (go_simp; done) | rfl⟩) hS2 ?_
        go_simp
        refine wpAnyH_ready (rs := [10]) (by kernel_rfl) (by simp) ?_
        refine AllReadyH.cons rfl (fun K hK => ?_) AllReadyH.nil
        go_simp
        go_wp2_with (go_at_call 27; refine (aF _ (hL.below hcur hL.lt) (hE.below hcur hL.lt)).mono ?_; rintro e W10 ⟨rfl, hb⟩; replace hcur := hcur.trans (hb.mono hcur.size))
        refine hK _ _ (⟨hS2.1.below hb hS2.1.lt, hS2.2.below hb hS2.2.lt⟩) (fun hS3 => ?_)
        clear hK K
        go_simp
        refine wpAnyH_ready (rs := [12]) (by kernel_rfl) (by simp) ?_
        refine AllReadyH.cons rfl (fun K hK => ?_) AllReadyH.nil
        go_simp
        go_wp2_with (go_at_call 16; refine (aW _ (hL.below hcur hL.lt) (hE.below hcur hL.lt)).mono ?_; rintro e W11 ⟨rfl, hb⟩; replace hcur := hcur.trans (hb.mono hcur.size))
        refine hK _ _ (⟨hS3.1.below hb hS3.1.lt, hS3.2.below hb hS3.2.lt⟩) (fun hS4 => ?_)
        clear hK K
        go_simp
        refine wpAnyH_take (i := 13) (v := .bool true) rfl (by kernel_rfl) (by kernel_rfl) (by kernel_rfl) (fun _ _ _ h => h) (Or.inl ⟨by rfl, fun w hw => by go_simp⟩) hS4 ?_
        go_simp
        refine wpAnyH_take (i := 14) (v := .bool true) rfl (by kernel_rfl) (by kernel_rfl) (by kernel_rfl) (fun _ _ _ h => h) (Or.inl ⟨by rfl, fun w hw => by go_simp⟩) hS4 ?_
        go_simp
        refine wpAnyH_take (i := 15) (v := .bool true) rfl (by kernel_rfl) (by kernel_rfl) (by kernel_rfl) (fun _ _ _ h => h) (Or.inl ⟨by rfl, fun w hw => by go_simp⟩) hS4 ?_
        go_simp
        refine wpAnyH_done (by kernel_rfl) ?_ _
        go_wp2_with fail
        go_ret
        first | exact ⟨rfl, hcur⟩ | exact ⟨rfl, hcur.drew⟩
    | true =>
      obtain rfl := hna rfl
      go_wp2_with fail
      go_at_call 27
      refine (aR _ (hL.below hcur hL.lt) (hE.below hcur hL.lt)).mono ?_
      rintro e W2 ⟨rfl, hb⟩
      replace hcur := hcur.trans (hb.mono hcur.size); replace hA := hA.below hb hA.lt; replace hB := hB.below hb hB.lt; clear hb
      generalize W1.heap.size = g5 at hA hB ⊢
      go_wp2_with fail
      go_at_call 28
      refine (drawM (hC1.below hcur) hcur.size).mono ?_
      rintro e W3 ⟨p2, s2, x2, hp2, rfl, hb⟩
      replace hcur := hcur.trans (hb.mono hcur.size); replace hA := hA.below hb hA.lt; replace hB := hB.below hb hB.lt; clear hb
      have aM := fun (X : World) (hX : Laid3 N X) => pmost26 s2 p2 x2 X hX
      have mM := fun X => mmost25 s2 p2 (by omega) x2 X
      generalize mostT s2 p2 x2 = zz at aM mM
      generalize reachB p2 s2 x2 = okk at aM mM
      obtain ⟨zb, zp, zx, zr⟩ := zz
      dsimp only at aM mM
      have he := fun X => eqSame zb zp zx zr X
      go_wp2_with fail
      go_at_call 23
      refine (aM _ (hL.below hcur hL.lt)).mono ?_
      rintro e W4 ⟨rfl, hb⟩
      replace hcur := hcur.trans (hb.mono hcur.size); replace hA := hA.below hb hA.lt; replace hB := hB.below hb hB.lt; clear hb
      have hM1 := TripAt.new W4 zb zp zx zr
      replace hA := hA.alloc (.cells #[.int .i64 zb, .string zp, .int .i64 zx, .int .i64 zr] 24)
      replace hB := hB.alloc (.cells #[.int .i64 zb, .string zp, .int .i64 zx, .int .i64 zr] 24)
      replace hcur := hcur.alloc hcur.size (.cells #[.int .i64 zb, .string zp, .int .i64 zx, .int .i64 zr] 24)
      go_wp2_with fail
      generalize W4.heap.size = g11 at hM1 ⊢
      generalize W4.alloc (.cells #[.int .i64 zb, .string zp, .int .i64 zx, .int .i64 zr] 24) = X4 at hcur hA hB hM1 ⊢
      go_at_call 29
      refine (mM _).mono ?_
      rintro e W5 ⟨rfl, hb⟩
      replace hcur := hcur.trans (hb.mono hcur.size); replace hA := hA.below hb hA.lt; replace hB := hB.below hb hB.lt; replace hM1 := hM1.below hb hM1.lt; clear hb
      have hM2 := TripAt.new W5 zb zp zx zr
      replace hA := hA.alloc (.cells #[.int .i64 zb, .string zp, .int .i64 zx, .int .i64 zr] 24)
      replace hB := hB.alloc (.cells #[.int .i64 zb, .string zp, .int .i64 zx, .int .i64 zr] 24)
      replace hM1 := hM1.alloc (.cells #[.int .i64 zb, .string zp, .int .i64 zx, .int .i64 zr] 24)
      replace hcur := hcur.alloc hcur.size (.cells #[.int .i64 zb, .string zp, .int .i64 zx, .int .i64 zr] 24)
      obtain ⟨c0, c1, c2, c3⟩ := hA.cells
      obtain ⟨d0, d1, d2, d3⟩ := hB.cells
      go_wp2_with fail
      clear c0 c1 c2 c3 d0 d1 d2 d3
      generalize W5.heap.size = g13 at hM2 ⊢
      generalize W5.alloc (.cells #[.int .i64 zb, .string zp, .int .i64 zx, .int .i64 zr] 24) = X5 at hcur hA hB hM1 hM2 ⊢
      go_at_call 30
      refine (mR _).mono ?_
      rintro e W6 ⟨rfl, hb⟩
      replace hcur := hcur.trans (hb.mono hcur.size); replace hA := hA.below hb hA.lt; replace hB := hB.below hb hB.lt; replace hM1 := hM1.below hb hM1.lt; replace hM2 := hM2.below hb hM2.lt; clear hb
      obtain ⟨d0, d1, d2, d3⟩ := hB.cells
      obtain ⟨m0, m1, m2, m3⟩ := hM1.cells
      obtain ⟨n0, n1, n2, n3⟩ := hM2.cells
      go_wp2_with fail
      go_at_call 16
      refine (aW _ (hL.below hcur hL.lt) (hE.below hcur hL.lt)).mono ?_
      rintro e W7 ⟨rfl, hb⟩
      replace hcur := hcur.trans (hb.mono hcur.size); replace hB := hB.below hb hB.lt; clear hb
      obtain ⟨d0, d1, d2, d3⟩ := hB.cells
      go_wp2_with fail
      go_at_call 23
      refine (aB _ (hL.below hcur hL.lt)).mono ?_
      rintro e W8 ⟨rfl, hb⟩
      replace hcur := hcur.trans (hb.mono hcur.size); replace hB := hB.below hb hB.lt; clear hb
      have hM3 := TripAt.new W8 yb yp yx yr
      replace hB := hB.alloc (.cells #[.int .i64 yb, .string yp, .int .i64 yx, .int .i64 yr] 24)
      replace hcur := hcur.alloc hcur.size (.cells #[.int .i64 yb, .string yp, .int .i64 yx, .int .i64 yr] 24)
      go_wp2_with fail
      generalize W8.heap.size = g15 at hM3 ⊢
      generalize W8.alloc (.cells #[.int .i64 yb, .string yp, .int .i64 yx, .int .i64 yr] 24) = X8 at hcur hB hM3 ⊢
      replace hcur := hcur.drew
      replace hB : TripAt X8.drew (g5 + 1) b' p' x' r' := hB
      replace hM3 : TripAt X8.drew g15 yb yp yx yr := hM3
      refine wp_region_held (S := fun w' => TripAt w' (g5 + 1) b' p' x' r' ∧ TripAt w' g15 yb yp yx yr) (by kernel_rfl) ?_
      have hS := And.intro hB hM3
      clear hB hM3
      refine wpAnyH_take (i := 0) (v := .bool true) rfl (by kernel_rfl) (by kernel_rfl) (by kernel_rfl) (fun _ _ _ h => h) (Or.inl ⟨by rfl, fun w hw => by go_simp⟩) hS ?_
      go_simp
      refine wpAnyH_take (i := 1) (v := .bool false) rfl (by kernel_rfl) (by kernel_rfl) (by kernel_rfl) (fun _ _ _ h => h) (Or.inl ⟨by rfl, fun w hw => by go_simp⟩) hS ?_
      go_simp
      refine wpAnyH_take (i := 2) (v := .bool false) rfl (by kernel_rfl) (by kernel_rfl) (by kernel_rfl) (fun _ _ _ h => h) (Or.inl ⟨by rfl, fun w hw => by go_simp⟩) hS ?_
      go_simp
      refine wpAnyH_take (i := 3) (v := .agg #[.int .i64 b', .string p', .int .i64 x', .int .i64 r']) rfl (by kernel_rfl) (by kernel_rfl) (by kernel_rfl) (fun _ _ _ h => h) (Or.inl ⟨by rfl, fun w hw => by obtain ⟨c0, c1, c2, c3⟩ := hw.1.cells; first | (go_simp; done) | rfl⟩) hS ?_
      go_simp
      refine wpAnyH_ready (rs := [4]) (by kernel_rfl) (by simp) ?_
      refine AllReadyH.cons rfl (fun K hK => ?_) AllReadyH.nil
      go_simp
      go_wp2_with (go_at_call 10; refine (aV _ (hL.below hcur hL.lt)).mono ?_; rintro e W9 ⟨rfl, hb⟩; replace hcur := hcur.trans (hb.mono hcur.size))
      refine hK _ _ (⟨hS.1.below hb hS.1.lt, hS.2.below hb hS.2.lt⟩) (fun hS2 => ?_)
      clear hK K
      go_simp
      refine wpAnyH_take (i := 5) (v := .bool false) rfl (by kernel_rfl) (by kernel_rfl) (by kernel_rfl) (fun _ _ _ h => h) (Or.inl ⟨by rfl, fun w hw => by go_simp⟩) hS2 ?_
      go_simp
      refine wpAnyH_take (i := 6) (v := .bool false) rfl (by kernel_rfl) (by kernel_rfl) (by kernel_rfl) (fun _ _ _ h => h) (Or.inl ⟨by rfl, fun w hw => by go_simp⟩) hS2 ?_
      go_simp
      refine wpAnyH_take (i := 7) (v := .bool false) rfl (by kernel_rfl) (by kernel_rfl) (by kernel_rfl) (fun _ _ _ h => h) (Or.inl ⟨by rfl, fun w hw => by go_simp⟩) hS2 ?_
      go_simp
      refine wpAnyH_take (i := 8) (v := .agg #[.int .i64 yb, .string yp, .int .i64 yx, .int .i64 yr]) rfl (by kernel_rfl) (by kernel_rfl) (by kernel_rfl) (fun _ _ _ h => h) (Or.inl ⟨by rfl, fun w hw => by obtain ⟨c0, c1, c2, c3⟩ := hw.2.cells; first | (go_simp; done) | rfl⟩) hS2 ?_
      go_simp
      refine wpAnyH_take (i := 9) (v := .agg #[.int .i64 b', .string p', .int .i64 x', .int .i64 r']) rfl (by kernel_rfl) (by kernel_rfl) (by kernel_rfl) (fun _ _ _ h => h) (Or.inl ⟨by rfl, fun w hw => by obtain ⟨c0, c1, c2, c3⟩ := hw.1.cells; first | (go_simp; done) | rfl⟩) hS2 ?_
      go_simp
      refine wpAnyH_take (i := 11) (v := .agg #[.int .i64 b', .string p', .int .i64 x', .int .i64 r']) rfl (by kernel_rfl) (by kernel_rfl) (by kernel_rfl) (fun _ _ _ h => h) (Or.inl ⟨by rfl, fun w hw => by obtain ⟨c0, c1, c2, c3⟩ := hw.1.cells; first | (go_simp; done) | rfl⟩) hS2 ?_
      go_simp
      refine wpAnyH_ready (rs := [10]) (by kernel_rfl) (by simp) ?_
      refine AllReadyH.cons rfl (fun K hK => ?_) AllReadyH.nil
      go_simp
      go_wp2_with (go_at_call 27; refine (aF _ (hL.below hcur hL.lt) (hE.below hcur hL.lt)).mono ?_; rintro e W10 ⟨rfl, hb⟩; replace hcur := hcur.trans (hb.mono hcur.size))
      refine hK _ _ (⟨hS2.1.below hb hS2.1.lt, hS2.2.below hb hS2.2.lt⟩) (fun hS3 => ?_)
      clear hK K
      go_simp
      refine wpAnyH_ready (rs := [12]) (by kernel_rfl) (by simp) ?_
      refine AllReadyH.cons rfl (fun K hK => ?_) AllReadyH.nil
      go_simp
      go_wp2_with (go_at_call 16; refine (aW _ (hL.below hcur hL.lt) (hE.below hcur hL.lt)).mono ?_; rintro e W11 ⟨rfl, hb⟩; replace hcur := hcur.trans (hb.mono hcur.size))
      refine hK _ _ (⟨hS3.1.below hb hS3.1.lt, hS3.2.below hb hS3.2.lt⟩) (fun hS4 => ?_)
      clear hK K
      go_simp
      refine wpAnyH_take (i := 13) (v := .bool true) rfl (by kernel_rfl) (by kernel_rfl) (by kernel_rfl) (fun _ _ _ h => h) (Or.inl ⟨by rfl, fun w hw => by go_simp⟩) hS4 ?_
      go_simp
      refine wpAnyH_take (i := 14) (v := .bool true) rfl (by kernel_rfl) (by kernel_rfl) (by kernel_rfl) (fun _ _ _ h => h) (Or.inl ⟨by rfl, fun w hw => by go_simp⟩) hS4 ?_
      go_simp
      refine wpAnyH_take (i := 15) (v := .bool true) rfl (by kernel_rfl) (by kernel_rfl) (by kernel_rfl) (fun _ _ _ h => h) (Or.inl ⟨by rfl, fun w hw => by go_simp⟩) hS4 ?_
      go_simp
      refine wpAnyH_done (by kernel_rfl) ?_ _
      go_wp2_with fail
      go_ret
      first | exact ⟨rfl, hcur⟩ | exact ⟨rfl, hcur.drew⟩
  · have hv : validT b' p' x' r' = false := by simpa using hv
    have haf : alwaysT b' p' x' r' = false := (sure_no hv).2.1
    have hrf : refT b p x r b' p' x' r' = false := by rw [ref_eq, hv, Bool.and_false]; rfl
    rw [haf] at aW
    rw [hrf] at aR mR
    rw [hv] at aV
    clear hna haf hrf hv
    generalize mostT b' p' x' = yy at aB
    generalize reachB p' b' x' = ro at aB
    obtain ⟨yb, yp, yx, yr⟩ := yy
    dsimp only at aB
    cases ro with
    | false =>
      go_wp2_with fail
      go_at_call 27
      refine (aR _ (hL.below hcur hL.lt) (hE.below hcur hL.lt)).mono ?_
      rintro e W2 ⟨rfl, hb⟩
      replace hcur := hcur.trans (hb.mono hcur.size); replace hA := hA.below hb hA.lt; replace hB := hB.below hb hB.lt; clear hb
      generalize W1.heap.size = g5 at hA hB ⊢
      go_wp2_with fail
      go_at_call 28
      refine (drawM (hC1.below hcur) hcur.size).mono ?_
      rintro e W3 ⟨p2, s2, x2, hp2, rfl, hb⟩
      replace hcur := hcur.trans (hb.mono hcur.size); replace hA := hA.below hb hA.lt; replace hB := hB.below hb hB.lt; clear hb
      have aM := fun (X : World) (hX : Laid3 N X) => pmost26 s2 p2 x2 X hX
      have mM := fun X => mmost25 s2 p2 (by omega) x2 X
      generalize mostT s2 p2 x2 = zz at aM mM
      generalize reachB p2 s2 x2 = okk at aM mM
      obtain ⟨zb, zp, zx, zr⟩ := zz
      dsimp only at aM mM
      have he := fun X => eqSame zb zp zx zr X
      go_wp2_with fail
      go_at_call 23
      refine (aM _ (hL.below hcur hL.lt)).mono ?_
      rintro e W4 ⟨rfl, hb⟩
      replace hcur := hcur.trans (hb.mono hcur.size); replace hA := hA.below hb hA.lt; replace hB := hB.below hb hB.lt; clear hb
      have hM1 := TripAt.new W4 zb zp zx zr
      replace hA := hA.alloc (.cells #[.int .i64 zb, .string zp, .int .i64 zx, .int .i64 zr] 24)
      replace hB := hB.alloc (.cells #[.int .i64 zb, .string zp, .int .i64 zx, .int .i64 zr] 24)
      replace hcur := hcur.alloc hcur.size (.cells #[.int .i64 zb, .string zp, .int .i64 zx, .int .i64 zr] 24)
      go_wp2_with fail
      generalize W4.heap.size = g11 at hM1 ⊢
      generalize W4.alloc (.cells #[.int .i64 zb, .string zp, .int .i64 zx, .int .i64 zr] 24) = X4 at hcur hA hB hM1 ⊢
      go_at_call 29
      refine (mM _).mono ?_
      rintro e W5 ⟨rfl, hb⟩
      replace hcur := hcur.trans (hb.mono hcur.size); replace hA := hA.below hb hA.lt; replace hB := hB.below hb hB.lt; replace hM1 := hM1.below hb hM1.lt; clear hb
      have hM2 := TripAt.new W5 zb zp zx zr
      replace hA := hA.alloc (.cells #[.int .i64 zb, .string zp, .int .i64 zx, .int .i64 zr] 24)
      replace hB := hB.alloc (.cells #[.int .i64 zb, .string zp, .int .i64 zx, .int .i64 zr] 24)
      replace hM1 := hM1.alloc (.cells #[.int .i64 zb, .string zp, .int .i64 zx, .int .i64 zr] 24)
      replace hcur := hcur.alloc hcur.size (.cells #[.int .i64 zb, .string zp, .int .i64 zx, .int .i64 zr] 24)
      obtain ⟨c0, c1, c2, c3⟩ := hA.cells
      obtain ⟨d0, d1, d2, d3⟩ := hB.cells
      go_wp2_with fail
      clear c0 c1 c2 c3 d0 d1 d2 d3
      generalize W5.heap.size = g13 at hM2 ⊢
      generalize W5.alloc (.cells #[.int .i64 zb, .string zp, .int .i64 zx, .int .i64 zr] 24) = X5 at hcur hA hB hM1 hM2 ⊢
      go_at_call 30
      refine (mR _).mono ?_
      rintro e W6 ⟨rfl, hb⟩
      replace hcur := hcur.trans (hb.mono hcur.size); replace hA := hA.below hb hA.lt; replace hB := hB.below hb hB.lt; replace hM1 := hM1.below hb hM1.lt; replace hM2 := hM2.below hb hM2.lt; clear hb
      obtain ⟨d0, d1, d2, d3⟩ := hB.cells
      obtain ⟨m0, m1, m2, m3⟩ := hM1.cells
      obtain ⟨n0, n1, n2, n3⟩ := hM2.cells
      go_wp2_with fail
      go_at_call 23
      refine (aB _ (hL.below hcur hL.lt)).mono ?_
      rintro e W8 ⟨rfl, hb⟩
      replace hcur := hcur.trans (hb.mono hcur.size); replace hB := hB.below hb hB.lt; clear hb
      have hM3 := TripAt.new W8 yb yp yx yr
      replace hB := hB.alloc (.cells #[.int .i64 yb, .string yp, .int .i64 yx, .int .i64 yr] 24)
      replace hcur := hcur.alloc hcur.size (.cells #[.int .i64 yb, .string yp, .int .i64 yx, .int .i64 yr] 24)
      go_wp2_with fail
      generalize W8.heap.size = g15 at hM3 ⊢
      generalize W8.alloc (.cells #[.int .i64 yb, .string yp, .int .i64 yx, .int .i64 yr] 24) = X8 at hcur hB hM3 ⊢
      replace hcur := hcur.drew
      replace hB : TripAt X8.drew (g5 + 1) b' p' x' r' := hB
      replace hM3 : TripAt X8.drew g15 yb yp yx yr := hM3
      refine wp_region_held (S := fun w' => TripAt w' (g5 + 1) b' p' x' r' ∧ TripAt w' g15 yb yp yx yr) (by kernel_rfl) ?_
      have hS := And.intro hB hM3
      clear hB hM3
      refine wpAnyH_take (i := 0) (v := .bool false) rfl (by kernel_rfl) (by kernel_rfl) (by kernel_rfl) (fun _ _ _ h => h) (Or.inl ⟨by rfl, fun w hw => by go_simp⟩) hS ?_
      go_simp
      refine wpAnyH_take (i := 1) (v := .bool true) rfl (by kernel_rfl) (by kernel_rfl) (by kernel_rfl) (fun _ _ _ h => h) (Or.inl ⟨by rfl, fun w hw => by go_simp⟩) hS ?_
      go_simp
      refine wpAnyH_take (i := 2) (v := .bool true) rfl (by kernel_rfl) (by kernel_rfl) (by kernel_rfl) (fun _ _ _ h => h) (Or.inl ⟨by rfl, fun w hw => by go_simp⟩) hS ?_
      go_simp
      refine wpAnyH_take (i := 3) (v := undef) rfl (by kernel_rfl) (by kernel_rfl) (by kernel_rfl) (fun _ _ _ h => h) (Or.inr ⟨by rfl, rfl⟩) hS ?_
      go_simp
      refine wpAnyH_take (i := 4) (v := undef) rfl (by kernel_rfl) (by kernel_rfl) (by kernel_rfl) (fun _ _ _ h => h) (Or.inr ⟨by rfl, rfl⟩) hS ?_
      go_simp
      refine wpAnyH_take (i := 5) (v := undef) rfl (by kernel_rfl) (by kernel_rfl) (by kernel_rfl) (fun _ _ _ h => h) (Or.inr ⟨by rfl, rfl⟩) hS ?_
      go_simp
      refine wpAnyH_take (i := 6) (v := .bool true) rfl (by kernel_rfl) (by kernel_rfl) (by kernel_rfl) (fun _ _ _ h => h) (Or.inl ⟨by rfl, fun w hw => by go_simp⟩) hS ?_
      go_simp
      refine wpAnyH_take (i := 7) (v := .bool true) rfl (by kernel_rfl) (by kernel_rfl) (by kernel_rfl) (fun _ _ _ h => h) (Or.inl ⟨by rfl, fun w hw => by go_simp⟩) hS ?_
      go_simp
      refine wpAnyH_take (i := 8) (v := undef) rfl (by kernel_rfl) (by kernel_rfl) (by kernel_rfl) (fun _ _ _ h => h) (Or.inr ⟨by rfl, rfl⟩) hS ?_
      go_simp
      refine wpAnyH_take (i := 9) (v := undef) rfl (by kernel_rfl) (by kernel_rfl) (by kernel_rfl) (fun _ _ _ h => h) (Or.inr ⟨by rfl, rfl⟩) hS ?_
      go_simp
      refine wpAnyH_take (i := 10) (v := undef) rfl (by kernel_rfl) (by kernel_rfl) (by kernel_rfl) (fun _ _ _ h => h) (Or.inr ⟨by rfl, rfl⟩) hS ?_
      go_simp
      refine wpAnyH_take (i := 11) (v := undef) rfl (by kernel_rfl) (by kernel_rfl) (by kernel_rfl) (fun _ _ _ h => h) (Or.inr ⟨by rfl, rfl⟩) hS ?_
      go_simp
      refine wpAnyH_take (i := 12) (v := undef) rfl (by kernel_rfl) (by kernel_rfl) (by kernel_rfl) (fun _ _ _ h => h) (Or.inr ⟨by rfl, rfl⟩) hS ?_
      go_simp
      refine wpAnyH_take (i := 13) (v := undef) rfl (by kernel_rfl) (by kernel_rfl) (by kernel_rfl) (fun _ _ _ h => h) (Or.inr ⟨by rfl, rfl⟩) hS ?_
      go_simp
      refine wpAnyH_take (i := 14) (v := .bool true) rfl (by kernel_rfl) (by kernel_rfl) (by kernel_rfl) (fun _ _ _ h => h) (Or.inl ⟨by rfl, fun w hw => by go_simp⟩) hS ?_
      go_simp
      refine wpAnyH_take (i := 15) (v := .bool true) rfl (by kernel_rfl) (by kernel_rfl) (by kernel_rfl) (fun _ _ _ h => h) (Or.inl ⟨by rfl, fun w hw => by go_simp⟩) hS ?_
      go_simp
      refine wpAnyH_done (by kernel_rfl) ?_ _
      go_wp2_with fail
      go_ret
      first | exact ⟨rfl, hcur⟩ | exact ⟨rfl, hcur.drew⟩
    | true =>
      go_wp2_with fail
      go_at_call 27
      refine (aR _ (hL.below hcur hL.lt) (hE.below hcur hL.lt)).mono ?_
      rintro e W2 ⟨rfl, hb⟩
      replace hcur := hcur.trans (hb.mono hcur.size); replace hA := hA.below hb hA.lt; replace hB := hB.below hb hB.lt; clear hb
      generalize W1.heap.size = g5 at hA hB ⊢
      go_wp2_with fail
      go_at_call 28
      refine (drawM (hC1.below hcur) hcur.size).mono ?_
      rintro e W3 ⟨p2, s2, x2, hp2, rfl, hb⟩
      replace hcur := hcur.trans (hb.mono hcur.size); replace hA := hA.below hb hA.lt; replace hB := hB.below hb hB.lt; clear hb
      have aM := fun (X : World) (hX : Laid3 N X) => pmost26 s2 p2 x2 X hX
      have mM := fun X => mmost25 s2 p2 (by omega) x2 X
      generalize mostT s2 p2 x2 = zz at aM mM
      generalize reachB p2 s2 x2 = okk at aM mM
      obtain ⟨zb, zp, zx, zr⟩ := zz
      dsimp only at aM mM
      have he := fun X => eqSame zb zp zx zr X
      go_wp2_with fail
      go_at_call 23
      refine (aM _ (hL.below hcur hL.lt)).mono ?_
      rintro e W4 ⟨rfl, hb⟩
      replace hcur := hcur.trans (hb.mono hcur.size); replace hA := hA.below hb hA.lt; replace hB := hB.below hb hB.lt; clear hb
      have hM1 := TripAt.new W4 zb zp zx zr
      replace hA := hA.alloc (.cells #[.int .i64 zb, .string zp, .int .i64 zx, .int .i64 zr] 24)
      replace hB := hB.alloc (.cells #[.int .i64 zb, .string zp, .int .i64 zx, .int .i64 zr] 24)
      replace hcur := hcur.alloc hcur.size (.cells #[.int .i64 zb, .string zp, .int .i64 zx, .int .i64 zr] 24)
      go_wp2_with fail
      generalize W4.heap.size = g11 at hM1 ⊢
      generalize W4.alloc (.cells #[.int .i64 zb, .string zp, .int .i64 zx, .int .i64 zr] 24) = X4 at hcur hA hB hM1 ⊢
      go_at_call 29
      refine (mM _).mono ?_
      rintro e W5 ⟨rfl, hb⟩
      replace hcur := hcur.trans (hb.mono hcur.size); replace hA := hA.below hb hA.lt; replace hB := hB.below hb hB.lt; replace hM1 := hM1.below hb hM1.lt; clear hb
      have hM2 := TripAt.new W5 zb zp zx zr
      replace hA := hA.alloc (.cells #[.int .i64 zb, .string zp, .int .i64 zx, .int .i64 zr] 24)
      replace hB := hB.alloc (.cells #[.int .i64 zb, .string zp, .int .i64 zx, .int .i64 zr] 24)
      replace hM1 := hM1.alloc (.cells #[.int .i64 zb, .string zp, .int .i64 zx, .int .i64 zr] 24)
      replace hcur := hcur.alloc hcur.size (.cells #[.int .i64 zb, .string zp, .int .i64 zx, .int .i64 zr] 24)
      obtain ⟨c0, c1, c2, c3⟩ := hA.cells
      obtain ⟨d0, d1, d2, d3⟩ := hB.cells
      go_wp2_with fail
      clear c0 c1 c2 c3 d0 d1 d2 d3
      generalize W5.heap.size = g13 at hM2 ⊢
      generalize W5.alloc (.cells #[.int .i64 zb, .string zp, .int .i64 zx, .int .i64 zr] 24) = X5 at hcur hA hB hM1 hM2 ⊢
      go_at_call 30
      refine (mR _).mono ?_
      rintro e W6 ⟨rfl, hb⟩
      replace hcur := hcur.trans (hb.mono hcur.size); replace hA := hA.below hb hA.lt; replace hB := hB.below hb hB.lt; replace hM1 := hM1.below hb hM1.lt; replace hM2 := hM2.below hb hM2.lt; clear hb
      obtain ⟨d0, d1, d2, d3⟩ := hB.cells
      obtain ⟨m0, m1, m2, m3⟩ := hM1.cells
      obtain ⟨n0, n1, n2, n3⟩ := hM2.cells
      go_wp2_with fail
      go_at_call 23
      refine (aB _ (hL.below hcur hL.lt)).mono ?_
      rintro e W8 ⟨rfl, hb⟩
      replace hcur := hcur.trans (hb.mono hcur.size); replace hB := hB.below hb hB.lt; clear hb
      have hM3 := TripAt.new W8 yb yp yx yr
      replace hB := hB.alloc (.cells #[.int .i64 yb, .string yp, .int .i64 yx, .int .i64 yr] 24)
      replace hcur := hcur.alloc hcur.size (.cells #[.int .i64 yb, .string yp, .int .i64 yx, .int .i64 yr] 24)
      go_wp2_with fail
      generalize W8.heap.size = g15 at hM3 ⊢
      generalize W8.alloc (.cells #[.int .i64 yb, .string yp, .int .i64 yx, .int .i64 yr] 24) = X8 at hcur hB hM3 ⊢
      replace hcur := hcur.drew
      replace hB : TripAt X8.drew (g5 + 1) b' p' x' r' := hB
      replace hM3 : TripAt X8.drew g15 yb yp yx yr := hM3
      refine wp_region_held (S := fun w' => TripAt w' (g5 + 1) b' p' x' r' ∧ TripAt w' g15 yb yp yx yr) (by kernel_rfl) ?_
      have hS := And.intro hB hM3
      clear hB hM3
      refine wpAnyH_take (i := 0) (v := .bool true) rfl (by kernel_rfl) (by kernel_rfl) (by kernel_rfl) (fun _ _ _ h => h) (Or.inl ⟨by rfl, fun w hw => by go_simp⟩) hS ?_
      go_simp
      refine wpAnyH_take (i := 1) (v := .bool false) rfl (by kernel_rfl) (by kernel_rfl) (by kernel_rfl) (fun _ _ _ h => h) (Or.inl ⟨by rfl, fun w hw => by go_simp⟩) hS ?_
      go_simp
      refine wpAnyH_take (i := 2) (v := .bool false) rfl (by kernel_rfl) (by kernel_rfl) (by kernel_rfl) (fun _ _ _ h => h) (Or.inl ⟨by rfl, fun w hw => by go_simp⟩) hS ?_
      go_simp
      refine wpAnyH_take (i := 3) (v := .agg #[.int .i64 b', .string p', .int .i64 x', .int .i64 r']) rfl (by kernel_rfl) (by kernel_rfl) (by kernel_rfl) (fun _ _ _ h => h) (Or.inl ⟨by rfl, fun w hw => by obtain ⟨c0, c1, c2, c3⟩ := hw.1.cells; first | (go_simp; done) | rfl⟩) hS ?_
      go_simp
      refine wpAnyH_ready (rs := [4]) (by kernel_rfl) (by simp) ?_
      refine AllReadyH.cons rfl (fun K hK => ?_) AllReadyH.nil
      go_simp
      go_wp2_with (go_at_call 10; refine (aV _ (hL.below hcur hL.lt)).mono ?_; rintro e W9 ⟨rfl, hb⟩; replace hcur := hcur.trans (hb.mono hcur.size))
      refine hK _ _ (⟨hS.1.below hb hS.1.lt, hS.2.below hb hS.2.lt⟩) (fun hS2 => ?_)
      clear hK K
      go_simp
      refine wpAnyH_take (i := 5) (v := .bool true) rfl (by kernel_rfl) (by kernel_rfl) (by kernel_rfl) (fun _ _ _ h => h) (Or.inl ⟨by rfl, fun w hw => by go_simp⟩) hS2 ?_
      go_simp
      refine wpAnyH_take (i := 6) (v := .bool true) rfl (by kernel_rfl) (by kernel_rfl) (by kernel_rfl) (fun _ _ _ h => h) (Or.inl ⟨by rfl, fun w hw => by go_simp⟩) hS2 ?_
      go_simp
      refine wpAnyH_take (i := 7) (v := .bool true) rfl (by kernel_rfl) (by kernel_rfl) (by kernel_rfl) (fun _ _ _ h => h) (Or.inl ⟨by rfl, fun w hw => by go_simp⟩) hS2 ?_
      go_simp
      refine wpAnyH_take (i := 8) (v := undef) rfl (by kernel_rfl) (by kernel_rfl) (by kernel_rfl) (fun _ _ _ h => h) (Or.inr ⟨by rfl, rfl⟩) hS2 ?_
      go_simp
      refine wpAnyH_take (i := 9) (v := undef) rfl (by kernel_rfl) (by kernel_rfl) (by kernel_rfl) (fun _ _ _ h => h) (Or.inr ⟨by rfl, rfl⟩) hS2 ?_
      go_simp
      refine wpAnyH_take (i := 10) (v := undef) rfl (by kernel_rfl) (by kernel_rfl) (by kernel_rfl) (fun _ _ _ h => h) (Or.inr ⟨by rfl, rfl⟩) hS2 ?_
      go_simp
      refine wpAnyH_take (i := 11) (v := undef) rfl (by kernel_rfl) (by kernel_rfl) (by kernel_rfl) (fun _ _ _ h => h) (Or.inr ⟨by rfl, rfl⟩) hS2 ?_
      go_simp
      refine wpAnyH_take (i := 12) (v := undef) rfl (by kernel_rfl) (by kernel_rfl) (by kernel_rfl) (fun _ _ _ h => h) (Or.inr ⟨by rfl, rfl⟩) hS2 ?_
      go_simp
      refine wpAnyH_take (i := 13) (v := undef) rfl (by kernel_rfl) (by kernel_rfl) (by kernel_rfl) (fun _ _ _ h => h) (Or.inr ⟨by rfl, rfl⟩) hS2 ?_
      go_simp
      refine wpAnyH_take (i := 14) (v := .bool true) rfl (by kernel_rfl) (by kernel_rfl) (by kernel_rfl) (fun _ _ _ h => h) (Or.inl ⟨by rfl, fun w hw => by go_simp⟩) hS2 ?_
      go_simp
      refine wpAnyH_take (i := 15) (v := .bool true) rfl (by kernel_rfl) (by kernel_rfl) (by kernel_rfl) (fun _ _ _ h => h) (Or.inl ⟨by rfl, fun w hw => by go_simp⟩) hS2 ?_
      go_simp
      refine wpAnyH_done (by kernel_rfl) ?_ _
      go_wp2_with fail
      go_ret
      first | exact ⟨rfl, hcur⟩ | exact ⟨rfl, hcur.drew⟩

set_option maxHeartbeats 1000000 in
theorem refutes_long (w : World) (a0 : Option Addr) (len0 cap0 : Nat) (a : Option Addr) (len cap : Nat) (hlen0 : 1048576 < len0) :
    Calls Tryz.prog 5 #[.slice a0 len0 cap0, .slice a len cap] w fun e w' => e = .returned (.bool true) ∧ Below w.heap.size w w' := by
  have hli0 : (1048576 : Int) < (len0 : Int) := by omega
  go_enter Tryz.func5, Tryz.ntmps5
  go_wp2
  go_ret
  exact ⟨rfl, Below.refl _ _⟩
set_option maxHeartbeats 1000000 in
theorem refutes_long2 (w : World) (a0 : Option Addr) (len0 cap0 : Nat) (a : Option Addr) (len cap : Nat) (hlen0 : len0 ≤ 1048576) (hlen : 1048576 < len) :
    Calls Tryz.prog 5 #[.slice a0 len0 cap0, .slice a len cap] w fun e w' => e = .returned (.bool true) ∧ Below w.heap.size w w' := by
  have hli0 : (len0 : Int) ≤ 1048576 := by omega
  have hli : (1048576 : Int) < (len : Int) := by omega
  go_enter Tryz.func5, Tryz.ntmps5
  go_wp2
  go_ret
  exact ⟨rfl, Below.refl _ _⟩
theorem walkFnRefutes (a0 : Option Addr) (len0 cap0 : Nat) (z0 : List Int) (a : Option Addr) (len cap : Nat) (z1 : List Int) (w : World) (h0 : IsRow .u8 w a0 len0 cap0 z0) (h1 : IsRow .u8 w a len cap z1) {N : Nat} (hL : Laid3 N w) (hE : NoTrip N w) :
    Calls Tryz.prog 5 #[.slice a0 len0 cap0, .slice a len cap] w fun e w' => e = .returned (.bool true) ∧ Below w.heap.size w w' := by
  by_cases h : len0 ≤ 1048576
  · by_cases h' : len ≤ 1048576
    · exact refutes_walk w a0 len0 cap0 (Code.ofRow h0) h a len cap (Code.ofRow h1) h' hL hE
    · exact refutes_long2 w a0 len0 cap0 a len cap h (by omega)
  · exact refutes_long w a0 len0 cap0 a len cap (by omega)
end Go.Proofs.YtlimgdnaanoloaaGreatDoor

