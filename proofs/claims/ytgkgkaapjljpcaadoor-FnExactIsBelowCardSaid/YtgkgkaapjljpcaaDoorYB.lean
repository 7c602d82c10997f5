/- Chapter 11, the program: the results of two programs. -/
import Derived.Test.YtgkgkaapjljpcaaDoorYA
namespace Go.Proofs.YtgkgkaapjljpcaaDoor
open Go.ChangeShapes Go.WideShapes Go.ChangeAt Go.RowKit Go.Shelf
attribute [local go_sem] Oper.semAt_some
set_option maxRecDepth 100000
attribute [local go_sem ↓ 10000] heldL_eq heldS_eq
theorem ret_both {Z : World} {a : Act} {g h : Nat} {r q : Nat → Nat × Nat} {x : Value} {R : Ending → World → Prop} (hv : ResAt Z g r) (hw : ResAt Z h q) (ha : a.tmps[4]?.getD undef = .pointer (some ⟨g, 0, none⟩)) (hb : a.tmps[5]?.getD undef = .pointer (some ⟨h, 0, none⟩)) (hx : a.tmps[6]?.getD undef = x) (hdf : a.defers = [])
    (hR : R (.returned (.tuple #[resV r, resV q, x])) Z) : bodyPost Tryd.prog Tryd.f44 R Exit.ret a Z := by
  have hl := run_loadVar_row (P := Tryd.prog) Z g 63 63 (resA r) (0, 0) _ hv Tryd.underlying63 rfl (by kernel_rfl)
  have hm := run_loadVar_row (P := Tryd.prog) Z h 63 63 (resA q) (0, 0) _ hw Tryd.underlying63 rfl (by kernel_rfl)
  refine bodyPost_ret (v := .tuple #[resV r, resV q, x]) ?_ hdf hR
  simp [results, Tryd.results44, ha, hb, hx, asAddr, hl, hm, resV]

set_option maxHeartbeats 4000000 in
theorem pboth_first (p q : ByteArray) (w : World) {N : Nat} (hE : Laid3 N w) (hP : readP p.toList = none) :
    Calls Tryd.prog 44 #[.string p, .string q] w fun e w' => (∃ T v, e = .returned (.tuple #[resV noneR, resV noneR, .iface T v])) ∧ Below w.heap.size w w' := by
  obtain ⟨V, hV⟩ : ∃ V, V = (w.alloc (.cells (resA noneR) 63)).alloc (.cells (resA noneR) 63) := ⟨_, rfl⟩
  have hA : Below w.heap.size w V := by rw [hV]; exact ((Below.refl _ _).alloc (Nat.le_refl _) _).alloc (by simp) _
  have hn0 : ResAt V w.heap.size noneR := by rw [hV]; exact (ResAt.new w _).grown (World.grownBy_alloc _ _ none) (by simp)
  have hn1 : ResAt V (w.heap.size + 1) noneR := by
    rw [hV]
    have := ResAt.new (w.alloc (.cells (resA noneR) 63)) noneR
    rw [World.size_alloc] at this
    exact this
  have hEV := hE.below hA hE.lt
  go_enter Tryd.func44, Tryd.ntmps44
  go_wp2_with fail
  rw [show (w.alloc (.cells #[.int .i64 0, .int .i64 0, .int .i64 0, .int .i64 0, .int .i64 0, .int .i64 0, .int .i64 0, .int .i64 0, .int .i64 0, .int .i64 0, .int .i64 0, .int .i64 0, .int .i64 0, .int .i64 0, .int .i64 0, .int .i64 0, .int .i64 0, .int .i64 0] 63)).alloc (.cells #[.int .i64 0, .int .i64 0, .int .i64 0, .int .i64 0, .int .i64 0, .int .i64 0, .int .i64 0, .int .i64 0, .int .i64 0, .int .i64 0, .int .i64 0, .int .i64 0, .int .i64 0, .int .i64 0, .int .i64 0, .int .i64 0, .int .i64 0, .int .i64 0] 63) = V from hV.symm]
  have HV := Lib.hid hV
  have HA := Lib.hid hA
  clear hV hA
  go_at_call 54
  refine (presOf_none p V hEV hP).mono ?_
  rintro e W1 ⟨⟨T, v, rfl⟩, hb⟩
  have hsz := hb.size
  have hlt1 := hn1.lt
  have h10 := hn0.below hb
  have h11 := hn1.below hb
  have hb1 := HA.out.trans (hb.mono HA.out.size)
  have z1 := ResAt.new W1 noneR
  have n1 : Below W1.heap.size W1 (W1.alloc (.cells (resA noneR) 63)) := (Below.refl _ W1).alloc (Nat.le_refl _) _
  obtain ⟨Y1, hY1⟩ : ∃ X, X = W1.alloc (.cells (resA noneR) 63) := ⟨_, rfl⟩
  rw [← hY1] at z1 n1
  obtain ⟨X1, s1, v1, g1⟩ := z1.store (noneR)
  have b1 : Below W1.heap.size W1 X1 := n1.grown g1 n1.size (fun j e => by cases e; exact Nat.le_refl _)
  go_wp2_with fail
  rw [show W1.alloc (.cells #[.int .i64 0, .int .i64 0, .int .i64 0, .int .i64 0, .int .i64 0, .int .i64 0, .int .i64 0, .int .i64 0, .int .i64 0, .int .i64 0, .int .i64 0, .int .i64 0, .int .i64 0, .int .i64 0, .int .i64 0, .int .i64 0, .int .i64 0, .int .i64 0] 63) = Y1 from hY1.symm, s1]
  have HY1 := Lib.hid hY1
  clear hY1 z1 n1 g1 s1
  go_simp
  have h20 := h10.below b1
  have h21 := h11.below b1
  have hb2 := hb1.trans (b1.mono hb1.size)
  obtain ⟨X2, s2, v2, g2⟩ := h20.store (noneR)
  go_wp2_with fail
  rw [show (heldS (.pointer (some ⟨w.heap.size, 0, none⟩)) (.agg #[.int .i64 0, .int .i64 0, .int .i64 0, .int .i64 0, .int .i64 0, .int .i64 0, .int .i64 0, .int .i64 0, .int .i64 0, .int .i64 0, .int .i64 0, .int .i64 0, .int .i64 0, .int .i64 0, .int .i64 0, .int .i64 0, .int .i64 0, .int .i64 0])).run Tryd.prog X1 = .ok () X2 from s2]
  clear s2
  go_simp
  have h31 := h21.grown g2 (by intro e; have := Option.some.inj e; omega)
  have hb3 := hb2.grown g2 hb2.size (fun j e => by cases e; exact Nat.le_refl _)
  obtain ⟨X3, s3, v3, g3⟩ := h31.store (noneR)
  go_wp2_with fail
  rw [show (heldS (.pointer (some ⟨w.heap.size + 1, 0, none⟩)) (.agg #[.int .i64 0, .int .i64 0, .int .i64 0, .int .i64 0, .int .i64 0, .int .i64 0, .int .i64 0, .int .i64 0, .int .i64 0, .int .i64 0, .int .i64 0, .int .i64 0, .int .i64 0, .int .i64 0, .int .i64 0, .int .i64 0, .int .i64 0, .int .i64 0])).run Tryd.prog X2 = .ok () X3 from s3]
  clear s3
  go_simp
  have h40 := v2.grown g3 (by intro e; have := Option.some.inj e; omega)
  have hb4 := hb3.grown g3 hb3.size (fun j e => by cases e; exact Nat.le_succ _)
  go_wp2_with fail
  exact ret_both (x := .iface T v) h40 v3 rfl rfl rfl rfl ⟨⟨T, v, rfl⟩, hb4⟩

set_option maxHeartbeats 4000000 in
theorem pboth_second (p q : ByteArray) (w : World) {N : Nat} (hE : Laid3 N w) {a : Node} (hP : readP p.toList = some a) (hQ : readP q.toList = none) :
    Calls Tryd.prog 44 #[.string p, .string q] w fun e w' => (∃ T v, e = .returned (.tuple #[resV noneR, resV noneR, .iface T v])) ∧ Below w.heap.size w w' := by
  obtain ⟨V, hV⟩ : ∃ V, V = (w.alloc (.cells (resA noneR) 63)).alloc (.cells (resA noneR) 63) := ⟨_, rfl⟩
  have hA : Below w.heap.size w V := by rw [hV]; exact ((Below.refl _ _).alloc (Nat.le_refl _) _).alloc (by simp) _
  have hn0 : ResAt V w.heap.size noneR := by rw [hV]; exact (ResAt.new w _).grown (World.grownBy_alloc _ _ none) (by simp)
  have hn1 : ResAt V (w.heap.size + 1) noneR := by
    rw [hV]
    have := ResAt.new (w.alloc (.cells (resA noneR) 63)) noneR
    rw [World.size_alloc] at this
    exact this
  have hEV := hE.below hA hE.lt
  have hp := presOf_some p V hEV hP
  generalize runR a = r at hp
  go_enter Tryd.func44, Tryd.ntmps44
  go_wp2_with fail
  rw [show (w.alloc (.cells #[.int .i64 0, .int .i64 0, .int .i64 0, .int .i64 0, .int .i64 0, .int .i64 0, .int .i64 0, .int .i64 0, .int .i64 0, .int .i64 0, .int .i64 0, .int .i64 0, .int .i64 0, .int .i64 0, .int .i64 0, .int .i64 0, .int .i64 0, .int .i64 0] 63)).alloc (.cells #[.int .i64 0, .int .i64 0, .int .i64 0, .int .i64 0, .int .i64 0, .int .i64 0, .int .i64 0, .int .i64 0, .int .i64 0, .int .i64 0, .int .i64 0, .int .i64 0, .int .i64 0, .int .i64 0, .int .i64 0, .int .i64 0, .int .i64 0, .int .i64 0] 63) = V from hV.symm]
  have HV := Lib.hid hV
  have HA := Lib.hid hA
  clear hV hA
  go_at_call 54
  refine hp.mono ?_
  rintro e W1 ⟨rfl, hb⟩
  have hsz := hb.size
  have hlt1 := hn1.lt
  have h10 := hn0.below hb
  have h11 := hn1.below hb
  have hb1 := HA.out.trans (hb.mono HA.out.size)
  have z1 := ResAt.new W1 noneR
  have n1 : Below W1.heap.size W1 (W1.alloc (.cells (resA noneR) 63)) := (Below.refl _ W1).alloc (Nat.le_refl _) _
  obtain ⟨Y1, hY1⟩ : ∃ X, X = W1.alloc (.cells (resA noneR) 63) := ⟨_, rfl⟩
  rw [← hY1] at z1 n1
  obtain ⟨X1, s1, v1, g1⟩ := z1.store (r)
  have b1 : Below W1.heap.size W1 X1 := n1.grown g1 n1.size (fun j e => by cases e; exact Nat.le_refl _)
  go_wp2_with fail
  rw [show W1.alloc (.cells #[.int .i64 0, .int .i64 0, .int .i64 0, .int .i64 0, .int .i64 0, .int .i64 0, .int .i64 0, .int .i64 0, .int .i64 0, .int .i64 0, .int .i64 0, .int .i64 0, .int .i64 0, .int .i64 0, .int .i64 0, .int .i64 0, .int .i64 0, .int .i64 0] 63) = Y1 from hY1.symm, s1]
  have HY1 := Lib.hid hY1
  clear hY1 z1 n1 g1 s1
  go_simp
  have h20 := h10.below b1
  have h21 := h11.below b1
  have hb2 := hb1.trans (b1.mono hb1.size)
  have hE2 := hE.below hb2 hE.lt
  go_wp2_with fail
  go_at_call 54
  refine (presOf_none q X1 hE2 hQ).mono ?_
  rintro e W2 ⟨⟨T, v, rfl⟩, hb'⟩
  have h30 := h20.below hb'
  have h31 := h21.below hb'
  have hb3 := hb2.trans (hb'.mono hb2.size)
  have hs3 := hb'.size
  have hl3 := h21.lt
  have z2 := ResAt.new W2 noneR
  have n2 : Below W2.heap.size W2 (W2.alloc (.cells (resA noneR) 63)) := (Below.refl _ W2).alloc (Nat.le_refl _) _
  obtain ⟨Y2, hY2⟩ : ∃ X, X = W2.alloc (.cells (resA noneR) 63) := ⟨_, rfl⟩
  rw [← hY2] at z2 n2
  obtain ⟨X2, s2, v2, g2⟩ := z2.store (noneR)
  have b2 : Below W2.heap.size W2 X2 := n2.grown g2 n2.size (fun j e => by cases e; exact Nat.le_refl _)
  go_wp2_with fail
  rw [show W2.alloc (.cells #[.int .i64 0, .int .i64 0, .int .i64 0, .int .i64 0, .int .i64 0, .int .i64 0, .int .i64 0, .int .i64 0, .int .i64 0, .int .i64 0, .int .i64 0, .int .i64 0, .int .i64 0, .int .i64 0, .int .i64 0, .int .i64 0, .int .i64 0, .int .i64 0] 63) = Y2 from hY2.symm, s2]
  have HY2 := Lib.hid hY2
  clear hY2 z2 n2 g2 s2
  go_simp
  have h40 := h30.below b2
  have h41 := h31.below b2
  have hb4 := hb3.trans (b2.mono hb3.size)
  obtain ⟨X3, s3, v3, g3⟩ := h40.store (noneR)
  go_wp2_with fail
  rw [show (heldS (.pointer (some ⟨w.heap.size, 0, none⟩)) (.agg #[.int .i64 0, .int .i64 0, .int .i64 0, .int .i64 0, .int .i64 0, .int .i64 0, .int .i64 0, .int .i64 0, .int .i64 0, .int .i64 0, .int .i64 0, .int .i64 0, .int .i64 0, .int .i64 0, .int .i64 0, .int .i64 0, .int .i64 0, .int .i64 0])).run Tryd.prog X2 = .ok () X3 from s3]
  clear s3
  go_simp
  have h51 := h41.grown g3 (by intro e; have := Option.some.inj e; omega)
  have hb5 := hb4.grown g3 hb4.size (fun j e => by cases e; exact Nat.le_refl _)
  obtain ⟨X4, s4, v4, g4⟩ := h51.store (noneR)
  go_wp2_with fail
  rw [show (heldS (.pointer (some ⟨w.heap.size + 1, 0, none⟩)) (.agg #[.int .i64 0, .int .i64 0, .int .i64 0, .int .i64 0, .int .i64 0, .int .i64 0, .int .i64 0, .int .i64 0, .int .i64 0, .int .i64 0, .int .i64 0, .int .i64 0, .int .i64 0, .int .i64 0, .int .i64 0, .int .i64 0, .int .i64 0, .int .i64 0])).run Tryd.prog X3 = .ok () X4 from s4]
  clear s4
  go_simp
  have h60 := v3.grown g4 (by intro e; have := Option.some.inj e; omega)
  have hb6 := hb5.grown g4 hb5.size (fun j e => by cases e; exact Nat.le_succ _)
  go_wp2_with fail
  exact ret_both (x := .iface T v) h60 v4 rfl rfl rfl rfl ⟨⟨T, v, rfl⟩, hb6⟩

set_option maxHeartbeats 4000000 in
theorem pboth_both (p q : ByteArray) (w : World) {N : Nat} (hE : Laid3 N w) {a b : Node} (hP : readP p.toList = some a) (hQ : readP q.toList = some b) :
    Calls Tryd.prog 44 #[.string p, .string q] w fun e w' => e = .returned (.tuple #[resV (runR a), resV (runR b), .nilIface]) ∧ Below w.heap.size w w' := by
  obtain ⟨V, hV⟩ : ∃ V, V = (w.alloc (.cells (resA noneR) 63)).alloc (.cells (resA noneR) 63) := ⟨_, rfl⟩
  have hA : Below w.heap.size w V := by rw [hV]; exact ((Below.refl _ _).alloc (Nat.le_refl _) _).alloc (by simp) _
  have hn0 : ResAt V w.heap.size noneR := by rw [hV]; exact (ResAt.new w _).grown (World.grownBy_alloc _ _ none) (by simp)
  have hn1 : ResAt V (w.heap.size + 1) noneR := by
    rw [hV]
    have := ResAt.new (w.alloc (.cells (resA noneR) 63)) noneR
    rw [World.size_alloc] at this
    exact this
  have hEV := hE.below hA hE.lt
  have hp := presOf_some p V hEV hP
  have hq := fun X (hX : Laid3 N X) => presOf_some q X hX hQ
  generalize runR a = r at hp ⊢
  generalize runR b = u at hq ⊢
  go_enter Tryd.func44, Tryd.ntmps44
  go_wp2_with fail
  rw [show (w.alloc (.cells #[.int .i64 0, .int .i64 0, .int .i64 0, .int .i64 0, .int .i64 0, .int .i64 0, .int .i64 0, .int .i64 0, .int .i64 0, .int .i64 0, .int .i64 0, .int .i64 0, .int .i64 0, .int .i64 0, .int .i64 0, .int .i64 0, .int .i64 0, .int .i64 0] 63)).alloc (.cells #[.int .i64 0, .int .i64 0, .int .i64 0, .int .i64 0, .int .i64 0, .int .i64 0, .int .i64 0, .int .i64 0, .int .i64 0, .int .i64 0, .int .i64 0, .int .i64 0, .int .i64 0, .int .i64 0, .int .i64 0, .int .i64 0, .int .i64 0, .int .i64 0] 63) = V from hV.symm]
  have HV := Lib.hid hV
  have HA := Lib.hid hA
  clear hV hA
  go_at_call 54
  refine hp.mono ?_
  rintro e W1 ⟨rfl, hb⟩
  have hsz := hb.size
  have hlt1 := hn1.lt
  have h10 := hn0.below hb
  have h11 := hn1.below hb
  have hb1 := HA.out.trans (hb.mono HA.out.size)
  have z1 := ResAt.new W1 noneR
  have n1 : Below W1.heap.size W1 (W1.alloc (.cells (resA noneR) 63)) := (Below.refl _ W1).alloc (Nat.le_refl _) _
  obtain ⟨Y1, hY1⟩ : ∃ X, X = W1.alloc (.cells (resA noneR) 63) := ⟨_, rfl⟩
  rw [← hY1] at z1 n1
  obtain ⟨X1, s1, v1, g1⟩ := z1.store (r)
  have b1 : Below W1.heap.size W1 X1 := n1.grown g1 n1.size (fun j e => by cases e; exact Nat.le_refl _)
  go_wp2_with fail
  rw [show W1.alloc (.cells #[.int .i64 0, .int .i64 0, .int .i64 0, .int .i64 0, .int .i64 0, .int .i64 0, .int .i64 0, .int .i64 0, .int .i64 0, .int .i64 0, .int .i64 0, .int .i64 0, .int .i64 0, .int .i64 0, .int .i64 0, .int .i64 0, .int .i64 0, .int .i64 0] 63) = Y1 from hY1.symm, s1]
  have HY1 := Lib.hid hY1
  clear hY1 z1 n1 g1 s1
  go_simp
  have h20 := h10.below b1
  have h21 := h11.below b1
  have hb2 := hb1.trans (b1.mono hb1.size)
  have hE2 := hE.below hb2 hE.lt
  go_wp2_with fail
  go_at_call 54
  refine (hq X1 hE2).mono ?_
  rintro e W2 ⟨rfl, hb'⟩
  have h30 := h20.below hb'
  have h31 := h21.below hb'
  have v1' := v1.below hb'
  have hb3 := hb2.trans (hb'.mono hb2.size)
  have hs3 := hb'.size
  have hl3 := h21.lt
  have z2 := ResAt.new W2 noneR
  have n2 : Below W2.heap.size W2 (W2.alloc (.cells (resA noneR) 63)) := (Below.refl _ W2).alloc (Nat.le_refl _) _
  obtain ⟨Y2, hY2⟩ : ∃ X, X = W2.alloc (.cells (resA noneR) 63) := ⟨_, rfl⟩
  rw [← hY2] at z2 n2
  obtain ⟨X2, s2, v2, g2⟩ := z2.store (u)
  have b2 : Below W2.heap.size W2 X2 := n2.grown g2 n2.size (fun j e => by cases e; exact Nat.le_refl _)
  go_wp2_with fail
  rw [show W2.alloc (.cells #[.int .i64 0, .int .i64 0, .int .i64 0, .int .i64 0, .int .i64 0, .int .i64 0, .int .i64 0, .int .i64 0, .int .i64 0, .int .i64 0, .int .i64 0, .int .i64 0, .int .i64 0, .int .i64 0, .int .i64 0, .int .i64 0, .int .i64 0, .int .i64 0] 63) = Y2 from hY2.symm, s2]
  have HY2 := Lib.hid hY2
  clear hY2 z2 n2 g2 s2
  go_simp
  have h40 := h30.below b2
  have h41 := h31.below b2
  have v1'' := v1'.below b2
  have hld1 := v1''.load
  have hld2 := v2.load
  have hb4 := hb3.trans (b2.mono hb3.size)
  have hl4 := h31.lt
  have hl5 := h41.lt
  have D0 : ResAt X2.drew w.heap.size noneR := h40
  have D1 : ResAt X2.drew (w.heap.size + 1) noneR := h41
  have L1 : (heldL (.pointer (some ⟨W1.heap.size, 0, none⟩))).run Tryd.prog X2.drew = .ok (resV r) X2.drew := (show ResAt X2.drew _ r from v1'').load
  have L2 : (heldL (.pointer (some ⟨W2.heap.size, 0, none⟩))).run Tryd.prog X2.drew = .ok (resV u) X2.drew := (show ResAt X2.drew _ u from v2).load
  go_wp2_with fail
  obtain ⟨X3, s3, v3, g3⟩ := D0.store r
  have E1 := D1.grown g3 (by intro e; have := Option.some.inj e; omega)
  have E2 : ResAt X3 W2.heap.size u := (show ResAt X2.drew _ u from v2).grown g3 (by intro e; have := Option.some.inj e; omega)
  have L3 := E2.load
  obtain ⟨X4, s4, v4, g4⟩ := E1.store u
  have F0 := v3.grown g4 (by intro e; have := Option.some.inj e; omega)
  have hb4d := hb4.drew
  have hb5 := hb4d.grown g3 hb4d.size (fun j e => by cases e; exact Nat.le_refl _)
  have hb6 := hb5.grown g4 hb5.size (fun j e => by cases e; exact Nat.le_succ _)
  clear hld1 hld2 g3 g4
  go_region
  all_goals go_wp2_with fail
  all_goals exact ret_both (x := .nilIface) F0 v4 rfl rfl rfl rfl ⟨rfl, hb6⟩
end Go.Proofs.YtgkgkaapjljpcaaDoor

