/- Chapter 11, the model: the rules on a sequence: a sequence ahead (wip/tools/mkZD3.py). -/
import Derived.Test.YtgkgkaapjljpcaaDoorZDk
namespace Go.Proofs.YtgkgkaapjljpcaaDoor
open Go.ChangeShapes Go.WideShapes Go.ChangeAt Go.RowKit Go.Shelf
attribute [local go_sem] Oper.semAt_some
set_option maxRecDepth 100000

set_option maxHeartbeats 20000000 in
theorem seq_l (p q b : Node) (hoa : (Node.pair 59 p q).ok) (hob : b.ok) (s : ByteArray) (g cap : Nat) (w : World) (k1 : Int) (s1 : ByteArray) (ad1 : Option Addr) (n1 cap1 : Nat) (k2 : Int) (s2 : ByteArray) (ad2 : Option Addr) (n2 cap2 : Nat) (hD : Duo w g (.pair 59 p q) b k1 s1 ad1 n1 cap1 k2 s2 ad2 n2 cap2) (hA1 : isA (.pair 59 p q) 46 = false) (hA2 : isA b 46 = false) (hA3 : isA (.pair 59 p q) 33 = false) :
    Calls Tryd.prog 65 #[.agg #[.int .u8 59, .string s, .slice (some ⟨g, 0, none⟩) 2 cap]] w (MFits (some (.pair 59 p (.pair 59 q b))) w) := by
  obtain ⟨hg, c0, c1, c2, c3, c4, c5, na, nb⟩ := hD
  obtain ⟨V, hV⟩ : ∃ V, V = (w.alloc (.cells #[.int .u8 59, .string s, .slice (some ⟨g, 0, none⟩) 2 cap] 52)).alloc (.cells #[.int .u8 0, .string ⟨#[]⟩, .slice none 0 0] 52) := ⟨_, rfl⟩
  have hA : Below w.heap.size w V := by rw [hV]; exact ((Below.refl _ w).alloc (Nat.le_refl _) _).alloc (by simp) _
  have v1 : Var V w.heap.size 59 s (some ⟨g, 0, none⟩) 2 cap := by rw [hV]; exact (Var.new w _ _ _ _ _).grown (World.grownBy_alloc _ _ none) (by simp)
  have v2 : Var V (w.heap.size + 1) 0 ⟨#[]⟩ none 0 0 := by
    rw [hV]
    have := Var.new (w.alloc (.cells #[.int .u8 59, .string s, .slice (some ⟨g, 0, none⟩) 2 cap] 52)) 0 ⟨#[]⟩ none 0 0
    rw [World.size_alloc] at this
    exact this
  obtain ⟨x0, x1, x2, _⟩ := v1.cells
  have d0 := (hA.cell (p := ⟨g, 0, none⟩) hg).trans c0
  have d1 := (hA.cell (p := ⟨g, 1, none⟩) hg).trans c1
  have d2 := (hA.cell (p := ⟨g, 2, none⟩) hg).trans c2
  have d3 := (hA.cell (p := ⟨g, 3, none⟩) hg).trans c3
  have d4 := (hA.cell (p := ⟨g, 4, none⟩) hg).trans c4
  have d5 := (hA.cell (p := ⟨g, 5, none⟩) hg).trans c5
  obtain ⟨g0, hg0⟩ : ∃ g0, g0 = w.heap.size := ⟨_, rfl⟩
  rw [← hg0] at x0 x1 x2 v1 v2
  have hg0V : g0 < V.heap.size := by rw [hV, hg0]; simp; omega
  have hgV : g < V.heap.size := by rw [hV]; simp; omega
  have hg1V : g0 + 1 < V.heap.size := by rw [hV, hg0]; simp
  have NA := Lib.hid na
  have NB := Lib.hid nb
  have H1 := fun w => mis (.pair 59 p q) hoa 46 na w
  have H2 := fun w => mis b hob 46 nb w
  have H3 := fun w => mis (.pair 59 p q) hoa 33 na w
  clear c0 c1 c2 c3 c4 c5 nb
  obtain ⟨rfl, rfl, rfl, g1, rfl, _, hg1, kp, sp, adp, np, capp, kq, sq, adq, nq, capq, ⟨e0, e1, e2⟩, ⟨e3, e4, e5⟩, hnp, hnq⟩ := na
  rw [show (((59 : UInt8).toNat : Nat) : Int) = 59 from rfl] at *
  have NP := Lib.hid (show Nd w p kp sp adp np capp from hnp)
  have NQ := Lib.hid (show Nd w q kq sq adq nq capq from hnq)
  have E := Lib.hid (And.intro (And.intro e0 (And.intro e1 e2)) (And.intro e3 (And.intro e4 e5)))
  clear hnp hnq e0 e1 e2 e3 e4 e5
  go_enter Tryd.func65, Tryd.ntmps65
  go_wp2_with fail
  rw [← hV, ← hg0]
  have HVV := Lib.hid hV
  have HA := Lib.hid hA
  have HG := Lib.hid hg0
  clear hV hA hg0
  go_region
  · obtain ⟨Z, hZ⟩ : ∃ Z, Z = ((V.alloc (.cells #[.int .u8 59, .string ⟨#[]⟩, .slice (some ⟨g1, 0, none⟩) 2 cap1] 52)).alloc (.cells #[.int .u8 k2, .string s2, .slice ad2 n2 cap2] 52)).drew := ⟨_, rfl⟩
    have va : Var Z V.heap.size 59 ⟨#[]⟩ (some ⟨g1, 0, none⟩) 2 cap1 := by rw [hZ]; exact var_drew ((Var.new V _ _ _ _ _).grown (World.grownBy_alloc _ _ none) (by simp))
    have vb : Var Z (V.heap.size + 1) k2 s2 ad2 n2 cap2 := by
      rw [hZ]
      have := Var.new (V.alloc (.cells #[.int .u8 59, .string ⟨#[]⟩, .slice (some ⟨g1, 0, none⟩) 2 cap1] 52)) k2 s2 ad2 n2 cap2
      rw [World.size_alloc] at this
      exact this
    have hbZ : Below V.heap.size V Z := by rw [hZ]; exact (((Below.refl _ V).alloc (Nat.le_refl _) _).alloc (by simp) _).drew
    have vr : Var Z (g0 + 1) 0 ⟨#[]⟩ none 0 0 := (hbZ.block (g0 + 1) hg1V).trans v2
    have vs : V.heap.size + 1 < Z.heap.size := by rw [hZ]; simp
    rw [← hZ]
    have HZ := Lib.hid hZ
    clear hZ
    obtain ⟨p0, p1, p2, _⟩ := va.cells
    obtain ⟨q0, q1, q2, _⟩ := vb.cells
    go_wp2_with fail
    go_at_call 96
    refine (H1 _).mono ?_
    rintro e Y1 ⟨rfl, b1⟩
    rw [hA1]
    replace va := va.grown (below_grown b1 none) (by simp)
    replace vb := vb.grown (below_grown b1 none) (by simp)
    replace vr := vr.grown (below_grown b1 none) (by simp)
    have hbZ := hbZ.trans (b1.mono hbZ.size)
    obtain ⟨p0, p1, p2, pf⟩ := va.cells
    obtain ⟨q0, q1, q2, qf⟩ := vb.cells
    obtain ⟨r0, r1, r2, rf⟩ := vr.cells
    go_wp2_with fail
    go_at_call 96
    refine (H2 _).mono ?_
    rintro e Y2 ⟨rfl, b2⟩
    rw [hA2]
    replace va := va.grown (below_grown b2 none) (by simp)
    replace vb := vb.grown (below_grown b2 none) (by simp)
    replace vr := vr.grown (below_grown b2 none) (by simp)
    have hbZ := hbZ.trans (b2.mono hbZ.size)
    obtain ⟨p0, p1, p2, pf⟩ := va.cells
    obtain ⟨q0, q1, q2, qf⟩ := vb.cells
    obtain ⟨r0, r1, r2, rf⟩ := vr.cells
    go_wp2_with fail
    go_at_call 96
    refine (H3 _).mono ?_
    rintro e Y3 ⟨rfl, b3⟩
    rw [hA3]
    replace va := va.grown (below_grown b3 none) (by simp)
    replace vb := vb.grown (below_grown b3 none) (by simp)
    replace vr := vr.grown (below_grown b3 none) (by simp)
    have hbZ := hbZ.trans (b3.mono hbZ.size)
    obtain ⟨p0, p1, p2, pf⟩ := va.cells
    obtain ⟨q0, q1, q2, qf⟩ := vb.cells
    obtain ⟨r0, r1, r2, rf⟩ := vr.cells
    go_wp2_with fail
    have hbT := HA.out.trans (hbZ.mono HA.out.size)
    have v0A : Var Y3 (V.heap.size) 59 ⟨#[]⟩ (some ⟨g1, 0, none⟩) 2 cap1 := va
    have v0B : Var Y3 (V.heap.size + 1) k2 s2 ad2 n2 cap2 := vb
    have v0R : Var Y3 (g0 + 1) 0 ⟨#[]⟩ none 0 0 := vr
    have v0W : Var Y3 g0 59 s (some ⟨g, 0, none⟩) 2 cap := (hbZ.block g0 hg0V).trans v1
    have ltA : V.heap.size < Y3.heap.size := v0A.lt'
    have ltB : V.heap.size + 1 < Y3.heap.size := v0B.lt'
    have ltR : g0 + 1 < Y3.heap.size := v0R.lt'
    have ltW : g0 < Y3.heap.size := v0W.lt'
    refine wp_region_held (S := fun w' => w'.cell? ⟨V.heap.size, 0, none⟩ = some (.int .u8 59) ∧ w'.cell? ⟨V.heap.size, 1, none⟩ = some (.string ⟨#[]⟩) ∧ w'.cell? ⟨V.heap.size, 2, none⟩ = some (.slice (some ⟨g1, 0, none⟩) 2 cap1) ∧ w'.cell? ⟨V.heap.size + 1, 0, none⟩ = some (.int .u8 k2) ∧ w'.cell? ⟨V.heap.size + 1, 1, none⟩ = some (.string s2) ∧ w'.cell? ⟨V.heap.size + 1, 2, none⟩ = some (.slice ad2 n2 cap2)) (by kernel_rfl) ?_
    have hS : Y3.drew.cell? ⟨V.heap.size, 0, none⟩ = some (.int .u8 59) ∧ Y3.drew.cell? ⟨V.heap.size, 1, none⟩ = some (.string ⟨#[]⟩) ∧ Y3.drew.cell? ⟨V.heap.size, 2, none⟩ = some (.slice (some ⟨g1, 0, none⟩) 2 cap1) ∧ Y3.drew.cell? ⟨V.heap.size + 1, 0, none⟩ = some (.int .u8 k2) ∧ Y3.drew.cell? ⟨V.heap.size + 1, 1, none⟩ = some (.string s2) ∧ Y3.drew.cell? ⟨V.heap.size + 1, 2, none⟩ = some (.slice ad2 n2 cap2) := ⟨p0, p1, p2, q0, q1, q2⟩
    refine wpAnyH_take (i := 0) (v := .pointer (some ⟨V.heap.size, 0, none⟩)) rfl (by kernel_rfl) (by kernel_rfl) (by kernel_rfl) (fun _ _ _ h => h) (Or.inl ⟨by rfl, fun w hw => by go_simp⟩) hS ?_
    go_simp
    refine wpAnyH_take (i := 1) (v := .int .u8 59) rfl (by kernel_rfl) (by kernel_rfl) (by kernel_rfl) (fun _ _ _ h => h) (Or.inl ⟨by rfl, fun w hw => by obtain ⟨l0, l1, l2, m0, m1, m2⟩ := hw; first | (go_simp; done) | rfl⟩) hS ?_
    go_simp
    refine wpAnyH_take (i := 2) (v := .bool false) rfl (by kernel_rfl) (by kernel_rfl) (by kernel_rfl) (fun _ _ _ h => h) (Or.inl ⟨by rfl, fun w hw => by go_simp⟩) hS ?_
    go_simp
    refine wpAnyH_take (i := 3) (v := .bool false) rfl (by kernel_rfl) (by kernel_rfl) (by kernel_rfl) (fun _ _ _ h => h) (Or.inl ⟨by rfl, fun w hw => by go_simp⟩) hS ?_
    go_simp
    refine wpAnyH_take (i := 4) (v := undef) rfl (by kernel_rfl) (by kernel_rfl) (by kernel_rfl) (fun _ _ _ h => h) (Or.inr ⟨by rfl, rfl⟩) hS ?_
    go_simp
    refine wpAnyH_take (i := 5) (v := undef) rfl (by kernel_rfl) (by kernel_rfl) (by kernel_rfl) (fun _ _ _ h => h) (Or.inr ⟨by rfl, rfl⟩) hS ?_
    go_simp
    refine wpAnyH_take (i := 6) (v := undef) rfl (by kernel_rfl) (by kernel_rfl) (by kernel_rfl) (fun _ _ _ h => h) (Or.inr ⟨by rfl, rfl⟩) hS ?_
    go_simp
    refine wpAnyH_take (i := 7) (v := undef) rfl (by kernel_rfl) (by kernel_rfl) (by kernel_rfl) (fun _ _ _ h => h) (Or.inr ⟨by rfl, rfl⟩) hS ?_
    go_simp
    refine wpAnyH_take (i := 8) (v := .bool false) rfl (by kernel_rfl) (by kernel_rfl) (by kernel_rfl) (fun _ _ _ h => h) (Or.inl ⟨by rfl, fun w hw => by go_simp⟩) hS ?_
    go_simp
    refine wpAnyH_take (i := 9) (v := .bool false) rfl (by kernel_rfl) (by kernel_rfl) (by kernel_rfl) (fun _ _ _ h => h) (Or.inl ⟨by rfl, fun w hw => by go_simp⟩) hS ?_
    go_simp
    refine wpAnyH_take (i := 10) (v := undef) rfl (by kernel_rfl) (by kernel_rfl) (by kernel_rfl) (fun _ _ _ h => h) (Or.inr ⟨by rfl, rfl⟩) hS ?_
    go_simp
    refine wpAnyH_take (i := 11) (v := undef) rfl (by kernel_rfl) (by kernel_rfl) (by kernel_rfl) (fun _ _ _ h => h) (Or.inr ⟨by rfl, rfl⟩) hS ?_
    go_simp
    refine wpAnyH_take (i := 12) (v := undef) rfl (by kernel_rfl) (by kernel_rfl) (by kernel_rfl) (fun _ _ _ h => h) (Or.inr ⟨by rfl, rfl⟩) hS ?_
    go_simp
    refine wpAnyH_take (i := 13) (v := undef) rfl (by kernel_rfl) (by kernel_rfl) (by kernel_rfl) (fun _ _ _ h => h) (Or.inr ⟨by rfl, rfl⟩) hS ?_
    go_simp
    refine wpAnyH_take (i := 14) (v := undef) rfl (by kernel_rfl) (by kernel_rfl) (by kernel_rfl) (fun _ _ _ h => h) (Or.inr ⟨by rfl, rfl⟩) hS ?_
    go_simp
    refine wpAnyH_take (i := 15) (v := .bool false) rfl (by kernel_rfl) (by kernel_rfl) (by kernel_rfl) (fun _ _ _ h => h) (Or.inl ⟨by rfl, fun w hw => by go_simp⟩) hS ?_
    go_simp
    refine wpAnyH_take (i := 16) (v := .bool false) rfl (by kernel_rfl) (by kernel_rfl) (by kernel_rfl) (fun _ _ _ h => h) (Or.inl ⟨by rfl, fun w hw => by go_simp⟩) hS ?_
    go_simp
    refine wpAnyH_done (by kernel_rfl) ?_ _
    have hbW : Below w.heap.size w Y3.drew := hbT.drew
    have v2A : Var Y3.drew (V.heap.size) 59 ⟨#[]⟩ (some ⟨g1, 0, none⟩) 2 cap1 := v0A
    have v2B : Var Y3.drew (V.heap.size + 1) k2 s2 ad2 n2 cap2 := v0B
    have v2R : Var Y3.drew (g0 + 1) 0 ⟨#[]⟩ none 0 0 := v0R
    have v2W : Var Y3.drew g0 59 s (some ⟨g, 0, none⟩) 2 cap := v0W
    obtain ⟨p0, p1, p2, pf⟩ := v2A.cells
    obtain ⟨q0, q1, q2, qf⟩ := v2B.cells
    obtain ⟨r0, r1, r2, rf⟩ := v2R.cells
    obtain ⟨w0, w1, w2, wf⟩ := v2W.cells
    obtain ⟨⟨e0, e1, e2⟩, ⟨e3, e4, e5⟩⟩ := E.out
    go_wp2_with fail
    obtain ⟨Y, hY⟩ : ∃ Y, Y = Y3.drew := ⟨_, rfl⟩
    rw [← hY] at v2A v2B v2R v2W hbW ⊢
    clear p0 p1 p2 pf q0 q1 q2 qf r0 r1 r2 rf w0 w1 w2 wf hS hbT v0A v0B v0R v0W ltA ltB ltR ltW hY
    replace e0 := (hbW.cell (p := ⟨g1, 0, none⟩) hg1).trans e0
    replace e1 := (hbW.cell (p := ⟨g1, 1, none⟩) hg1).trans e1
    replace e2 := (hbW.cell (p := ⟨g1, 2, none⟩) hg1).trans e2
    replace e3 := (hbW.cell (p := ⟨g1, 3, none⟩) hg1).trans e3
    replace e4 := (hbW.cell (p := ⟨g1, 4, none⟩) hg1).trans e4
    replace e5 := (hbW.cell (p := ⟨g1, 5, none⟩) hg1).trans e5
    have hg1Y : g1 < Y.heap.size := Nat.lt_of_lt_of_le hg1 hbW.size
    refine wp_region_held (S := fun w' => Below Y.heap.size Y w') (by kernel_rfl) ?_
    have hS13 : Below Y.heap.size Y Y.drew := (Below.refl _ Y).drew
    refine wpAnyH_take (i := 0) (v := .pointer (some ⟨V.heap.size, 2, none⟩)) rfl (by kernel_rfl) (by kernel_rfl) (by kernel_rfl) (fun _ _ _ h => h) (Or.inl ⟨by rfl, fun w hw => by go_simp⟩) hS13 ?_
    go_simp
    refine wpAnyH_take (i := 1) (v := .slice (some ⟨g1, 0, none⟩) 2 cap1) rfl (by kernel_rfl) (by kernel_rfl) (by kernel_rfl) (fun _ _ _ h => h) (Or.inl ⟨by rfl, fun w hw => by obtain ⟨l0, l1, l2, _⟩ := (v2A.grown (below_grown hw none) (by simp)).cells; obtain ⟨m0, m1, m2, _⟩ := (v2B.grown (below_grown hw none) (by simp)).cells; have c3 := (hw.cell (p := ⟨g1, 3, none⟩) hg1Y).trans e3; have c4 := (hw.cell (p := ⟨g1, 4, none⟩) hg1Y).trans e4; have c5 := (hw.cell (p := ⟨g1, 5, none⟩) hg1Y).trans e5; first | (go_simp; done) | rfl⟩) hS13 ?_
    go_simp
    refine wpAnyH_take (i := 2) (v := .pointer (some ⟨g1, 3, none⟩)) rfl (by kernel_rfl) (by kernel_rfl) (by kernel_rfl) (fun _ _ _ h => h) (Or.inl ⟨by rfl, fun w hw => by go_simp⟩) hS13 ?_
    go_simp
    refine wpAnyH_take (i := 3) (v := .agg #[.int .u8 kq, .string sq, .slice adq nq capq]) rfl (by kernel_rfl) (by kernel_rfl) (by kernel_rfl) (fun _ _ _ h => h) (Or.inl ⟨by rfl, fun w hw => by obtain ⟨l0, l1, l2, _⟩ := (v2A.grown (below_grown hw none) (by simp)).cells; obtain ⟨m0, m1, m2, _⟩ := (v2B.grown (below_grown hw none) (by simp)).cells; have c3 := (hw.cell (p := ⟨g1, 3, none⟩) hg1Y).trans e3; have c4 := (hw.cell (p := ⟨g1, 4, none⟩) hg1Y).trans e4; have c5 := (hw.cell (p := ⟨g1, 5, none⟩) hg1Y).trans e5; first | (go_simp; done) | rfl⟩) hS13 ?_
    go_simp
    refine wpAnyH_take (i := 4) (v := .agg #[.int .u8 k2, .string s2, .slice ad2 n2 cap2]) rfl (by kernel_rfl) (by kernel_rfl) (by kernel_rfl) (fun _ _ _ h => h) (Or.inl ⟨by rfl, fun w hw => by obtain ⟨l0, l1, l2, _⟩ := (v2A.grown (below_grown hw none) (by simp)).cells; obtain ⟨m0, m1, m2, _⟩ := (v2B.grown (below_grown hw none) (by simp)).cells; have c3 := (hw.cell (p := ⟨g1, 3, none⟩) hg1Y).trans e3; have c4 := (hw.cell (p := ⟨g1, 4, none⟩) hg1Y).trans e4; have c5 := (hw.cell (p := ⟨g1, 5, none⟩) hg1Y).trans e5; first | (go_simp; done) | rfl⟩) hS13 ?_
    go_simp
    refine wpAnyH_ready (rs := [5, 7]) (by kernel_rfl) (by simp) ?_
    refine AllReadyH.cons rfl (fun K hK => ?_) (AllReadyH.cons rfl (fun K hK => ?_) AllReadyH.nil)
    · go_simp
      obtain ⟨W1, hW1⟩ : ∃ W1, W1 = (Y.alloc (.cells #[.int .u8 kq, .string sq, .slice adq nq capq, .int .u8 k2, .string s2, .slice ad2 n2 cap2] 52)).drew := ⟨_, rfl⟩
      have y1 : Below Y.heap.size Y W1 := by rw [hW1]; exact ((Below.refl _ Y).alloc (Nat.le_refl _) _).drew
      have six1 : Six W1 Y.heap.size (.int .u8 kq) (.string sq) (.slice adq nq capq) (.int .u8 k2) (.string s2) (.slice ad2 n2 cap2) := by rw [hW1]; exact Six.new Y _ _ _ _ _ _
      have z1 := Lib.hid (show W1.heap.size = Y.heap.size + 1 by rw [hW1]; simp)
      rw [← hW1]
      clear hW1
      refine hK _ _ y1 (fun _ => ?_)
      clear hK K
      go_simp
      refine wpAnyH_take (i := 6) (v := .agg #[.int .u8 59, .string ⟨#[]⟩, .slice (some ⟨Y.heap.size, 0, none⟩) 2 2]) rfl (by kernel_rfl) (by kernel_rfl) (by kernel_rfl) (fun _ _ _ h => h) (Or.inl ⟨by rfl, fun w hw => by go_simp⟩) y1 ?_
      go_simp
      refine wpAnyH_ready (rs := [7]) (by kernel_rfl) (by simp) ?_
      refine AllReadyH.cons rfl (fun K hK => ?_) AllReadyH.nil
      go_simp
      obtain ⟨W2, hW2⟩ : ∃ W2, W2 = W1.alloc (.cells #[.int .u8 0, .string ⟨#[]⟩, .slice none 0 0] 52) := ⟨_, rfl⟩
      have y2 : Below Y.heap.size Y W2 := by rw [hW2]; exact y1.alloc y1.size _
      have six : Six W2 Y.heap.size (.int .u8 kq) (.string sq) (.slice adq nq capq) (.int .u8 k2) (.string s2) (.slice ad2 n2 cap2) := by rw [hW2]; exact six1.below ((Below.refl _ W1).alloc (Nat.le_refl _) _) six1.lt
      have vx2 : Var W2 W1.heap.size 0 ⟨#[]⟩ none 0 0 := by rw [hW2]; exact Var.new W1 _ _ _ _ _
      rw [← hW2]
      clear hW2
      refine hK _ _ y2 (fun _ => ?_)
      clear hK K
      go_simp
      refine wpAnyH_ready (rs := [8]) (by kernel_rfl) (by simp) ?_
      refine AllReadyH.cons rfl (fun K hK => ?_) AllReadyH.nil
      obtain ⟨r0, r1, r2, rf⟩ := vx2.cells
      go_simp
      have xge : Y.heap.size ≤ W1.heap.size := by have := z1.out; omega
      have y3 : Below Y.heap.size Y (set3 W2 (W1.heap.size) 59 ⟨#[]⟩ (some ⟨Y.heap.size, 0, none⟩) 2 2) := below_of (set3_grown (below_grown y2 (some (W1.heap.size))) xge _ _ _ _ _) xge
      refine hK _ (set3 W2 (W1.heap.size) 59 ⟨#[]⟩ (some ⟨Y.heap.size, 0, none⟩) 2 2) y3 (fun _ => ?_)
      clear hK K
      go_simp
      refine wpAnyH_done (by kernel_rfl) ?_ _
      have vx := set3_var vx2 59 ⟨#[]⟩ (some ⟨Y.heap.size, 0, none⟩) 2 2
      replace six : Six (set3 W2 (W1.heap.size) 59 ⟨#[]⟩ (some ⟨Y.heap.size, 0, none⟩) 2 2) (Y.heap.size) (.int .u8 kq) (.string sq) (.slice adq nq capq) (.int .u8 k2) (.string s2) (.slice ad2 n2 cap2) := (set3_block (by have := z1.out; omega) _ _ _ _ _).trans six
      obtain ⟨U, hU⟩ : ∃ U, U = set3 W2 (W1.heap.size) 59 ⟨#[]⟩ (some ⟨Y.heap.size, 0, none⟩) 2 2 := ⟨_, rfl⟩
      rw [← hU] at vx six y3 ⊢
      clear hU r0 r1 r2 rf vx2 y1 y2 six1
      have bwU : Below w.heap.size w U := hbW.trans (y3.mono hbW.size)
      have vrU : Var U (g0 + 1) 0 ⟨#[]⟩ none 0 0 := v2R.grown (below_grown y3 none) (by simp)
      have vaU : Var U (V.heap.size) 59 ⟨#[]⟩ (some ⟨g1, 0, none⟩) 2 cap1 := v2A.grown (below_grown y3 none) (by simp)
      replace e0 := (y3.cell (p := ⟨g1, 0, none⟩) hg1Y).trans e0
      replace e1 := (y3.cell (p := ⟨g1, 1, none⟩) hg1Y).trans e1
      replace e2 := (y3.cell (p := ⟨g1, 2, none⟩) hg1Y).trans e2
      have hg1U : g1 < U.heap.size := Nat.lt_of_lt_of_le hg1Y y3.size
      clear e3 e4 e5 hS13
      have nA : V.heap.size ≠ g0 + 1 := by omega
      have nX : W1.heap.size ≠ g0 + 1 := by have := v2R.lt'; omega
      have nG : g1 ≠ g0 + 1 := by have := HG.out; omega
      go_wp2_with fail
      refine wp_region_held (S := fun w' => Keeps (g0 + 1) U w') (by kernel_rfl) ?_
      have hS : Keeps (g0 + 1) U U.drew := Keeps.of_below ((Below.refl _ U).drew)
      refine wpAnyH_take (i := 0) (v := .pointer (some ⟨V.heap.size, 2, none⟩)) rfl (by kernel_rfl) (by kernel_rfl) (by kernel_rfl) (fun _ _ _ h => h) (Or.inl ⟨by rfl, fun w hw => by go_simp⟩) hS ?_
      go_simp
      refine wpAnyH_take (i := 1) (v := .slice (some ⟨g1, 0, none⟩) 2 cap1) rfl (by kernel_rfl) (by kernel_rfl) (by kernel_rfl) (fun _ _ _ h => h) (Or.inl ⟨by rfl, fun w hw => by obtain ⟨l0, l1, l2, _⟩ := (hw.var vaU nA).cells; obtain ⟨m0, m1, m2, _⟩ := (hw.var vx nX).cells; have c0 := (hw.cell nG hg1U 0).trans e0; have c1 := (hw.cell nG hg1U 1).trans e1; have c2 := (hw.cell nG hg1U 2).trans e2; first | (go_simp; done) | rfl⟩) hS ?_
      go_simp
      refine wpAnyH_take (i := 2) (v := .pointer (some ⟨g1, 0, none⟩)) rfl (by kernel_rfl) (by kernel_rfl) (by kernel_rfl) (fun _ _ _ h => h) (Or.inl ⟨by rfl, fun w hw => by go_simp⟩) hS ?_
      go_simp
      refine wpAnyH_take (i := 3) (v := .agg #[.int .u8 kp, .string sp, .slice adp np capp]) rfl (by kernel_rfl) (by kernel_rfl) (by kernel_rfl) (fun _ _ _ h => h) (Or.inl ⟨by rfl, fun w hw => by obtain ⟨l0, l1, l2, _⟩ := (hw.var vaU nA).cells; obtain ⟨m0, m1, m2, _⟩ := (hw.var vx nX).cells; have c0 := (hw.cell nG hg1U 0).trans e0; have c1 := (hw.cell nG hg1U 1).trans e1; have c2 := (hw.cell nG hg1U 2).trans e2; first | (go_simp; done) | rfl⟩) hS ?_
      go_simp
      refine wpAnyH_take (i := 4) (v := .agg #[.int .u8 59, .string ⟨#[]⟩, .slice (some ⟨Y.heap.size, 0, none⟩) 2 2]) rfl (by kernel_rfl) (by kernel_rfl) (by kernel_rfl) (fun _ _ _ h => h) (Or.inl ⟨by rfl, fun w hw => by obtain ⟨l0, l1, l2, _⟩ := (hw.var vaU nA).cells; obtain ⟨m0, m1, m2, _⟩ := (hw.var vx nX).cells; have c0 := (hw.cell nG hg1U 0).trans e0; have c1 := (hw.cell nG hg1U 1).trans e1; have c2 := (hw.cell nG hg1U 2).trans e2; first | (go_simp; done) | rfl⟩) hS ?_
      go_simp
      refine wpAnyH_ready (rs := [5]) (by kernel_rfl) (by simp) ?_
      refine AllReadyH.cons rfl (fun K hK => ?_) AllReadyH.nil
      go_simp
      obtain ⟨U1, hU1⟩ : ∃ U1, U1 = (U.alloc (.cells #[.int .u8 kp, .string sp, .slice adp np capp, .int .u8 59, .string ⟨#[]⟩, .slice (some ⟨Y.heap.size, 0, none⟩) 2 2] 52)).drew := ⟨_, rfl⟩
      have b1 : Below U.heap.size U U1 := by rw [hU1]; exact ((Below.refl _ U).alloc (Nat.le_refl _) _).drew
      have six1 : Six U1 U.heap.size (.int .u8 kp) (.string sp) (.slice adp np capp) (.int .u8 59) (.string ⟨#[]⟩) (.slice (some ⟨Y.heap.size, 0, none⟩) 2 2) := by rw [hU1]; exact Six.new U _ _ _ _ _ _
      rw [← hU1]
      clear hU1
      refine hK _ _ (Keeps.of_below b1) (fun _ => ?_)
      clear hK K
      go_simp
      refine wpAnyH_take (i := 6) (v := .agg #[.int .u8 59, .string ⟨#[]⟩, .slice (some ⟨U.heap.size, 0, none⟩) 2 2]) rfl (by kernel_rfl) (by kernel_rfl) (by kernel_rfl) (fun _ _ _ h => h) (Or.inl ⟨by rfl, fun w hw => by go_simp⟩) (Keeps.of_below b1) ?_
      go_simp
      have vr1 : Var U1 (g0 + 1) 0 ⟨#[]⟩ none 0 0 := vrU.grown (below_grown b1 none) (by simp)
      have lr : g0 + 1 < U.heap.size := vrU.lt'
      have hb14 : Below w.heap.size w U1 := bwU.trans (b1.mono bwU.size)
      refine wpAnyH_ready (rs := [7]) (by kernel_rfl) (by simp) ?_
      refine AllReadyH.cons rfl (fun K hK => ?_) AllReadyH.nil
      obtain ⟨r0, r1, r2, rf⟩ := vr1.cells
      go_simp
      refine hK _ (set3 U1 (g0 + 1) 59 ⟨#[]⟩ (some ⟨U.heap.size, 0, none⟩) 2 2) ((Keeps.of_below b1).set3 _ _ _ _ _) (fun h14 => ?_)
      clear hK K
      go_simp
      refine wpAnyH_take (i := 8) (v := .bool true) rfl (by kernel_rfl) (by kernel_rfl) (by kernel_rfl) (fun _ _ _ h => h) (Or.inl ⟨by rfl, fun w hw => by go_simp⟩) h14 ?_
      go_simp
      refine wpAnyH_done (by kernel_rfl) ?_ _
      have gle : w.heap.size ≤ g0 + 1 := by rw [HG.out]; omega
      have bf : Below w.heap.size w (set3 U1 (g0 + 1) 59 ⟨#[]⟩ (some ⟨U.heap.size, 0, none⟩) 2 2) := below_of (set3_grown (below_grown hb14 (some (g0 + 1))) gle _ _ _ _ _) gle
      have vf := set3_var vr1 59 ⟨#[]⟩ (some ⟨U.heap.size, 0, none⟩) 2 2
      have n1f : Nd (set3 U1 (g0 + 1) 59 ⟨#[]⟩ (some ⟨U.heap.size, 0, none⟩) 2 2) (.pair 59 q b) 59 ⟨#[]⟩ (some ⟨Y.heap.size, 0, none⟩) 2 2 :=
        nd_pair ((set3_block (by have := v2R.lt'; have := z1.out; omega) _ _ _ _ _).trans (six.below b1 six.lt)) (NQ.out.below bf) (NB.out.below bf) 2
      have nf : Nd (set3 U1 (g0 + 1) 59 ⟨#[]⟩ (some ⟨U.heap.size, 0, none⟩) 2 2) (.pair 59 p (.pair 59 q b)) 59 ⟨#[]⟩ (some ⟨U.heap.size, 0, none⟩) 2 2 :=
        nd_pair ((set3_block (by omega) _ _ _ _ _).trans six1) (NP.out.below bf) n1f 2
      have HF := Lib.hid (And.intro vf (And.intro nf bf))
      clear vf nf bf n1f six six1 hb14
      go_wp2_with fail
      obtain ⟨vf, nf, bf⟩ := HF.out
      exact ret_topS vf rfl rfl rfl ⟨bf, _, _, _, _, _, rfl, fun nd h => by obtain rfl := Option.some.inj h; exact nf⟩
    · go_simp
      obtain ⟨W1, hW1⟩ : ∃ W1, W1 = (Y.alloc (.cells #[.int .u8 0, .string ⟨#[]⟩, .slice none 0 0] 52)).drew := ⟨_, rfl⟩
      have y1 : Below Y.heap.size Y W1 := by rw [hW1]; exact ((Below.refl _ Y).alloc (Nat.le_refl _) _).drew
      have vx1 : Var W1 Y.heap.size 0 ⟨#[]⟩ none 0 0 := by rw [hW1]; exact var_drew (Var.new Y _ _ _ _ _)
      have z1 := Lib.hid (show W1.heap.size = Y.heap.size + 1 by rw [hW1]; simp)
      rw [← hW1]
      clear hW1
      refine hK _ _ y1 (fun _ => ?_)
      clear hK K
      go_simp
      refine wpAnyH_ready (rs := [5]) (by kernel_rfl) (by simp) ?_
      refine AllReadyH.cons rfl (fun K hK => ?_) AllReadyH.nil
      go_simp
      obtain ⟨W2, hW2⟩ : ∃ W2, W2 = W1.alloc (.cells #[.int .u8 kq, .string sq, .slice adq nq capq, .int .u8 k2, .string s2, .slice ad2 n2 cap2] 52) := ⟨_, rfl⟩
      have y2 : Below Y.heap.size Y W2 := by rw [hW2]; exact y1.alloc y1.size _
      have six : Six W2 W1.heap.size (.int .u8 kq) (.string sq) (.slice adq nq capq) (.int .u8 k2) (.string s2) (.slice ad2 n2 cap2) := by rw [hW2]; exact Six.new W1 _ _ _ _ _ _
      have vx2 : Var W2 Y.heap.size 0 ⟨#[]⟩ none 0 0 := by rw [hW2]; exact vx1.grown (World.grownBy_alloc _ _ none) (by simp)
      rw [← hW2]
      clear hW2
      refine hK _ _ y2 (fun _ => ?_)
      clear hK K
      go_simp
      refine wpAnyH_take (i := 6) (v := .agg #[.int .u8 59, .string ⟨#[]⟩, .slice (some ⟨W1.heap.size, 0, none⟩) 2 2]) rfl (by kernel_rfl) (by kernel_rfl) (by kernel_rfl) (fun _ _ _ h => h) (Or.inl ⟨by rfl, fun w hw => by go_simp⟩) y2 ?_
      go_simp
      refine wpAnyH_ready (rs := [8]) (by kernel_rfl) (by simp) ?_
      refine AllReadyH.cons rfl (fun K hK => ?_) AllReadyH.nil
      obtain ⟨r0, r1, r2, rf⟩ := vx2.cells
      go_simp
      have xge : Y.heap.size ≤ Y.heap.size := by have := z1.out; omega
      have y3 : Below Y.heap.size Y (set3 W2 (Y.heap.size) 59 ⟨#[]⟩ (some ⟨W1.heap.size, 0, none⟩) 2 2) := below_of (set3_grown (below_grown y2 (some (Y.heap.size))) xge _ _ _ _ _) xge
      refine hK _ (set3 W2 (Y.heap.size) 59 ⟨#[]⟩ (some ⟨W1.heap.size, 0, none⟩) 2 2) y3 (fun _ => ?_)
      clear hK K
      go_simp
      refine wpAnyH_done (by kernel_rfl) ?_ _
      have vx := set3_var vx2 59 ⟨#[]⟩ (some ⟨W1.heap.size, 0, none⟩) 2 2
      replace six : Six (set3 W2 (Y.heap.size) 59 ⟨#[]⟩ (some ⟨W1.heap.size, 0, none⟩) 2 2) (W1.heap.size) (.int .u8 kq) (.string sq) (.slice adq nq capq) (.int .u8 k2) (.string s2) (.slice ad2 n2 cap2) := (set3_block (by have := z1.out; omega) _ _ _ _ _).trans six
      obtain ⟨U, hU⟩ : ∃ U, U = set3 W2 (Y.heap.size) 59 ⟨#[]⟩ (some ⟨W1.heap.size, 0, none⟩) 2 2 := ⟨_, rfl⟩
      rw [← hU] at vx six y3 ⊢
      clear hU r0 r1 r2 rf vx2 y1 y2 vx1
      have bwU : Below w.heap.size w U := hbW.trans (y3.mono hbW.size)
      have vrU : Var U (g0 + 1) 0 ⟨#[]⟩ none 0 0 := v2R.grown (below_grown y3 none) (by simp)
      have vaU : Var U (V.heap.size) 59 ⟨#[]⟩ (some ⟨g1, 0, none⟩) 2 cap1 := v2A.grown (below_grown y3 none) (by simp)
      replace e0 := (y3.cell (p := ⟨g1, 0, none⟩) hg1Y).trans e0
      replace e1 := (y3.cell (p := ⟨g1, 1, none⟩) hg1Y).trans e1
      replace e2 := (y3.cell (p := ⟨g1, 2, none⟩) hg1Y).trans e2
      have hg1U : g1 < U.heap.size := Nat.lt_of_lt_of_le hg1Y y3.size
      clear e3 e4 e5 hS13
      have nA : V.heap.size ≠ g0 + 1 := by omega
      have nX : Y.heap.size ≠ g0 + 1 := by have := v2R.lt'; omega
      have nG : g1 ≠ g0 + 1 := by have := HG.out; omega
      go_wp2_with fail
      refine wp_region_held (S := fun w' => Keeps (g0 + 1) U w') (by kernel_rfl) ?_
      have hS : Keeps (g0 + 1) U U.drew := Keeps.of_below ((Below.refl _ U).drew)
      refine wpAnyH_take (i := 0) (v := .pointer (some ⟨V.heap.size, 2, none⟩)) rfl (by kernel_rfl) (by kernel_rfl) (by kernel_rfl) (fun _ _ _ h => h) (Or.inl ⟨by rfl, fun w hw => by go_simp⟩) hS ?_
      go_simp
      refine wpAnyH_take (i := 1) (v := .slice (some ⟨g1, 0, none⟩) 2 cap1) rfl (by kernel_rfl) (by kernel_rfl) (by kernel_rfl) (fun _ _ _ h => h) (Or.inl ⟨by rfl, fun w hw => by obtain ⟨l0, l1, l2, _⟩ := (hw.var vaU nA).cells; obtain ⟨m0, m1, m2, _⟩ := (hw.var vx nX).cells; have c0 := (hw.cell nG hg1U 0).trans e0; have c1 := (hw.cell nG hg1U 1).trans e1; have c2 := (hw.cell nG hg1U 2).trans e2; first | (go_simp; done) | rfl⟩) hS ?_
      go_simp
      refine wpAnyH_take (i := 2) (v := .pointer (some ⟨g1, 0, none⟩)) rfl (by kernel_rfl) (by kernel_rfl) (by kernel_rfl) (fun _ _ _ h => h) (Or.inl ⟨by rfl, fun w hw => by go_simp⟩) hS ?_
      go_simp
      refine wpAnyH_take (i := 3) (v := .agg #[.int .u8 kp, .string sp, .slice adp np capp]) rfl (by kernel_rfl) (by kernel_rfl) (by kernel_rfl) (fun _ _ _ h => h) (Or.inl ⟨by rfl, fun w hw => by obtain ⟨l0, l1, l2, _⟩ := (hw.var vaU nA).cells; obtain ⟨m0, m1, m2, _⟩ := (hw.var vx nX).cells; have c0 := (hw.cell nG hg1U 0).trans e0; have c1 := (hw.cell nG hg1U 1).trans e1; have c2 := (hw.cell nG hg1U 2).trans e2; first | (go_simp; done) | rfl⟩) hS ?_
      go_simp
      refine wpAnyH_take (i := 4) (v := .agg #[.int .u8 59, .string ⟨#[]⟩, .slice (some ⟨W1.heap.size, 0, none⟩) 2 2]) rfl (by kernel_rfl) (by kernel_rfl) (by kernel_rfl) (fun _ _ _ h => h) (Or.inl ⟨by rfl, fun w hw => by obtain ⟨l0, l1, l2, _⟩ := (hw.var vaU nA).cells; obtain ⟨m0, m1, m2, _⟩ := (hw.var vx nX).cells; have c0 := (hw.cell nG hg1U 0).trans e0; have c1 := (hw.cell nG hg1U 1).trans e1; have c2 := (hw.cell nG hg1U 2).trans e2; first | (go_simp; done) | rfl⟩) hS ?_
      go_simp
      refine wpAnyH_ready (rs := [5]) (by kernel_rfl) (by simp) ?_
      refine AllReadyH.cons rfl (fun K hK => ?_) AllReadyH.nil
      go_simp
      obtain ⟨U1, hU1⟩ : ∃ U1, U1 = (U.alloc (.cells #[.int .u8 kp, .string sp, .slice adp np capp, .int .u8 59, .string ⟨#[]⟩, .slice (some ⟨W1.heap.size, 0, none⟩) 2 2] 52)).drew := ⟨_, rfl⟩
      have b1 : Below U.heap.size U U1 := by rw [hU1]; exact ((Below.refl _ U).alloc (Nat.le_refl _) _).drew
      have six1 : Six U1 U.heap.size (.int .u8 kp) (.string sp) (.slice adp np capp) (.int .u8 59) (.string ⟨#[]⟩) (.slice (some ⟨W1.heap.size, 0, none⟩) 2 2) := by rw [hU1]; exact Six.new U _ _ _ _ _ _
      rw [← hU1]
      clear hU1
      refine hK _ _ (Keeps.of_below b1) (fun _ => ?_)
      clear hK K
      go_simp
      refine wpAnyH_take (i := 6) (v := .agg #[.int .u8 59, .string ⟨#[]⟩, .slice (some ⟨U.heap.size, 0, none⟩) 2 2]) rfl (by kernel_rfl) (by kernel_rfl) (by kernel_rfl) (fun _ _ _ h => h) (Or.inl ⟨by rfl, fun w hw => by go_simp⟩) (Keeps.of_below b1) ?_
      go_simp
      have vr1 : Var U1 (g0 + 1) 0 ⟨#[]⟩ none 0 0 := vrU.grown (below_grown b1 none) (by simp)
      have lr : g0 + 1 < U.heap.size := vrU.lt'
      have hb14 : Below w.heap.size w U1 := bwU.trans (b1.mono bwU.size)
      refine wpAnyH_ready (rs := [7]) (by kernel_rfl) (by simp) ?_
      refine AllReadyH.cons rfl (fun K hK => ?_) AllReadyH.nil
      obtain ⟨r0, r1, r2, rf⟩ := vr1.cells
      go_simp
      refine hK _ (set3 U1 (g0 + 1) 59 ⟨#[]⟩ (some ⟨U.heap.size, 0, none⟩) 2 2) ((Keeps.of_below b1).set3 _ _ _ _ _) (fun h14 => ?_)
      clear hK K
      go_simp
      refine wpAnyH_take (i := 8) (v := .bool true) rfl (by kernel_rfl) (by kernel_rfl) (by kernel_rfl) (fun _ _ _ h => h) (Or.inl ⟨by rfl, fun w hw => by go_simp⟩) h14 ?_
      go_simp
      refine wpAnyH_done (by kernel_rfl) ?_ _
      have gle : w.heap.size ≤ g0 + 1 := by rw [HG.out]; omega
      have bf : Below w.heap.size w (set3 U1 (g0 + 1) 59 ⟨#[]⟩ (some ⟨U.heap.size, 0, none⟩) 2 2) := below_of (set3_grown (below_grown hb14 (some (g0 + 1))) gle _ _ _ _ _) gle
      have vf := set3_var vr1 59 ⟨#[]⟩ (some ⟨U.heap.size, 0, none⟩) 2 2
      have n1f : Nd (set3 U1 (g0 + 1) 59 ⟨#[]⟩ (some ⟨U.heap.size, 0, none⟩) 2 2) (.pair 59 q b) 59 ⟨#[]⟩ (some ⟨W1.heap.size, 0, none⟩) 2 2 :=
        nd_pair ((set3_block (by have := v2R.lt'; have := z1.out; omega) _ _ _ _ _).trans (six.below b1 six.lt)) (NQ.out.below bf) (NB.out.below bf) 2
      have nf : Nd (set3 U1 (g0 + 1) 59 ⟨#[]⟩ (some ⟨U.heap.size, 0, none⟩) 2 2) (.pair 59 p (.pair 59 q b)) 59 ⟨#[]⟩ (some ⟨U.heap.size, 0, none⟩) 2 2 :=
        nd_pair ((set3_block (by omega) _ _ _ _ _).trans six1) (NP.out.below bf) n1f 2
      have HF := Lib.hid (And.intro vf (And.intro nf bf))
      clear vf nf bf n1f six six1 hb14
      go_wp2_with fail
      obtain ⟨vf, nf, bf⟩ := HF.out
      exact ret_topS vf rfl rfl rfl ⟨bf, _, _, _, _, _, rfl, fun nd h => by obtain rfl := Option.some.inj h; exact nf⟩
  · obtain ⟨Z, hZ⟩ : ∃ Z, Z = ((V.alloc (.cells #[.int .u8 k2, .string s2, .slice ad2 n2 cap2] 52)).alloc (.cells #[.int .u8 59, .string ⟨#[]⟩, .slice (some ⟨g1, 0, none⟩) 2 cap1] 52)).drew := ⟨_, rfl⟩
    have vb : Var Z V.heap.size k2 s2 ad2 n2 cap2 := by rw [hZ]; exact var_drew ((Var.new V _ _ _ _ _).grown (World.grownBy_alloc _ _ none) (by simp))
    have va : Var Z (V.heap.size + 1) 59 ⟨#[]⟩ (some ⟨g1, 0, none⟩) 2 cap1 := by
      rw [hZ]
      have := Var.new (V.alloc (.cells #[.int .u8 k2, .string s2, .slice ad2 n2 cap2] 52)) 59 ⟨#[]⟩ (some ⟨g1, 0, none⟩) 2 cap1
      rw [World.size_alloc] at this
      exact this
    have hbZ : Below V.heap.size V Z := by rw [hZ]; exact (((Below.refl _ V).alloc (Nat.le_refl _) _).alloc (by simp) _).drew
    have vr : Var Z (g0 + 1) 0 ⟨#[]⟩ none 0 0 := (hbZ.block (g0 + 1) hg1V).trans v2
    have vs : V.heap.size + 1 < Z.heap.size := by rw [hZ]; simp
    rw [← hZ]
    have HZ := Lib.hid hZ
    clear hZ
    obtain ⟨p0, p1, p2, _⟩ := va.cells
    obtain ⟨q0, q1, q2, _⟩ := vb.cells
    go_wp2_with fail
    go_at_call 96
    refine (H1 _).mono ?_
    rintro e Y1 ⟨rfl, b1⟩
    rw [hA1]
    replace va := va.grown (below_grown b1 none) (by simp)
    replace vb := vb.grown (below_grown b1 none) (by simp)
    replace vr := vr.grown (below_grown b1 none) (by simp)
    have hbZ := hbZ.trans (b1.mono hbZ.size)
    obtain ⟨p0, p1, p2, pf⟩ := va.cells
    obtain ⟨q0, q1, q2, qf⟩ := vb.cells
    obtain ⟨r0, r1, r2, rf⟩ := vr.cells
    go_wp2_with fail
    go_at_call 96
    refine (H2 _).mono ?_
    rintro e Y2 ⟨rfl, b2⟩
    rw [hA2]
    replace va := va.grown (below_grown b2 none) (by simp)
    replace vb := vb.grown (below_grown b2 none) (by simp)
    replace vr := vr.grown (below_grown b2 none) (by simp)
    have hbZ := hbZ.trans (b2.mono hbZ.size)
    obtain ⟨p0, p1, p2, pf⟩ := va.cells
    obtain ⟨q0, q1, q2, qf⟩ := vb.cells
    obtain ⟨r0, r1, r2, rf⟩ := vr.cells
    go_wp2_with fail
    go_at_call 96
    refine (H3 _).mono ?_
    rintro e Y3 ⟨rfl, b3⟩
    rw [hA3]
    replace va := va.grown (below_grown b3 none) (by simp)
    replace vb := vb.grown (below_grown b3 none) (by simp)
    replace vr := vr.grown (below_grown b3 none) (by simp)
    have hbZ := hbZ.trans (b3.mono hbZ.size)
    obtain ⟨p0, p1, p2, pf⟩ := va.cells
    obtain ⟨q0, q1, q2, qf⟩ := vb.cells
    obtain ⟨r0, r1, r2, rf⟩ := vr.cells
    go_wp2_with fail
    have hbT := HA.out.trans (hbZ.mono HA.out.size)
    have v0A : Var Y3 (V.heap.size + 1) 59 ⟨#[]⟩ (some ⟨g1, 0, none⟩) 2 cap1 := va
    have v0B : Var Y3 (V.heap.size) k2 s2 ad2 n2 cap2 := vb
    have v0R : Var Y3 (g0 + 1) 0 ⟨#[]⟩ none 0 0 := vr
    have v0W : Var Y3 g0 59 s (some ⟨g, 0, none⟩) 2 cap := (hbZ.block g0 hg0V).trans v1
    have ltA : V.heap.size + 1 < Y3.heap.size := v0A.lt'
    have ltB : V.heap.size < Y3.heap.size := v0B.lt'
    have ltR : g0 + 1 < Y3.heap.size := v0R.lt'
    have ltW : g0 < Y3.heap.size := v0W.lt'
    refine wp_region_held (S := fun w' => w'.cell? ⟨V.heap.size + 1, 0, none⟩ = some (.int .u8 59) ∧ w'.cell? ⟨V.heap.size + 1, 1, none⟩ = some (.string ⟨#[]⟩) ∧ w'.cell? ⟨V.heap.size + 1, 2, none⟩ = some (.slice (some ⟨g1, 0, none⟩) 2 cap1) ∧ w'.cell? ⟨V.heap.size, 0, none⟩ = some (.int .u8 k2) ∧ w'.cell? ⟨V.heap.size, 1, none⟩ = some (.string s2) ∧ w'.cell? ⟨V.heap.size, 2, none⟩ = some (.slice ad2 n2 cap2)) (by kernel_rfl) ?_
    have hS : Y3.drew.cell? ⟨V.heap.size + 1, 0, none⟩ = some (.int .u8 59) ∧ Y3.drew.cell? ⟨V.heap.size + 1, 1, none⟩ = some (.string ⟨#[]⟩) ∧ Y3.drew.cell? ⟨V.heap.size + 1, 2, none⟩ = some (.slice (some ⟨g1, 0, none⟩) 2 cap1) ∧ Y3.drew.cell? ⟨V.heap.size, 0, none⟩ = some (.int .u8 k2) ∧ Y3.drew.cell? ⟨V.heap.size, 1, none⟩ = some (.string s2) ∧ Y3.drew.cell? ⟨V.heap.size, 2, none⟩ = some (.slice ad2 n2 cap2) := ⟨p0, p1, p2, q0, q1, q2⟩
    refine wpAnyH_take (i := 0) (v := .pointer (some ⟨V.heap.size + 1, 0, none⟩)) rfl (by kernel_rfl) (by kernel_rfl) (by kernel_rfl) (fun _ _ _ h => h) (Or.inl ⟨by rfl, fun w hw => by go_simp⟩) hS ?_
    go_simp
    refine wpAnyH_take (i := 1) (v := .int .u8 59) rfl (by kernel_rfl) (by kernel_rfl) (by kernel_rfl) (fun _ _ _ h => h) (Or.inl ⟨by rfl, fun w hw => by obtain ⟨l0, l1, l2, m0, m1, m2⟩ := hw; first | (go_simp; done) | rfl⟩) hS ?_
    go_simp
    refine wpAnyH_take (i := 2) (v := .bool false) rfl (by kernel_rfl) (by kernel_rfl) (by kernel_rfl) (fun _ _ _ h => h) (Or.inl ⟨by rfl, fun w hw => by go_simp⟩) hS ?_
    go_simp
    refine wpAnyH_take (i := 3) (v := .bool false) rfl (by kernel_rfl) (by kernel_rfl) (by kernel_rfl) (fun _ _ _ h => h) (Or.inl ⟨by rfl, fun w hw => by go_simp⟩) hS ?_
    go_simp
    refine wpAnyH_take (i := 4) (v := undef) rfl (by kernel_rfl) (by kernel_rfl) (by kernel_rfl) (fun _ _ _ h => h) (Or.inr ⟨by rfl, rfl⟩) hS ?_
    go_simp
    refine wpAnyH_take (i := 5) (v := undef) rfl (by kernel_rfl) (by kernel_rfl) (by kernel_rfl) (fun _ _ _ h => h) (Or.inr ⟨by rfl, rfl⟩) hS ?_
    go_simp
    refine wpAnyH_take (i := 6) (v := undef) rfl (by kernel_rfl) (by kernel_rfl) (by kernel_rfl) (fun _ _ _ h => h) (Or.inr ⟨by rfl, rfl⟩) hS ?_
    go_simp
    refine wpAnyH_take (i := 7) (v := undef) rfl (by kernel_rfl) (by kernel_rfl) (by kernel_rfl) (fun _ _ _ h => h) (Or.inr ⟨by rfl, rfl⟩) hS ?_
    go_simp
    refine wpAnyH_take (i := 8) (v := .bool false) rfl (by kernel_rfl) (by kernel_rfl) (by kernel_rfl) (fun _ _ _ h => h) (Or.inl ⟨by rfl, fun w hw => by go_simp⟩) hS ?_
    go_simp
    refine wpAnyH_take (i := 9) (v := .bool false) rfl (by kernel_rfl) (by kernel_rfl) (by kernel_rfl) (fun _ _ _ h => h) (Or.inl ⟨by rfl, fun w hw => by go_simp⟩) hS ?_
    go_simp
    refine wpAnyH_take (i := 10) (v := undef) rfl (by kernel_rfl) (by kernel_rfl) (by kernel_rfl) (fun _ _ _ h => h) (Or.inr ⟨by rfl, rfl⟩) hS ?_
    go_simp
    refine wpAnyH_take (i := 11) (v := undef) rfl (by kernel_rfl) (by kernel_rfl) (by kernel_rfl) (fun _ _ _ h => h) (Or.inr ⟨by rfl, rfl⟩) hS ?_
    go_simp
    refine wpAnyH_take (i := 12) (v := undef) rfl (by kernel_rfl) (by kernel_rfl) (by kernel_rfl) (fun _ _ _ h => h) (Or.inr ⟨by rfl, rfl⟩) hS ?_
    go_simp
    refine wpAnyH_take (i := 13) (v := undef) rfl (by kernel_rfl) (by kernel_rfl) (by kernel_rfl) (fun _ _ _ h => h) (Or.inr ⟨by rfl, rfl⟩) hS ?_
    go_simp
    refine wpAnyH_take (i := 14) (v := undef) rfl (by kernel_rfl) (by kernel_rfl) (by kernel_rfl) (fun _ _ _ h => h) (Or.inr ⟨by rfl, rfl⟩) hS ?_
    go_simp
    refine wpAnyH_take (i := 15) (v := .bool false) rfl (by kernel_rfl) (by kernel_rfl) (by kernel_rfl) (fun _ _ _ h => h) (Or.inl ⟨by rfl, fun w hw => by go_simp⟩) hS ?_
    go_simp
    refine wpAnyH_take (i := 16) (v := .bool false) rfl (by kernel_rfl) (by kernel_rfl) (by kernel_rfl) (fun _ _ _ h => h) (Or.inl ⟨by rfl, fun w hw => by go_simp⟩) hS ?_
    go_simp
    refine wpAnyH_done (by kernel_rfl) ?_ _
    have hbW : Below w.heap.size w Y3.drew := hbT.drew
    have v2A : Var Y3.drew (V.heap.size + 1) 59 ⟨#[]⟩ (some ⟨g1, 0, none⟩) 2 cap1 := v0A
    have v2B : Var Y3.drew (V.heap.size) k2 s2 ad2 n2 cap2 := v0B
    have v2R : Var Y3.drew (g0 + 1) 0 ⟨#[]⟩ none 0 0 := v0R
    have v2W : Var Y3.drew g0 59 s (some ⟨g, 0, none⟩) 2 cap := v0W
    obtain ⟨p0, p1, p2, pf⟩ := v2A.cells
    obtain ⟨q0, q1, q2, qf⟩ := v2B.cells
    obtain ⟨r0, r1, r2, rf⟩ := v2R.cells
    obtain ⟨w0, w1, w2, wf⟩ := v2W.cells
    obtain ⟨⟨e0, e1, e2⟩, ⟨e3, e4, e5⟩⟩ := E.out
    go_wp2_with fail
    obtain ⟨Y, hY⟩ : ∃ Y, Y = Y3.drew := ⟨_, rfl⟩
    rw [← hY] at v2A v2B v2R v2W hbW ⊢
    clear p0 p1 p2 pf q0 q1 q2 qf r0 r1 r2 rf w0 w1 w2 wf hS hbT v0A v0B v0R v0W ltA ltB ltR ltW hY
    replace e0 := (hbW.cell (p := ⟨g1, 0, none⟩) hg1).trans e0
    replace e1 := (hbW.cell (p := ⟨g1, 1, none⟩) hg1).trans e1
    replace e2 := (hbW.cell (p := ⟨g1, 2, none⟩) hg1).trans e2
    replace e3 := (hbW.cell (p := ⟨g1, 3, none⟩) hg1).trans e3
    replace e4 := (hbW.cell (p := ⟨g1, 4, none⟩) hg1).trans e4
    replace e5 := (hbW.cell (p := ⟨g1, 5, none⟩) hg1).trans e5
    have hg1Y : g1 < Y.heap.size := Nat.lt_of_lt_of_le hg1 hbW.size
    refine wp_region_held (S := fun w' => Below Y.heap.size Y w') (by kernel_rfl) ?_
    have hS13 : Below Y.heap.size Y Y.drew := (Below.refl _ Y).drew
    refine wpAnyH_take (i := 0) (v := .pointer (some ⟨V.heap.size + 1, 2, none⟩)) rfl (by kernel_rfl) (by kernel_rfl) (by kernel_rfl) (fun _ _ _ h => h) (Or.inl ⟨by rfl, fun w hw => by go_simp⟩) hS13 ?_
    go_simp
    refine wpAnyH_take (i := 1) (v := .slice (some ⟨g1, 0, none⟩) 2 cap1) rfl (by kernel_rfl) (by kernel_rfl) (by kernel_rfl) (fun _ _ _ h => h) (Or.inl ⟨by rfl, fun w hw => by obtain ⟨l0, l1, l2, _⟩ := (v2A.grown (below_grown hw none) (by simp)).cells; obtain ⟨m0, m1, m2, _⟩ := (v2B.grown (below_grown hw none) (by simp)).cells; have c3 := (hw.cell (p := ⟨g1, 3, none⟩) hg1Y).trans e3; have c4 := (hw.cell (p := ⟨g1, 4, none⟩) hg1Y).trans e4; have c5 := (hw.cell (p := ⟨g1, 5, none⟩) hg1Y).trans e5; first | (go_simp; done) | rfl⟩) hS13 ?_
    go_simp
    refine wpAnyH_take (i := 2) (v := .pointer (some ⟨g1, 3, none⟩)) rfl (by kernel_rfl) (by kernel_rfl) (by kernel_rfl) (fun _ _ _ h => h) (Or.inl ⟨by rfl, fun w hw => by go_simp⟩) hS13 ?_
    go_simp
    refine wpAnyH_take (i := 3) (v := .agg #[.int .u8 kq, .string sq, .slice adq nq capq]) rfl (by kernel_rfl) (by kernel_rfl) (by kernel_rfl) (fun _ _ _ h => h) (Or.inl ⟨by rfl, fun w hw => by obtain ⟨l0, l1, l2, _⟩ := (v2A.grown (below_grown hw none) (by simp)).cells; obtain ⟨m0, m1, m2, _⟩ := (v2B.grown (below_grown hw none) (by simp)).cells; have c3 := (hw.cell (p := ⟨g1, 3, none⟩) hg1Y).trans e3; have c4 := (hw.cell (p := ⟨g1, 4, none⟩) hg1Y).trans e4; have c5 := (hw.cell (p := ⟨g1, 5, none⟩) hg1Y).trans e5; first | (go_simp; done) | rfl⟩) hS13 ?_
    go_simp
    refine wpAnyH_take (i := 4) (v := .agg #[.int .u8 k2, .string s2, .slice ad2 n2 cap2]) rfl (by kernel_rfl) (by kernel_rfl) (by kernel_rfl) (fun _ _ _ h => h) (Or.inl ⟨by rfl, fun w hw => by obtain ⟨l0, l1, l2, _⟩ := (v2A.grown (below_grown hw none) (by simp)).cells; obtain ⟨m0, m1, m2, _⟩ := (v2B.grown (below_grown hw none) (by simp)).cells; have c3 := (hw.cell (p := ⟨g1, 3, none⟩) hg1Y).trans e3; have c4 := (hw.cell (p := ⟨g1, 4, none⟩) hg1Y).trans e4; have c5 := (hw.cell (p := ⟨g1, 5, none⟩) hg1Y).trans e5; first | (go_simp; done) | rfl⟩) hS13 ?_
    go_simp
    refine wpAnyH_ready (rs := [5, 7]) (by kernel_rfl) (by simp) ?_
    refine AllReadyH.cons rfl (fun K hK => ?_) (AllReadyH.cons rfl (fun K hK => ?_) AllReadyH.nil)
    · go_simp
      obtain ⟨W1, hW1⟩ : ∃ W1, W1 = (Y.alloc (.cells #[.int .u8 kq, .string sq, .slice adq nq capq, .int .u8 k2, .string s2, .slice ad2 n2 cap2] 52)).drew := ⟨_, rfl⟩
      have y1 : Below Y.heap.size Y W1 := by rw [hW1]; exact ((Below.refl _ Y).alloc (Nat.le_refl _) _).drew
      have six1 : Six W1 Y.heap.size (.int .u8 kq) (.string sq) (.slice adq nq capq) (.int .u8 k2) (.string s2) (.slice ad2 n2 cap2) := by rw [hW1]; exact Six.new Y _ _ _ _ _ _
      have z1 := Lib.hid (show W1.heap.size = Y.heap.size + 1 by rw [hW1]; simp)
      rw [← hW1]
      clear hW1
      refine hK _ _ y1 (fun _ => ?_)
      clear hK K
      go_simp
      refine wpAnyH_take (i := 6) (v := .agg #[.int .u8 59, .string ⟨#[]⟩, .slice (some ⟨Y.heap.size, 0, none⟩) 2 2]) rfl (by kernel_rfl) (by kernel_rfl) (by kernel_rfl) (fun _ _ _ h => h) (Or.inl ⟨by rfl, fun w hw => by go_simp⟩) y1 ?_
      go_simp
      refine wpAnyH_ready (rs := [7]) (by kernel_rfl) (by simp) ?_
      refine AllReadyH.cons rfl (fun K hK => ?_) AllReadyH.nil
      go_simp
      obtain ⟨W2, hW2⟩ : ∃ W2, W2 = W1.alloc (.cells #[.int .u8 0, .string ⟨#[]⟩, .slice none 0 0] 52) := ⟨_, rfl⟩
      have y2 : Below Y.heap.size Y W2 := by rw [hW2]; exact y1.alloc y1.size _
      have six : Six W2 Y.heap.size (.int .u8 kq) (.string sq) (.slice adq nq capq) (.int .u8 k2) (.string s2) (.slice ad2 n2 cap2) := by rw [hW2]; exact six1.below ((Below.refl _ W1).alloc (Nat.le_refl _) _) six1.lt
      have vx2 : Var W2 W1.heap.size 0 ⟨#[]⟩ none 0 0 := by rw [hW2]; exact Var.new W1 _ _ _ _ _
      rw [← hW2]
      clear hW2
      refine hK _ _ y2 (fun _ => ?_)
      clear hK K
      go_simp
      refine wpAnyH_ready (rs := [8]) (by kernel_rfl) (by simp) ?_
      refine AllReadyH.cons rfl (fun K hK => ?_) AllReadyH.nil
      obtain ⟨r0, r1, r2, rf⟩ := vx2.cells
      go_simp
      have xge : Y.heap.size ≤ W1.heap.size := by have := z1.out; omega
      have y3 : Below Y.heap.size Y (set3 W2 (W1.heap.size) 59 ⟨#[]⟩ (some ⟨Y.heap.size, 0, none⟩) 2 2) := below_of (set3_grown (below_grown y2 (some (W1.heap.size))) xge _ _ _ _ _) xge
      refine hK _ (set3 W2 (W1.heap.size) 59 ⟨#[]⟩ (some ⟨Y.heap.size, 0, none⟩) 2 2) y3 (fun _ => ?_)
      clear hK K
      go_simp
      refine wpAnyH_done (by kernel_rfl) ?_ _
      have vx := set3_var vx2 59 ⟨#[]⟩ (some ⟨Y.heap.size, 0, none⟩) 2 2
      replace six : Six (set3 W2 (W1.heap.size) 59 ⟨#[]⟩ (some ⟨Y.heap.size, 0, none⟩) 2 2) (Y.heap.size) (.int .u8 kq) (.string sq) (.slice adq nq capq) (.int .u8 k2) (.string s2) (.slice ad2 n2 cap2) := (set3_block (by have := z1.out; omega) _ _ _ _ _).trans six
      obtain ⟨U, hU⟩ : ∃ U, U = set3 W2 (W1.heap.size) 59 ⟨#[]⟩ (some ⟨Y.heap.size, 0, none⟩) 2 2 := ⟨_, rfl⟩
      rw [← hU] at vx six y3 ⊢
      clear hU r0 r1 r2 rf vx2 y1 y2 six1
      have bwU : Below w.heap.size w U := hbW.trans (y3.mono hbW.size)
      have vrU : Var U (g0 + 1) 0 ⟨#[]⟩ none 0 0 := v2R.grown (below_grown y3 none) (by simp)
      have vaU : Var U (V.heap.size + 1) 59 ⟨#[]⟩ (some ⟨g1, 0, none⟩) 2 cap1 := v2A.grown (below_grown y3 none) (by simp)
      replace e0 := (y3.cell (p := ⟨g1, 0, none⟩) hg1Y).trans e0
      replace e1 := (y3.cell (p := ⟨g1, 1, none⟩) hg1Y).trans e1
      replace e2 := (y3.cell (p := ⟨g1, 2, none⟩) hg1Y).trans e2
      have hg1U : g1 < U.heap.size := Nat.lt_of_lt_of_le hg1Y y3.size
      clear e3 e4 e5 hS13
      have nA : V.heap.size + 1 ≠ g0 + 1 := by omega
      have nX : W1.heap.size ≠ g0 + 1 := by have := v2R.lt'; omega
      have nG : g1 ≠ g0 + 1 := by have := HG.out; omega
      go_wp2_with fail
      refine wp_region_held (S := fun w' => Keeps (g0 + 1) U w') (by kernel_rfl) ?_
      have hS : Keeps (g0 + 1) U U.drew := Keeps.of_below ((Below.refl _ U).drew)
      refine wpAnyH_take (i := 0) (v := .pointer (some ⟨V.heap.size + 1, 2, none⟩)) rfl (by kernel_rfl) (by kernel_rfl) (by kernel_rfl) (fun _ _ _ h => h) (Or.inl ⟨by rfl, fun w hw => by go_simp⟩) hS ?_
      go_simp
      refine wpAnyH_take (i := 1) (v := .slice (some ⟨g1, 0, none⟩) 2 cap1) rfl (by kernel_rfl) (by kernel_rfl) (by kernel_rfl) (fun _ _ _ h => h) (Or.inl ⟨by rfl, fun w hw => by obtain ⟨l0, l1, l2, _⟩ := (hw.var vaU nA).cells; obtain ⟨m0, m1, m2, _⟩ := (hw.var vx nX).cells; have c0 := (hw.cell nG hg1U 0).trans e0; have c1 := (hw.cell nG hg1U 1).trans e1; have c2 := (hw.cell nG hg1U 2).trans e2; first | (go_simp; done) | rfl⟩) hS ?_
      go_simp
      refine wpAnyH_take (i := 2) (v := .pointer (some ⟨g1, 0, none⟩)) rfl (by kernel_rfl) (by kernel_rfl) (by kernel_rfl) (fun _ _ _ h => h) (Or.inl ⟨by rfl, fun w hw => by go_simp⟩) hS ?_
      go_simp
      refine wpAnyH_take (i := 3) (v := .agg #[.int .u8 kp, .string sp, .slice adp np capp]) rfl (by kernel_rfl) (by kernel_rfl) (by kernel_rfl) (fun _ _ _ h => h) (Or.inl ⟨by rfl, fun w hw => by obtain ⟨l0, l1, l2, _⟩ := (hw.var vaU nA).cells; obtain ⟨m0, m1, m2, _⟩ := (hw.var vx nX).cells; have c0 := (hw.cell nG hg1U 0).trans e0; have c1 := (hw.cell nG hg1U 1).trans e1; have c2 := (hw.cell nG hg1U 2).trans e2; first | (go_simp; done) | rfl⟩) hS ?_
      go_simp
      refine wpAnyH_take (i := 4) (v := .agg #[.int .u8 59, .string ⟨#[]⟩, .slice (some ⟨Y.heap.size, 0, none⟩) 2 2]) rfl (by kernel_rfl) (by kernel_rfl) (by kernel_rfl) (fun _ _ _ h => h) (Or.inl ⟨by rfl, fun w hw => by obtain ⟨l0, l1, l2, _⟩ := (hw.var vaU nA).cells; obtain ⟨m0, m1, m2, _⟩ := (hw.var vx nX).cells; have c0 := (hw.cell nG hg1U 0).trans e0; have c1 := (hw.cell nG hg1U 1).trans e1; have c2 := (hw.cell nG hg1U 2).trans e2; first | (go_simp; done) | rfl⟩) hS ?_
      go_simp
      refine wpAnyH_ready (rs := [5]) (by kernel_rfl) (by simp) ?_
      refine AllReadyH.cons rfl (fun K hK => ?_) AllReadyH.nil
      go_simp
      obtain ⟨U1, hU1⟩ : ∃ U1, U1 = (U.alloc (.cells #[.int .u8 kp, .string sp, .slice adp np capp, .int .u8 59, .string ⟨#[]⟩, .slice (some ⟨Y.heap.size, 0, none⟩) 2 2] 52)).drew := ⟨_, rfl⟩
      have b1 : Below U.heap.size U U1 := by rw [hU1]; exact ((Below.refl _ U).alloc (Nat.le_refl _) _).drew
      have six1 : Six U1 U.heap.size (.int .u8 kp) (.string sp) (.slice adp np capp) (.int .u8 59) (.string ⟨#[]⟩) (.slice (some ⟨Y.heap.size, 0, none⟩) 2 2) := by rw [hU1]; exact Six.new U _ _ _ _ _ _
      rw [← hU1]
      clear hU1
      refine hK _ _ (Keeps.of_below b1) (fun _ => ?_)
      clear hK K
      go_simp
      refine wpAnyH_take (i := 6) (v := .agg #[.int .u8 59, .string ⟨#[]⟩, .slice (some ⟨U.heap.size, 0, none⟩) 2 2]) rfl (by kernel_rfl) (by kernel_rfl) (by kernel_rfl) (fun _ _ _ h => h) (Or.inl ⟨by rfl, fun w hw => by go_simp⟩) (Keeps.of_below b1) ?_
      go_simp
      have vr1 : Var U1 (g0 + 1) 0 ⟨#[]⟩ none 0 0 := vrU.grown (below_grown b1 none) (by simp)
      have lr : g0 + 1 < U.heap.size := vrU.lt'
      have hb14 : Below w.heap.size w U1 := bwU.trans (b1.mono bwU.size)
      refine wpAnyH_ready (rs := [7]) (by kernel_rfl) (by simp) ?_
      refine AllReadyH.cons rfl (fun K hK => ?_) AllReadyH.nil
      obtain ⟨r0, r1, r2, rf⟩ := vr1.cells
      go_simp
      refine hK _ (set3 U1 (g0 + 1) 59 ⟨#[]⟩ (some ⟨U.heap.size, 0, none⟩) 2 2) ((Keeps.of_below b1).set3 _ _ _ _ _) (fun h14 => ?_)
      clear hK K
      go_simp
      refine wpAnyH_take (i := 8) (v := .bool true) rfl (by kernel_rfl) (by kernel_rfl) (by kernel_rfl) (fun _ _ _ h => h) (Or.inl ⟨by rfl, fun w hw => by go_simp⟩) h14 ?_
      go_simp
      refine wpAnyH_done (by kernel_rfl) ?_ _
      have gle : w.heap.size ≤ g0 + 1 := by rw [HG.out]; omega
      have bf : Below w.heap.size w (set3 U1 (g0 + 1) 59 ⟨#[]⟩ (some ⟨U.heap.size, 0, none⟩) 2 2) := below_of (set3_grown (below_grown hb14 (some (g0 + 1))) gle _ _ _ _ _) gle
      have vf := set3_var vr1 59 ⟨#[]⟩ (some ⟨U.heap.size, 0, none⟩) 2 2
      have n1f : Nd (set3 U1 (g0 + 1) 59 ⟨#[]⟩ (some ⟨U.heap.size, 0, none⟩) 2 2) (.pair 59 q b) 59 ⟨#[]⟩ (some ⟨Y.heap.size, 0, none⟩) 2 2 :=
        nd_pair ((set3_block (by have := v2R.lt'; have := z1.out; omega) _ _ _ _ _).trans (six.below b1 six.lt)) (NQ.out.below bf) (NB.out.below bf) 2
      have nf : Nd (set3 U1 (g0 + 1) 59 ⟨#[]⟩ (some ⟨U.heap.size, 0, none⟩) 2 2) (.pair 59 p (.pair 59 q b)) 59 ⟨#[]⟩ (some ⟨U.heap.size, 0, none⟩) 2 2 :=
        nd_pair ((set3_block (by omega) _ _ _ _ _).trans six1) (NP.out.below bf) n1f 2
      have HF := Lib.hid (And.intro vf (And.intro nf bf))
      clear vf nf bf n1f six six1 hb14
      go_wp2_with fail
      obtain ⟨vf, nf, bf⟩ := HF.out
      exact ret_topS vf rfl rfl rfl ⟨bf, _, _, _, _, _, rfl, fun nd h => by obtain rfl := Option.some.inj h; exact nf⟩
    · go_simp
      obtain ⟨W1, hW1⟩ : ∃ W1, W1 = (Y.alloc (.cells #[.int .u8 0, .string ⟨#[]⟩, .slice none 0 0] 52)).drew := ⟨_, rfl⟩
      have y1 : Below Y.heap.size Y W1 := by rw [hW1]; exact ((Below.refl _ Y).alloc (Nat.le_refl _) _).drew
      have vx1 : Var W1 Y.heap.size 0 ⟨#[]⟩ none 0 0 := by rw [hW1]; exact var_drew (Var.new Y _ _ _ _ _)
      have z1 := Lib.hid (show W1.heap.size = Y.heap.size + 1 by rw [hW1]; simp)
      rw [← hW1]
      clear hW1
      refine hK _ _ y1 (fun _ => ?_)
      clear hK K
      go_simp
      refine wpAnyH_ready (rs := [5]) (by kernel_rfl) (by simp) ?_
      refine AllReadyH.cons rfl (fun K hK => ?_) AllReadyH.nil
      go_simp
      obtain ⟨W2, hW2⟩ : ∃ W2, W2 = W1.alloc (.cells #[.int .u8 kq, .string sq, .slice adq nq capq, .int .u8 k2, .string s2, .slice ad2 n2 cap2] 52) := ⟨_, rfl⟩
      have y2 : Below Y.heap.size Y W2 := by rw [hW2]; exact y1.alloc y1.size _
      have six : Six W2 W1.heap.size (.int .u8 kq) (.string sq) (.slice adq nq capq) (.int .u8 k2) (.string s2) (.slice ad2 n2 cap2) := by rw [hW2]; exact Six.new W1 _ _ _ _ _ _
      have vx2 : Var W2 Y.heap.size 0 ⟨#[]⟩ none 0 0 := by rw [hW2]; exact vx1.grown (World.grownBy_alloc _ _ none) (by simp)
      rw [← hW2]
      clear hW2
      refine hK _ _ y2 (fun _ => ?_)
      clear hK K
      go_simp
      refine wpAnyH_take (i := 6) (v := .agg #[.int .u8 59, .string ⟨#[]⟩, .slice (some ⟨W1.heap.size, 0, none⟩) 2 2]) rfl (by kernel_rfl) (by kernel_rfl) (by kernel_rfl) (fun _ _ _ h => h) (Or.inl ⟨by rfl, fun w hw => by go_simp⟩) y2 ?_
      go_simp
      refine wpAnyH_ready (rs := [8]) (by kernel_rfl) (by simp) ?_
      refine AllReadyH.cons rfl (fun K hK => ?_) AllReadyH.nil
      obtain ⟨r0, r1, r2, rf⟩ := vx2.cells
      go_simp
      have xge : Y.heap.size ≤ Y.heap.size := by have := z1.out; omega
      have y3 : Below Y.heap.size Y (set3 W2 (Y.heap.size) 59 ⟨#[]⟩ (some ⟨W1.heap.size, 0, none⟩) 2 2) := below_of (set3_grown (below_grown y2 (some (Y.heap.size))) xge _ _ _ _ _) xge
      refine hK _ (set3 W2 (Y.heap.size) 59 ⟨#[]⟩ (some ⟨W1.heap.size, 0, none⟩) 2 2) y3 (fun _ => ?_)
      clear hK K
      go_simp
      refine wpAnyH_done (by kernel_rfl) ?_ _
      have vx := set3_var vx2 59 ⟨#[]⟩ (some ⟨W1.heap.size, 0, none⟩) 2 2
      replace six : Six (set3 W2 (Y.heap.size) 59 ⟨#[]⟩ (some ⟨W1.heap.size, 0, none⟩) 2 2) (W1.heap.size) (.int .u8 kq) (.string sq) (.slice adq nq capq) (.int .u8 k2) (.string s2) (.slice ad2 n2 cap2) := (set3_block (by have := z1.out; omega) _ _ _ _ _).trans six
      obtain ⟨U, hU⟩ : ∃ U, U = set3 W2 (Y.heap.size) 59 ⟨#[]⟩ (some ⟨W1.heap.size, 0, none⟩) 2 2 := ⟨_, rfl⟩
      rw [← hU] at vx six y3 ⊢
      clear hU r0 r1 r2 rf vx2 y1 y2 vx1
      have bwU : Below w.heap.size w U := hbW.trans (y3.mono hbW.size)
      have vrU : Var U (g0 + 1) 0 ⟨#[]⟩ none 0 0 := v2R.grown (below_grown y3 none) (by simp)
      have vaU : Var U (V.heap.size + 1) 59 ⟨#[]⟩ (some ⟨g1, 0, none⟩) 2 cap1 := v2A.grown (below_grown y3 none) (by simp)
      replace e0 := (y3.cell (p := ⟨g1, 0, none⟩) hg1Y).trans e0
      replace e1 := (y3.cell (p := ⟨g1, 1, none⟩) hg1Y).trans e1
      replace e2 := (y3.cell (p := ⟨g1, 2, none⟩) hg1Y).trans e2
      have hg1U : g1 < U.heap.size := Nat.lt_of_lt_of_le hg1Y y3.size
      clear e3 e4 e5 hS13
      have nA : V.heap.size + 1 ≠ g0 + 1 := by omega
      have nX : Y.heap.size ≠ g0 + 1 := by have := v2R.lt'; omega
      have nG : g1 ≠ g0 + 1 := by have := HG.out; omega
      go_wp2_with fail
      refine wp_region_held (S := fun w' => Keeps (g0 + 1) U w') (by kernel_rfl) ?_
      have hS : Keeps (g0 + 1) U U.drew := Keeps.of_below ((Below.refl _ U).drew)
      refine wpAnyH_take (i := 0) (v := .pointer (some ⟨V.heap.size + 1, 2, none⟩)) rfl (by kernel_rfl) (by kernel_rfl) (by kernel_rfl) (fun _ _ _ h => h) (Or.inl ⟨by rfl, fun w hw => by go_simp⟩) hS ?_
      go_simp
      refine wpAnyH_take (i := 1) (v := .slice (some ⟨g1, 0, none⟩) 2 cap1) rfl (by kernel_rfl) (by kernel_rfl) (by kernel_rfl) (fun _ _ _ h => h) (Or.inl ⟨by rfl, fun w hw => by obtain ⟨l0, l1, l2, _⟩ := (hw.var vaU nA).cells; obtain ⟨m0, m1, m2, _⟩ := (hw.var vx nX).cells; have c0 := (hw.cell nG hg1U 0).trans e0; have c1 := (hw.cell nG hg1U 1).trans e1; have c2 := (hw.cell nG hg1U 2).trans e2; first | (go_simp; done) | rfl⟩) hS ?_
      go_simp
      refine wpAnyH_take (i := 2) (v := .pointer (some ⟨g1, 0, none⟩)) rfl (by kernel_rfl) (by kernel_rfl) (by kernel_rfl) (fun _ _ _ h => h) (Or.inl ⟨by rfl, fun w hw => by go_simp⟩) hS ?_
      go_simp
      refine wpAnyH_take (i := 3) (v := .agg #[.int .u8 kp, .string sp, .slice adp np capp]) rfl (by kernel_rfl) (by kernel_rfl) (by kernel_rfl) (fun _ _ _ h => h) (Or.inl ⟨by rfl, fun w hw => by obtain ⟨l0, l1, l2, _⟩ := (hw.var vaU nA).cells; obtain ⟨m0, m1, m2, _⟩ := (hw.var vx nX).cells; have c0 := (hw.cell nG hg1U 0).trans e0; have c1 := (hw.cell nG hg1U 1).trans e1; have c2 := (hw.cell nG hg1U 2).trans e2; first | (go_simp; done) | rfl⟩) hS ?_
      go_simp
      refine wpAnyH_take (i := 4) (v := .agg #[.int .u8 59, .string ⟨#[]⟩, .slice (some ⟨W1.heap.size, 0, none⟩) 2 2]) rfl (by kernel_rfl) (by kernel_rfl) (by kernel_rfl) (fun _ _ _ h => h) (Or.inl ⟨by rfl, fun w hw => by obtain ⟨l0, l1, l2, _⟩ := (hw.var vaU nA).cells; obtain ⟨m0, m1, m2, _⟩ := (hw.var vx nX).cells; have c0 := (hw.cell nG hg1U 0).trans e0; have c1 := (hw.cell nG hg1U 1).trans e1; have c2 := (hw.cell nG hg1U 2).trans e2; first | (go_simp; done) | rfl⟩) hS ?_
      go_simp
      refine wpAnyH_ready (rs := [5]) (by kernel_rfl) (by simp) ?_
      refine AllReadyH.cons rfl (fun K hK => ?_) AllReadyH.nil
      go_simp
      obtain ⟨U1, hU1⟩ : ∃ U1, U1 = (U.alloc (.cells #[.int .u8 kp, .string sp, .slice adp np capp, .int .u8 59, .string ⟨#[]⟩, .slice (some ⟨W1.heap.size, 0, none⟩) 2 2] 52)).drew := ⟨_, rfl⟩
      have b1 : Below U.heap.size U U1 := by rw [hU1]; exact ((Below.refl _ U).alloc (Nat.le_refl _) _).drew
      have six1 : Six U1 U.heap.size (.int .u8 kp) (.string sp) (.slice adp np capp) (.int .u8 59) (.string ⟨#[]⟩) (.slice (some ⟨W1.heap.size, 0, none⟩) 2 2) := by rw [hU1]; exact Six.new U _ _ _ _ _ _
      rw [← hU1]
      clear hU1
      refine hK _ _ (Keeps.of_below b1) (fun _ => ?_)
      clear hK K
      go_simp
      refine wpAnyH_take (i := 6) (v := .agg #[.int .u8 59, .string ⟨#[]⟩, .slice (some ⟨U.heap.size, 0, none⟩) 2 2]) rfl (by kernel_rfl) (by kernel_rfl) (by kernel_rfl) (fun _ _ _ h => h) (Or.inl ⟨by rfl, fun w hw => by go_simp⟩) (Keeps.of_below b1) ?_
      go_simp
      have vr1 : Var U1 (g0 + 1) 0 ⟨#[]⟩ none 0 0 := vrU.grown (below_grown b1 none) (by simp)
      have lr : g0 + 1 < U.heap.size := vrU.lt'
      have hb14 : Below w.heap.size w U1 := bwU.trans (b1.mono bwU.size)
      refine wpAnyH_ready (rs := [7]) (by kernel_rfl) (by simp) ?_
      refine AllReadyH.cons rfl (fun K hK => ?_) AllReadyH.nil
      obtain ⟨r0, r1, r2, rf⟩ := vr1.cells
      go_simp
      refine hK _ (set3 U1 (g0 + 1) 59 ⟨#[]⟩ (some ⟨U.heap.size, 0, none⟩) 2 2) ((Keeps.of_below b1).set3 _ _ _ _ _) (fun h14 => ?_)
      clear hK K
      go_simp
      refine wpAnyH_take (i := 8) (v := .bool true) rfl (by kernel_rfl) (by kernel_rfl) (by kernel_rfl) (fun _ _ _ h => h) (Or.inl ⟨by rfl, fun w hw => by go_simp⟩) h14 ?_
      go_simp
      refine wpAnyH_done (by kernel_rfl) ?_ _
      have gle : w.heap.size ≤ g0 + 1 := by rw [HG.out]; omega
      have bf : Below w.heap.size w (set3 U1 (g0 + 1) 59 ⟨#[]⟩ (some ⟨U.heap.size, 0, none⟩) 2 2) := below_of (set3_grown (below_grown hb14 (some (g0 + 1))) gle _ _ _ _ _) gle
      have vf := set3_var vr1 59 ⟨#[]⟩ (some ⟨U.heap.size, 0, none⟩) 2 2
      have n1f : Nd (set3 U1 (g0 + 1) 59 ⟨#[]⟩ (some ⟨U.heap.size, 0, none⟩) 2 2) (.pair 59 q b) 59 ⟨#[]⟩ (some ⟨W1.heap.size, 0, none⟩) 2 2 :=
        nd_pair ((set3_block (by have := v2R.lt'; have := z1.out; omega) _ _ _ _ _).trans (six.below b1 six.lt)) (NQ.out.below bf) (NB.out.below bf) 2
      have nf : Nd (set3 U1 (g0 + 1) 59 ⟨#[]⟩ (some ⟨U.heap.size, 0, none⟩) 2 2) (.pair 59 p (.pair 59 q b)) 59 ⟨#[]⟩ (some ⟨U.heap.size, 0, none⟩) 2 2 :=
        nd_pair ((set3_block (by omega) _ _ _ _ _).trans six1) (NP.out.below bf) n1f 2
      have HF := Lib.hid (And.intro vf (And.intro nf bf))
      clear vf nf bf n1f six six1 hb14
      go_wp2_with fail
      obtain ⟨vf, nf, bf⟩ := HF.out
      exact ret_topS vf rfl rfl rfl ⟨bf, _, _, _, _, _, rfl, fun nd h => by obtain rfl := Option.some.inj h; exact nf⟩
end Go.Proofs.YtgkgkaapjljpcaaDoor

