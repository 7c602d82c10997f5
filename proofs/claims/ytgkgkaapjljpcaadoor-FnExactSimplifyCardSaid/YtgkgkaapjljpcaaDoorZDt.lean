/- Chapter 11, the model: the rules on a sequence: a test twice (wip/tools/mkZD3.py). -/
import Derived.Test.YtgkgkaapjljpcaaDoorZDv
namespace Go.Proofs.YtgkgkaapjljpcaaDoor
open Go.ChangeShapes Go.WideShapes Go.ChangeAt Go.RowKit Go.Shelf
attribute [local go_sem] Oper.semAt_some
set_option maxRecDepth 100000

set_option maxHeartbeats 4000000 in
theorem seq_t (c : UInt8) (r : List UInt8) (b : Node) (hoa : (Node.atom (c :: r)).ok) (hob : b.ok) (s : ByteArray) (g cap : Nat) (w : World) (k1 : Int) (s1 : ByteArray) (ad1 : Option Addr) (n1 cap1 : Nat) (k2 : Int) (s2 : ByteArray) (ad2 : Option Addr) (n2 cap2 : Nat) (hD : Duo w g (.atom (c :: r)) b k1 s1 ad1 n1 cap1 k2 s2 ad2 n2 cap2) (hA1 : isA (.atom (c :: r)) 46 = false) (hA2 : isA b 46 = false) (hA3 : isA (.atom (c :: r)) 33 = false) (la : (Node.atom (c :: r)).text.length ≤ 1048576) (lb : b.text.length ≤ 1048576) (hc : ((c.toNat : Int) == 91) = true) (hbe : ((c :: r) == b.text) = true) :
    Calls Tryd.prog 65 #[.agg #[.int .u8 59, .string s, .slice (some ⟨g, 0, none⟩) 2 cap]] w (MFits (some (.atom (c :: r))) w) := by
  obtain ⟨hg, c0, c1, c2, c3, c4, c5, na, nb⟩ := hD
  obtain ⟨V, hV⟩ : ∃ V, V = (w.alloc (.cells #[.int .u8 59, .string s, .slice (some ⟨g, 0, none⟩) 2 cap] 52)).alloc (.cells #[.int .u8 0, .string ⟨#[]⟩, .slice none 0 0] 52) := ⟨_, rfl⟩
  have hA : Below w.heap.size w V := by rw [hV]; exact ((Below.refl _ w).alloc (Nat.le_refl _) _).alloc (by simp) _
  have v1 : Var V w.heap.size 59 s (some ⟨g, 0, none⟩) 2 cap := by rw [hV]; exact (Var.new w _ _ _ _ _).grown (World.grownBy_alloc _ _ none) (by simp)
  have v2 : Var V (w.heap.size + 1) 0 ⟨#[]⟩ none 0 0 := by
    rw [hV]
    have := Var.new (w.alloc (.cells #[.int .u8 59, .string s, .slice (some ⟨g, 0, none⟩) 2 cap] 52)) 0 ⟨#[]⟩ none 0 0
    rw [World.size_alloc] at this
    exact this
  obtain ⟨x0, x1, x2, _⟩ := v1.cells
  have d0 := (hA.cell (p := ⟨g, 0, none⟩) hg).trans c0
  have d1 := (hA.cell (p := ⟨g, 1, none⟩) hg).trans c1
  have d2 := (hA.cell (p := ⟨g, 2, none⟩) hg).trans c2
  have d3 := (hA.cell (p := ⟨g, 3, none⟩) hg).trans c3
  have d4 := (hA.cell (p := ⟨g, 4, none⟩) hg).trans c4
  have d5 := (hA.cell (p := ⟨g, 5, none⟩) hg).trans c5
  obtain ⟨g0, hg0⟩ : ∃ g0, g0 = w.heap.size := ⟨_, rfl⟩
  rw [← hg0] at x0 x1 x2 v1 v2
  have hg0V : g0 < V.heap.size := by rw [hV, hg0]; simp; omega
  have hgV : g < V.heap.size := by rw [hV]; simp; omega
  have hg1V : g0 + 1 < V.heap.size := by rw [hV, hg0]; simp
  have NA := Lib.hid na
  have NB := Lib.hid nb
  have H1 := fun w => mis (.atom (c :: r)) hoa 46 na w
  have H2 := fun w => mis b hob 46 nb w
  have H3 := fun w => mis (.atom (c :: r)) hoa 33 na w
  clear c0 c1 c2 c3 c4 c5 nb
  obtain ⟨rfl, rfl, rfl⟩ := na
  have fb := first_byteM c r
  have HT1 := fun W (h : Below w.heap.size w W) => text43 (.atom (c :: r)) W 0 W.heap.size 97 ⟨(c :: r).toArray⟩ ad1 0 cap1 (by exact ⟨rfl, rfl, rfl⟩) (Nat.le_refl _) hoa la
  have HT2 := fun W (h : Below w.heap.size w W) => text43 b W 0 W.heap.size k2 s2 ad2 n2 cap2 (NB.out.below h) (Nat.le_refl _) hob lb
  rw [show (Node.atom (c :: r)).text = c :: r from rfl] at HT1
  generalize b.text = u at HT2 hbe
  go_enter Tryd.func65, Tryd.ntmps65
  go_wp2_with fail
  rw [← hV, ← hg0]
  have HVV := Lib.hid hV
  have HA := Lib.hid hA
  have HG := Lib.hid hg0
  clear hV hA hg0
  go_region
  · obtain ⟨Z, hZ⟩ : ∃ Z, Z = ((V.alloc (.cells #[.int .u8 97, .string ⟨(c :: r).toArray⟩, .slice ad1 0 cap1] 52)).alloc (.cells #[.int .u8 k2, .string s2, .slice ad2 n2 cap2] 52)).drew := ⟨_, rfl⟩
    have va : Var Z V.heap.size 97 ⟨(c :: r).toArray⟩ ad1 0 cap1 := by rw [hZ]; exact var_drew ((Var.new V _ _ _ _ _).grown (World.grownBy_alloc _ _ none) (by simp))
    have vb : Var Z (V.heap.size + 1) k2 s2 ad2 n2 cap2 := by
      rw [hZ]
      have := Var.new (V.alloc (.cells #[.int .u8 97, .string ⟨(c :: r).toArray⟩, .slice ad1 0 cap1] 52)) k2 s2 ad2 n2 cap2
      rw [World.size_alloc] at this
      exact this
    have hbZ : Below V.heap.size V Z := by rw [hZ]; exact (((Below.refl _ V).alloc (Nat.le_refl _) _).alloc (by simp) _).drew
    have vr : Var Z (g0 + 1) 0 ⟨#[]⟩ none 0 0 := (hbZ.block (g0 + 1) hg1V).trans v2
    have vs : V.heap.size + 1 < Z.heap.size := by rw [hZ]; simp
    rw [← hZ]
    have HZ := Lib.hid hZ
    clear hZ
    obtain ⟨p0, p1, p2, _⟩ := va.cells
    obtain ⟨q0, q1, q2, _⟩ := vb.cells
    go_wp2_with fail
    go_at_call 96
    refine (H1 _).mono ?_
    rintro e Y1 ⟨rfl, b1⟩
    rw [hA1]
    replace va := va.grown (below_grown b1 none) (by simp)
    replace vb := vb.grown (below_grown b1 none) (by simp)
    replace vr := vr.grown (below_grown b1 none) (by simp)
    have hbZ := hbZ.trans (b1.mono hbZ.size)
    obtain ⟨p0, p1, p2, pf⟩ := va.cells
    obtain ⟨q0, q1, q2, qf⟩ := vb.cells
    obtain ⟨r0, r1, r2, rf⟩ := vr.cells
    go_wp2_with fail
    go_at_call 96
    refine (H2 _).mono ?_
    rintro e Y2 ⟨rfl, b2⟩
    rw [hA2]
    replace va := va.grown (below_grown b2 none) (by simp)
    replace vb := vb.grown (below_grown b2 none) (by simp)
    replace vr := vr.grown (below_grown b2 none) (by simp)
    have hbZ := hbZ.trans (b2.mono hbZ.size)
    obtain ⟨p0, p1, p2, pf⟩ := va.cells
    obtain ⟨q0, q1, q2, qf⟩ := vb.cells
    obtain ⟨r0, r1, r2, rf⟩ := vr.cells
    go_wp2_with fail
    go_at_call 96
    refine (H3 _).mono ?_
    rintro e Y3 ⟨rfl, b3⟩
    rw [hA3]
    replace va := va.grown (below_grown b3 none) (by simp)
    replace vb := vb.grown (below_grown b3 none) (by simp)
    replace vr := vr.grown (below_grown b3 none) (by simp)
    have hbZ := hbZ.trans (b3.mono hbZ.size)
    obtain ⟨p0, p1, p2, pf⟩ := va.cells
    obtain ⟨q0, q1, q2, qf⟩ := vb.cells
    obtain ⟨r0, r1, r2, rf⟩ := vr.cells
    go_wp2_with fail
    have hbT := HA.out.trans (hbZ.mono HA.out.size)
    have v0A : Var Y3 (V.heap.size) 97 ⟨(c :: r).toArray⟩ ad1 0 cap1 := va
    have v0B : Var Y3 (V.heap.size + 1) k2 s2 ad2 n2 cap2 := vb
    have v0R : Var Y3 (g0 + 1) 0 ⟨#[]⟩ none 0 0 := vr
    have v0W : Var Y3 g0 59 s (some ⟨g, 0, none⟩) 2 cap := (hbZ.block g0 hg0V).trans v1
    have ltA : V.heap.size < Y3.heap.size := v0A.lt'
    have ltB : V.heap.size + 1 < Y3.heap.size := v0B.lt'
    have ltR : g0 + 1 < Y3.heap.size := v0R.lt'
    have ltW : g0 < Y3.heap.size := v0W.lt'
    refine wp_region_held (S := fun w' => w'.cell? ⟨V.heap.size, 0, none⟩ = some (.int .u8 97) ∧ w'.cell? ⟨V.heap.size, 1, none⟩ = some (.string ⟨(c :: r).toArray⟩) ∧ w'.cell? ⟨V.heap.size, 2, none⟩ = some (.slice ad1 0 cap1) ∧ w'.cell? ⟨V.heap.size + 1, 0, none⟩ = some (.int .u8 k2) ∧ w'.cell? ⟨V.heap.size + 1, 1, none⟩ = some (.string s2) ∧ w'.cell? ⟨V.heap.size + 1, 2, none⟩ = some (.slice ad2 n2 cap2)) (by kernel_rfl) ?_
    have hS : Y3.drew.cell? ⟨V.heap.size, 0, none⟩ = some (.int .u8 97) ∧ Y3.drew.cell? ⟨V.heap.size, 1, none⟩ = some (.string ⟨(c :: r).toArray⟩) ∧ Y3.drew.cell? ⟨V.heap.size, 2, none⟩ = some (.slice ad1 0 cap1) ∧ Y3.drew.cell? ⟨V.heap.size + 1, 0, none⟩ = some (.int .u8 k2) ∧ Y3.drew.cell? ⟨V.heap.size + 1, 1, none⟩ = some (.string s2) ∧ Y3.drew.cell? ⟨V.heap.size + 1, 2, none⟩ = some (.slice ad2 n2 cap2) := ⟨p0, p1, p2, q0, q1, q2⟩
    refine wpAnyH_take (i := 0) (v := .pointer (some ⟨V.heap.size, 0, none⟩)) rfl (by kernel_rfl) (by kernel_rfl) (by kernel_rfl) (fun _ _ _ h => h) (Or.inl ⟨by rfl, fun w hw => by go_simp⟩) hS ?_
    go_simp
    refine wpAnyH_take (i := 1) (v := .int .u8 97) rfl (by kernel_rfl) (by kernel_rfl) (by kernel_rfl) (fun _ _ _ h => h) (Or.inl ⟨by rfl, fun w hw => by obtain ⟨l0, l1, l2, m0, m1, m2⟩ := hw; first | (go_simp; done) | rfl⟩) hS ?_
    go_simp
    refine wpAnyH_take (i := 2) (v := .bool true) rfl (by kernel_rfl) (by kernel_rfl) (by kernel_rfl) (fun _ _ _ h => h) (Or.inl ⟨by rfl, fun w hw => by go_simp⟩) hS ?_
    go_simp
    refine wpAnyH_take (i := 3) (v := .bool true) rfl (by kernel_rfl) (by kernel_rfl) (by kernel_rfl) (fun _ _ _ h => h) (Or.inl ⟨by rfl, fun w hw => by go_simp⟩) hS ?_
    go_simp
    refine wpAnyH_take (i := 4) (v := .pointer (some ⟨V.heap.size, 1, none⟩)) rfl (by kernel_rfl) (by kernel_rfl) (by kernel_rfl) (fun _ _ _ h => h) (Or.inl ⟨by rfl, fun w hw => by go_simp⟩) hS ?_
    go_simp
    refine wpAnyH_take (i := 5) (v := .string ⟨(c :: r).toArray⟩) rfl (by kernel_rfl) (by kernel_rfl) (by kernel_rfl) (fun _ _ _ h => h) (Or.inl ⟨by rfl, fun w hw => by obtain ⟨l0, l1, l2, m0, m1, m2⟩ := hw; first | (go_simp; done) | rfl⟩) hS ?_
    go_simp
    refine wpAnyH_take (i := 6) (v := .int .u8 (c.toNat : Int)) rfl (by kernel_rfl) (by kernel_rfl) (by kernel_rfl) (fun _ _ _ h => h) (Or.inl ⟨by rfl, fun w hw => by go_simp⟩) hS ?_
    go_simp
    refine wpAnyH_take (i := 7) (v := .bool true) rfl (by kernel_rfl) (by kernel_rfl) (by kernel_rfl) (fun _ _ _ h => h) (Or.inl ⟨by rfl, fun w hw => by go_simp⟩) hS ?_
    go_simp
    refine wpAnyH_take (i := 8) (v := .bool true) rfl (by kernel_rfl) (by kernel_rfl) (by kernel_rfl) (fun _ _ _ h => h) (Or.inl ⟨by rfl, fun w hw => by go_simp⟩) hS ?_
    go_simp
    refine wpAnyH_take (i := 9) (v := .bool true) rfl (by kernel_rfl) (by kernel_rfl) (by kernel_rfl) (fun _ _ _ h => h) (Or.inl ⟨by rfl, fun w hw => by go_simp⟩) hS ?_
    go_simp
    refine wpAnyH_take (i := 10) (v := .agg #[.int .u8 97, .string ⟨(c :: r).toArray⟩, .slice ad1 0 cap1]) rfl (by kernel_rfl) (by kernel_rfl) (by kernel_rfl) (fun _ _ _ h => h) (Or.inl ⟨by rfl, fun w hw => by obtain ⟨l0, l1, l2, m0, m1, m2⟩ := hw; first | (go_simp; done) | rfl⟩) hS ?_
    go_simp
    refine wpAnyH_take (i := 12) (v := .agg #[.int .u8 k2, .string s2, .slice ad2 n2 cap2]) rfl (by kernel_rfl) (by kernel_rfl) (by kernel_rfl) (fun _ _ _ h => h) (Or.inl ⟨by rfl, fun w hw => by obtain ⟨l0, l1, l2, m0, m1, m2⟩ := hw; first | (go_simp; done) | rfl⟩) hS ?_
    go_simp
    refine wpAnyH_ready (rs := [11]) (by kernel_rfl) (by simp) ?_
    refine AllReadyH.cons rfl (fun K hK => ?_) AllReadyH.nil
    go_simp
    go_wp2_with (go_at_call 47; refine (HT1 _ hbT.drew).mono ?_; rintro e X1 ⟨rfl, x1b⟩)
    refine hK _ _ (⟨(x1b.cell (p := ⟨V.heap.size, 0, none⟩) ltA).trans hS.1, (x1b.cell (p := ⟨V.heap.size, 1, none⟩) ltA).trans hS.2.1, (x1b.cell (p := ⟨V.heap.size, 2, none⟩) ltA).trans hS.2.2.1, (x1b.cell (p := ⟨V.heap.size + 1, 0, none⟩) ltB).trans hS.2.2.2.1, (x1b.cell (p := ⟨V.heap.size + 1, 1, none⟩) ltB).trans hS.2.2.2.2.1, (x1b.cell (p := ⟨V.heap.size + 1, 2, none⟩) ltB).trans hS.2.2.2.2.2⟩) (fun hS1 => ?_)
    clear hK K
    go_simp
    have hbT1 : Below w.heap.size w X1 := hbT.drew.trans (x1b.mono hbT.size)
    have v1A : Var X1 (V.heap.size) 97 ⟨(c :: r).toArray⟩ ad1 0 cap1 := (x1b.block (V.heap.size) ltA).trans v0A
    have v1B : Var X1 (V.heap.size + 1) k2 s2 ad2 n2 cap2 := (x1b.block (V.heap.size + 1) ltB).trans v0B
    have v1R : Var X1 (g0 + 1) 0 ⟨#[]⟩ none 0 0 := (x1b.block (g0 + 1) ltR).trans v0R
    have v1W : Var X1 g0 59 s (some ⟨g, 0, none⟩) 2 cap := (x1b.block g0 ltW).trans v0W
    have lt1A := Nat.lt_of_lt_of_le ltA x1b.size
    have lt1B := Nat.lt_of_lt_of_le ltB x1b.size
    have lt1R := Nat.lt_of_lt_of_le ltR x1b.size
    have lt1W := Nat.lt_of_lt_of_le ltW x1b.size
    refine wpAnyH_ready (rs := [13]) (by kernel_rfl) (by simp) ?_
    refine AllReadyH.cons rfl (fun K hK => ?_) AllReadyH.nil
    go_simp
    go_wp2_with (go_at_call 47; refine (HT2 _ hbT1).mono ?_; rintro e X2 ⟨rfl, x2b⟩)
    refine hK _ _ (⟨(x2b.cell (p := ⟨V.heap.size, 0, none⟩) lt1A).trans hS1.1, (x2b.cell (p := ⟨V.heap.size, 1, none⟩) lt1A).trans hS1.2.1, (x2b.cell (p := ⟨V.heap.size, 2, none⟩) lt1A).trans hS1.2.2.1, (x2b.cell (p := ⟨V.heap.size + 1, 0, none⟩) lt1B).trans hS1.2.2.2.1, (x2b.cell (p := ⟨V.heap.size + 1, 1, none⟩) lt1B).trans hS1.2.2.2.2.1, (x2b.cell (p := ⟨V.heap.size + 1, 2, none⟩) lt1B).trans hS1.2.2.2.2.2⟩) (fun hS2 => ?_)
    clear hK K
    go_simp
    have hbW : Below w.heap.size w X2 := hbT1.trans (x2b.mono hbT1.size)
    have v2A : Var X2 (V.heap.size) 97 ⟨(c :: r).toArray⟩ ad1 0 cap1 := (x2b.block (V.heap.size) lt1A).trans v1A
    have v2B : Var X2 (V.heap.size + 1) k2 s2 ad2 n2 cap2 := (x2b.block (V.heap.size + 1) lt1B).trans v1B
    have v2R : Var X2 (g0 + 1) 0 ⟨#[]⟩ none 0 0 := (x2b.block (g0 + 1) lt1R).trans v1R
    have v2W : Var X2 g0 59 s (some ⟨g, 0, none⟩) 2 cap := (x2b.block g0 lt1W).trans v1W
    refine wpAnyH_take (i := 14) (v := .bool true) rfl (by kernel_rfl) (by kernel_rfl) (by kernel_rfl) (fun _ _ _ h => h) (Or.inl ⟨by rfl, fun w hw => by go_simp⟩) hS2 ?_
    go_simp
    refine wpAnyH_take (i := 15) (v := .bool true) rfl (by kernel_rfl) (by kernel_rfl) (by kernel_rfl) (fun _ _ _ h => h) (Or.inl ⟨by rfl, fun w hw => by go_simp⟩) hS2 ?_
    go_simp
    refine wpAnyH_take (i := 16) (v := .bool true) rfl (by kernel_rfl) (by kernel_rfl) (by kernel_rfl) (fun _ _ _ h => h) (Or.inl ⟨by rfl, fun w hw => by go_simp⟩) hS2 ?_
    go_simp
    refine wpAnyH_done (by kernel_rfl) ?_ _
    obtain ⟨p0, p1, p2, pf⟩ := v2A.cells
    obtain ⟨q0, q1, q2, qf⟩ := v2B.cells
    obtain ⟨r0, r1, r2, rf⟩ := v2R.cells
    obtain ⟨w0, w1, w2, wf⟩ := v2W.cells
    go_wp2_with fail
    have hE : Below w.heap.size w (set3 X2 (g0 + 1) 97 ⟨(c :: r).toArray⟩ ad1 0 cap1) := by
      have h0 : Below w.heap.size w X2 := hbW
      have hle : w.heap.size ≤ g0 + 1 := by rw [HG.out]; omega
      exact below_of (set3_grown (below_grown h0 (some (g0 + 1))) hle _ _ _ _ _) hle
    refine ret_topS (set3_var (U := X2) v2R 97 ⟨(c :: r).toArray⟩ ad1 0 cap1) rfl rfl rfl ⟨hE, _, _, _, _, _, rfl, fun nd h => ?_⟩
    obtain rfl := Option.some.inj h
    exact NA.out.below hE
  · obtain ⟨Z, hZ⟩ : ∃ Z, Z = ((V.alloc (.cells #[.int .u8 k2, .string s2, .slice ad2 n2 cap2] 52)).alloc (.cells #[.int .u8 97, .string ⟨(c :: r).toArray⟩, .slice ad1 0 cap1] 52)).drew := ⟨_, rfl⟩
    have vb : Var Z V.heap.size k2 s2 ad2 n2 cap2 := by rw [hZ]; exact var_drew ((Var.new V _ _ _ _ _).grown (World.grownBy_alloc _ _ none) (by simp))
    have va : Var Z (V.heap.size + 1) 97 ⟨(c :: r).toArray⟩ ad1 0 cap1 := by
      rw [hZ]
      have := Var.new (V.alloc (.cells #[.int .u8 k2, .string s2, .slice ad2 n2 cap2] 52)) 97 ⟨(c :: r).toArray⟩ ad1 0 cap1
      rw [World.size_alloc] at this
      exact this
    have hbZ : Below V.heap.size V Z := by rw [hZ]; exact (((Below.refl _ V).alloc (Nat.le_refl _) _).alloc (by simp) _).drew
    have vr : Var Z (g0 + 1) 0 ⟨#[]⟩ none 0 0 := (hbZ.block (g0 + 1) hg1V).trans v2
    have vs : V.heap.size + 1 < Z.heap.size := by rw [hZ]; simp
    rw [← hZ]
    have HZ := Lib.hid hZ
    clear hZ
    obtain ⟨p0, p1, p2, _⟩ := va.cells
    obtain ⟨q0, q1, q2, _⟩ := vb.cells
    go_wp2_with fail
    go_at_call 96
    refine (H1 _).mono ?_
    rintro e Y1 ⟨rfl, b1⟩
    rw [hA1]
    replace va := va.grown (below_grown b1 none) (by simp)
    replace vb := vb.grown (below_grown b1 none) (by simp)
    replace vr := vr.grown (below_grown b1 none) (by simp)
    have hbZ := hbZ.trans (b1.mono hbZ.size)
    obtain ⟨p0, p1, p2, pf⟩ := va.cells
    obtain ⟨q0, q1, q2, qf⟩ := vb.cells
    obtain ⟨r0, r1, r2, rf⟩ := vr.cells
    go_wp2_with fail
    go_at_call 96
    refine (H2 _).mono ?_
    rintro e Y2 ⟨rfl, b2⟩
    rw [hA2]
    replace va := va.grown (below_grown b2 none) (by simp)
    replace vb := vb.grown (below_grown b2 none) (by simp)
    replace vr := vr.grown (below_grown b2 none) (by simp)
    have hbZ := hbZ.trans (b2.mono hbZ.size)
    obtain ⟨p0, p1, p2, pf⟩ := va.cells
    obtain ⟨q0, q1, q2, qf⟩ := vb.cells
    obtain ⟨r0, r1, r2, rf⟩ := vr.cells
    go_wp2_with fail
    go_at_call 96
    refine (H3 _).mono ?_
    rintro e Y3 ⟨rfl, b3⟩
    rw [hA3]
    replace va := va.grown (below_grown b3 none) (by simp)
    replace vb := vb.grown (below_grown b3 none) (by simp)
    replace vr := vr.grown (below_grown b3 none) (by simp)
    have hbZ := hbZ.trans (b3.mono hbZ.size)
    obtain ⟨p0, p1, p2, pf⟩ := va.cells
    obtain ⟨q0, q1, q2, qf⟩ := vb.cells
    obtain ⟨r0, r1, r2, rf⟩ := vr.cells
    go_wp2_with fail
    have hbT := HA.out.trans (hbZ.mono HA.out.size)
    have v0A : Var Y3 (V.heap.size + 1) 97 ⟨(c :: r).toArray⟩ ad1 0 cap1 := va
    have v0B : Var Y3 (V.heap.size) k2 s2 ad2 n2 cap2 := vb
    have v0R : Var Y3 (g0 + 1) 0 ⟨#[]⟩ none 0 0 := vr
    have v0W : Var Y3 g0 59 s (some ⟨g, 0, none⟩) 2 cap := (hbZ.block g0 hg0V).trans v1
    have ltA : V.heap.size + 1 < Y3.heap.size := v0A.lt'
    have ltB : V.heap.size < Y3.heap.size := v0B.lt'
    have ltR : g0 + 1 < Y3.heap.size := v0R.lt'
    have ltW : g0 < Y3.heap.size := v0W.lt'
    refine wp_region_held (S := fun w' => w'.cell? ⟨V.heap.size + 1, 0, none⟩ = some (.int .u8 97) ∧ w'.cell? ⟨V.heap.size + 1, 1, none⟩ = some (.string ⟨(c :: r).toArray⟩) ∧ w'.cell? ⟨V.heap.size + 1, 2, none⟩ = some (.slice ad1 0 cap1) ∧ w'.cell? ⟨V.heap.size, 0, none⟩ = some (.int .u8 k2) ∧ w'.cell? ⟨V.heap.size, 1, none⟩ = some (.string s2) ∧ w'.cell? ⟨V.heap.size, 2, none⟩ = some (.slice ad2 n2 cap2)) (by kernel_rfl) ?_
    have hS : Y3.drew.cell? ⟨V.heap.size + 1, 0, none⟩ = some (.int .u8 97) ∧ Y3.drew.cell? ⟨V.heap.size + 1, 1, none⟩ = some (.string ⟨(c :: r).toArray⟩) ∧ Y3.drew.cell? ⟨V.heap.size + 1, 2, none⟩ = some (.slice ad1 0 cap1) ∧ Y3.drew.cell? ⟨V.heap.size, 0, none⟩ = some (.int .u8 k2) ∧ Y3.drew.cell? ⟨V.heap.size, 1, none⟩ = some (.string s2) ∧ Y3.drew.cell? ⟨V.heap.size, 2, none⟩ = some (.slice ad2 n2 cap2) := ⟨p0, p1, p2, q0, q1, q2⟩
    refine wpAnyH_take (i := 0) (v := .pointer (some ⟨V.heap.size + 1, 0, none⟩)) rfl (by kernel_rfl) (by kernel_rfl) (by kernel_rfl) (fun _ _ _ h => h) (Or.inl ⟨by rfl, fun w hw => by go_simp⟩) hS ?_
    go_simp
    refine wpAnyH_take (i := 1) (v := .int .u8 97) rfl (by kernel_rfl) (by kernel_rfl) (by kernel_rfl) (fun _ _ _ h => h) (Or.inl ⟨by rfl, fun w hw => by obtain ⟨l0, l1, l2, m0, m1, m2⟩ := hw; first | (go_simp; done) | rfl⟩) hS ?_
    go_simp
    refine wpAnyH_take (i := 2) (v := .bool true) rfl (by kernel_rfl) (by kernel_rfl) (by kernel_rfl) (fun _ _ _ h => h) (Or.inl ⟨by rfl, fun w hw => by go_simp⟩) hS ?_
    go_simp
    refine wpAnyH_take (i := 3) (v := .bool true) rfl (by kernel_rfl) (by kernel_rfl) (by kernel_rfl) (fun _ _ _ h => h) (Or.inl ⟨by rfl, fun w hw => by go_simp⟩) hS ?_
    go_simp
    refine wpAnyH_take (i := 4) (v := .pointer (some ⟨V.heap.size + 1, 1, none⟩)) rfl (by kernel_rfl) (by kernel_rfl) (by kernel_rfl) (fun _ _ _ h => h) (Or.inl ⟨by rfl, fun w hw => by go_simp⟩) hS ?_
    go_simp
    refine wpAnyH_take (i := 5) (v := .string ⟨(c :: r).toArray⟩) rfl (by kernel_rfl) (by kernel_rfl) (by kernel_rfl) (fun _ _ _ h => h) (Or.inl ⟨by rfl, fun w hw => by obtain ⟨l0, l1, l2, m0, m1, m2⟩ := hw; first | (go_simp; done) | rfl⟩) hS ?_
    go_simp
    refine wpAnyH_take (i := 6) (v := .int .u8 (c.toNat : Int)) rfl (by kernel_rfl) (by kernel_rfl) (by kernel_rfl) (fun _ _ _ h => h) (Or.inl ⟨by rfl, fun w hw => by go_simp⟩) hS ?_
    go_simp
    refine wpAnyH_take (i := 7) (v := .bool true) rfl (by kernel_rfl) (by kernel_rfl) (by kernel_rfl) (fun _ _ _ h => h) (Or.inl ⟨by rfl, fun w hw => by go_simp⟩) hS ?_
    go_simp
    refine wpAnyH_take (i := 8) (v := .bool true) rfl (by kernel_rfl) (by kernel_rfl) (by kernel_rfl) (fun _ _ _ h => h) (Or.inl ⟨by rfl, fun w hw => by go_simp⟩) hS ?_
    go_simp
    refine wpAnyH_take (i := 9) (v := .bool true) rfl (by kernel_rfl) (by kernel_rfl) (by kernel_rfl) (fun _ _ _ h => h) (Or.inl ⟨by rfl, fun w hw => by go_simp⟩) hS ?_
    go_simp
    refine wpAnyH_take (i := 10) (v := .agg #[.int .u8 97, .string ⟨(c :: r).toArray⟩, .slice ad1 0 cap1]) rfl (by kernel_rfl) (by kernel_rfl) (by kernel_rfl) (fun _ _ _ h => h) (Or.inl ⟨by rfl, fun w hw => by obtain ⟨l0, l1, l2, m0, m1, m2⟩ := hw; first | (go_simp; done) | rfl⟩) hS ?_
    go_simp
    refine wpAnyH_take (i := 12) (v := .agg #[.int .u8 k2, .string s2, .slice ad2 n2 cap2]) rfl (by kernel_rfl) (by kernel_rfl) (by kernel_rfl) (fun _ _ _ h => h) (Or.inl ⟨by rfl, fun w hw => by obtain ⟨l0, l1, l2, m0, m1, m2⟩ := hw; first | (go_simp; done) | rfl⟩) hS ?_
    go_simp
    refine wpAnyH_ready (rs := [11]) (by kernel_rfl) (by simp) ?_
    refine AllReadyH.cons rfl (fun K hK => ?_) AllReadyH.nil
    go_simp
    go_wp2_with (go_at_call 47; refine (HT1 _ hbT.drew).mono ?_; rintro e X1 ⟨rfl, x1b⟩)
    refine hK _ _ (⟨(x1b.cell (p := ⟨V.heap.size + 1, 0, none⟩) ltA).trans hS.1, (x1b.cell (p := ⟨V.heap.size + 1, 1, none⟩) ltA).trans hS.2.1, (x1b.cell (p := ⟨V.heap.size + 1, 2, none⟩) ltA).trans hS.2.2.1, (x1b.cell (p := ⟨V.heap.size, 0, none⟩) ltB).trans hS.2.2.2.1, (x1b.cell (p := ⟨V.heap.size, 1, none⟩) ltB).trans hS.2.2.2.2.1, (x1b.cell (p := ⟨V.heap.size, 2, none⟩) ltB).trans hS.2.2.2.2.2⟩) (fun hS1 => ?_)
    clear hK K
    go_simp
    have hbT1 : Below w.heap.size w X1 := hbT.drew.trans (x1b.mono hbT.size)
    have v1A : Var X1 (V.heap.size + 1) 97 ⟨(c :: r).toArray⟩ ad1 0 cap1 := (x1b.block (V.heap.size + 1) ltA).trans v0A
    have v1B : Var X1 (V.heap.size) k2 s2 ad2 n2 cap2 := (x1b.block (V.heap.size) ltB).trans v0B
    have v1R : Var X1 (g0 + 1) 0 ⟨#[]⟩ none 0 0 := (x1b.block (g0 + 1) ltR).trans v0R
    have v1W : Var X1 g0 59 s (some ⟨g, 0, none⟩) 2 cap := (x1b.block g0 ltW).trans v0W
    have lt1A := Nat.lt_of_lt_of_le ltA x1b.size
    have lt1B := Nat.lt_of_lt_of_le ltB x1b.size
    have lt1R := Nat.lt_of_lt_of_le ltR x1b.size
    have lt1W := Nat.lt_of_lt_of_le ltW x1b.size
    refine wpAnyH_ready (rs := [13]) (by kernel_rfl) (by simp) ?_
    refine AllReadyH.cons rfl (fun K hK => ?_) AllReadyH.nil
    go_simp
    go_wp2_with (go_at_call 47; refine (HT2 _ hbT1).mono ?_; rintro e X2 ⟨rfl, x2b⟩)
    refine hK _ _ (⟨(x2b.cell (p := ⟨V.heap.size + 1, 0, none⟩) lt1A).trans hS1.1, (x2b.cell (p := ⟨V.heap.size + 1, 1, none⟩) lt1A).trans hS1.2.1, (x2b.cell (p := ⟨V.heap.size + 1, 2, none⟩) lt1A).trans hS1.2.2.1, (x2b.cell (p := ⟨V.heap.size, 0, none⟩) lt1B).trans hS1.2.2.2.1, (x2b.cell (p := ⟨V.heap.size, 1, none⟩) lt1B).trans hS1.2.2.2.2.1, (x2b.cell (p := ⟨V.heap.size, 2, none⟩) lt1B).trans hS1.2.2.2.2.2⟩) (fun hS2 => ?_)
    clear hK K
    go_simp
    have hbW : Below w.heap.size w X2 := hbT1.trans (x2b.mono hbT1.size)
    have v2A : Var X2 (V.heap.size + 1) 97 ⟨(c :: r).toArray⟩ ad1 0 cap1 := (x2b.block (V.heap.size + 1) lt1A).trans v1A
    have v2B : Var X2 (V.heap.size) k2 s2 ad2 n2 cap2 := (x2b.block (V.heap.size) lt1B).trans v1B
    have v2R : Var X2 (g0 + 1) 0 ⟨#[]⟩ none 0 0 := (x2b.block (g0 + 1) lt1R).trans v1R
    have v2W : Var X2 g0 59 s (some ⟨g, 0, none⟩) 2 cap := (x2b.block g0 lt1W).trans v1W
    refine wpAnyH_take (i := 14) (v := .bool true) rfl (by kernel_rfl) (by kernel_rfl) (by kernel_rfl) (fun _ _ _ h => h) (Or.inl ⟨by rfl, fun w hw => by go_simp⟩) hS2 ?_
    go_simp
    refine wpAnyH_take (i := 15) (v := .bool true) rfl (by kernel_rfl) (by kernel_rfl) (by kernel_rfl) (fun _ _ _ h => h) (Or.inl ⟨by rfl, fun w hw => by go_simp⟩) hS2 ?_
    go_simp
    refine wpAnyH_take (i := 16) (v := .bool true) rfl (by kernel_rfl) (by kernel_rfl) (by kernel_rfl) (fun _ _ _ h => h) (Or.inl ⟨by rfl, fun w hw => by go_simp⟩) hS2 ?_
    go_simp
    refine wpAnyH_done (by kernel_rfl) ?_ _
    obtain ⟨p0, p1, p2, pf⟩ := v2A.cells
    obtain ⟨q0, q1, q2, qf⟩ := v2B.cells
    obtain ⟨r0, r1, r2, rf⟩ := v2R.cells
    obtain ⟨w0, w1, w2, wf⟩ := v2W.cells
    go_wp2_with fail
    have hE : Below w.heap.size w (set3 X2 (g0 + 1) 97 ⟨(c :: r).toArray⟩ ad1 0 cap1) := by
      have h0 : Below w.heap.size w X2 := hbW
      have hle : w.heap.size ≤ g0 + 1 := by rw [HG.out]; omega
      exact below_of (set3_grown (below_grown h0 (some (g0 + 1))) hle _ _ _ _ _) hle
    refine ret_topS (set3_var (U := X2) v2R 97 ⟨(c :: r).toArray⟩ ad1 0 cap1) rfl rfl rfl ⟨hE, _, _, _, _, _, rfl, fun nd h => ?_⟩
    obtain rfl := Option.some.inj h
    exact NA.out.below hE
end Go.Proofs.YtgkgkaapjljpcaaDoor

