/- Chapter 11, the model: the rules on a sequence (wip/tools/mkZD.py). -/
import Derived.Test.YtgkgkaapjljpcaaDoorZD
namespace Go.Proofs.YtgkgkaapjljpcaaDoor
open Go.ChangeShapes Go.WideShapes Go.ChangeAt Go.RowKit Go.Shelf
attribute [local go_sem] Oper.semAt_some
set_option maxRecDepth 100000

/-- The result's place: a program and whether a rule fits. -/
theorem ret_topS {Z : World} {a : Act} {k : Int} {s : ByteArray} {ad : Option Addr} {m cap g : Nat} {b : Bool} {R : Ending → World → Prop} (hv : Var Z g k s ad m cap) (ha : a.tmps[2]?.getD undef = .pointer (some ⟨g, 0, none⟩)) (hb : a.tmps[3]?.getD undef = .bool b) (hdf : a.defers = [])
    (h : R (.returned (.tuple #[.agg #[.int .u8 k, .string s, .slice ad m cap], .bool b])) Z) : bodyPost Tryd.prog Tryd.f65 R Exit.ret a Z := by
  obtain ⟨c0, c1, c2, _⟩ := hv.cells
  refine bodyPost_ret (v := .tuple #[.agg #[.int .u8 k, .string s, .slice ad m cap], .bool b]) ?_ hdf h
  simp [results, Tryd.results65, go_sem, ha, hb, c0, c1, c2]
/-- A program in memory, wherever it lies. -/
def Nd (W : World) (nd : Node) (k : Int) (s : ByteArray) (ad : Option Addr) (n cap : Nat) : Prop := NodeIs W 0 W.heap.size nd k s ad n cap
theorem Nd.below {W W' : World} {nd : Node} {k : Int} {s : ByteArray} {ad : Option Addr} {n cap : Nat} (h : Nd W nd k s ad n cap) (hb : Below W.heap.size W W') : Nd W' nd k s ad n cap :=
  NodeIs.wide (Nat.le_refl _) hb.size (NodeIs.below h hb (Nat.le_refl _))
/-- What a rule answers. -/
def MFits (r : Option Node) (W : World) (e : Ending) (W' : World) : Prop := Below W.heap.size W W' ∧ ∃ k s ad n cap, e = .returned (.tuple #[.agg #[.int .u8 k, .string s, .slice ad n cap], .bool r.isSome]) ∧ ∀ nd, r = some nd → Nd W' nd k s ad n cap
/-- Two programs side by side in a block. -/
structure Duo (w : World) (g : Nat) (a b : Node) (k1 : Int) (s1 : ByteArray) (ad1 : Option Addr) (n1 cap1 : Nat) (k2 : Int) (s2 : ByteArray) (ad2 : Option Addr) (n2 cap2 : Nat) : Prop where
  lt : g < w.heap.size
  c0 : w.cell? ⟨g, 0, none⟩ = some (.int .u8 k1)
  c1 : w.cell? ⟨g, 1, none⟩ = some (.string s1)
  c2 : w.cell? ⟨g, 2, none⟩ = some (.slice ad1 n1 cap1)
  c3 : w.cell? ⟨g, 3, none⟩ = some (.int .u8 k2)
  c4 : w.cell? ⟨g, 4, none⟩ = some (.string s2)
  c5 : w.cell? ⟨g, 5, none⟩ = some (.slice ad2 n2 cap2)
  na : Nd w a k1 s1 ad1 n1 cap1
  nb : Nd w b k2 s2 ad2 n2 cap2

set_option maxHeartbeats 4000000 in
theorem seq_a (a b : Node) (hoa : a.ok) (hob : b.ok) (s : ByteArray) (g cap : Nat) (w : World) (k1 : Int) (s1 : ByteArray) (ad1 : Option Addr) (n1 cap1 : Nat) (k2 : Int) (s2 : ByteArray) (ad2 : Option Addr) (n2 cap2 : Nat) (hD : Duo w g a b k1 s1 ad1 n1 cap1 k2 s2 ad2 n2 cap2) (hA1 : isA a 46 = true) :
    Calls Tryd.prog 65 #[.agg #[.int .u8 59, .string s, .slice (some ⟨g, 0, none⟩) 2 cap]] w (MFits (some b) w) := by
  obtain ⟨hg, c0, c1, c2, c3, c4, c5, na, nb⟩ := hD
  obtain ⟨V, hV⟩ : ∃ V, V = (w.alloc (.cells #[.int .u8 59, .string s, .slice (some ⟨g, 0, none⟩) 2 cap] 52)).alloc (.cells #[.int .u8 0, .string ⟨#[]⟩, .slice none 0 0] 52) := ⟨_, rfl⟩
  have hA : Below w.heap.size w V := by rw [hV]; exact ((Below.refl _ w).alloc (Nat.le_refl _) _).alloc (by simp) _
  have v1 : Var V w.heap.size 59 s (some ⟨g, 0, none⟩) 2 cap := by rw [hV]; exact (Var.new w _ _ _ _ _).grown (World.grownBy_alloc _ _ none) (by simp)
  have v2 : Var V (w.heap.size + 1) 0 ⟨#[]⟩ none 0 0 := by
    rw [hV]
    have := Var.new (w.alloc (.cells #[.int .u8 59, .string s, .slice (some ⟨g, 0, none⟩) 2 cap] 52)) 0 ⟨#[]⟩ none 0 0
    rw [World.size_alloc] at this
    exact this
  obtain ⟨x0, x1, x2, _⟩ := v1.cells
  have d0 := (hA.cell (p := ⟨g, 0, none⟩) hg).trans c0
  have d1 := (hA.cell (p := ⟨g, 1, none⟩) hg).trans c1
  have d2 := (hA.cell (p := ⟨g, 2, none⟩) hg).trans c2
  have d3 := (hA.cell (p := ⟨g, 3, none⟩) hg).trans c3
  have d4 := (hA.cell (p := ⟨g, 4, none⟩) hg).trans c4
  have d5 := (hA.cell (p := ⟨g, 5, none⟩) hg).trans c5
  obtain ⟨g0, hg0⟩ : ∃ g0, g0 = w.heap.size := ⟨_, rfl⟩
  rw [← hg0] at x0 x1 x2 v1 v2
  have hg0V : g0 < V.heap.size := by rw [hV, hg0]; simp; omega
  have hgV : g < V.heap.size := by rw [hV]; simp; omega
  have hg1V : g0 + 1 < V.heap.size := by rw [hV, hg0]; simp
  have NA := Lib.hid na
  have NB := Lib.hid nb
  have H1 := fun w => mis a hoa 46 na w
  have H2 := fun w => mis b hob 46 nb w
  have H3 := fun w => mis a hoa 33 na w
  clear c0 c1 c2 c3 c4 c5 na nb
  go_enter Tryd.func65, Tryd.ntmps65
  go_wp2_with fail
  rw [← hV, ← hg0]
  have HVV := Lib.hid hV
  have HA := Lib.hid hA
  have HG := Lib.hid hg0
  clear hV hA hg0
  go_region
  · obtain ⟨Z, hZ⟩ : ∃ Z, Z = ((V.alloc (.cells #[.int .u8 k1, .string s1, .slice ad1 n1 cap1] 52)).alloc (.cells #[.int .u8 k2, .string s2, .slice ad2 n2 cap2] 52)).drew := ⟨_, rfl⟩
    have va : Var Z V.heap.size k1 s1 ad1 n1 cap1 := by rw [hZ]; exact var_drew ((Var.new V _ _ _ _ _).grown (World.grownBy_alloc _ _ none) (by simp))
    have vb : Var Z (V.heap.size + 1) k2 s2 ad2 n2 cap2 := by
      rw [hZ]
      have := Var.new (V.alloc (.cells #[.int .u8 k1, .string s1, .slice ad1 n1 cap1] 52)) k2 s2 ad2 n2 cap2
      rw [World.size_alloc] at this
      exact this
    have hbZ : Below V.heap.size V Z := by rw [hZ]; exact (((Below.refl _ V).alloc (Nat.le_refl _) _).alloc (by simp) _).drew
    have vr : Var Z (g0 + 1) 0 ⟨#[]⟩ none 0 0 := (hbZ.block (g0 + 1) hg1V).trans v2
    have vs : V.heap.size + 1 < Z.heap.size := by rw [hZ]; simp
    rw [← hZ]
    have HZ := Lib.hid hZ
    clear hZ
    obtain ⟨p0, p1, p2, _⟩ := va.cells
    obtain ⟨q0, q1, q2, _⟩ := vb.cells
    go_wp2_with fail
    go_at_call 96
    refine (H1 _).mono ?_
    rintro e Y1 ⟨rfl, b1⟩
    rw [hA1]
    replace va := va.grown (below_grown b1 none) (by simp)
    replace vb := vb.grown (below_grown b1 none) (by simp)
    replace vr := vr.grown (below_grown b1 none) (by simp)
    have hbZ := hbZ.trans (b1.mono hbZ.size)
    obtain ⟨p0, p1, p2, pf⟩ := va.cells
    obtain ⟨q0, q1, q2, qf⟩ := vb.cells
    obtain ⟨r0, r1, r2, rf⟩ := vr.cells
    go_wp2_with fail
    have hE : Below w.heap.size w (set3 Y1 (g0 + 1) k2 s2 ad2 n2 cap2) := by
      have h0 := HA.out.trans (hbZ.mono HA.out.size)
      have hle : w.heap.size ≤ g0 + 1 := by rw [HG.out]; omega
      exact below_of (set3_grown (below_grown h0 (some (g0 + 1))) hle _ _ _ _ _) hle
    refine ret_topS (set3_var vr k2 s2 ad2 n2 cap2) rfl rfl rfl ⟨hE, _, _, _, _, _, rfl, fun nd h => ?_⟩
    obtain rfl := Option.some.inj h
    exact NB.out.below hE
  · obtain ⟨Z, hZ⟩ : ∃ Z, Z = ((V.alloc (.cells #[.int .u8 k2, .string s2, .slice ad2 n2 cap2] 52)).alloc (.cells #[.int .u8 k1, .string s1, .slice ad1 n1 cap1] 52)).drew := ⟨_, rfl⟩
    have vb : Var Z V.heap.size k2 s2 ad2 n2 cap2 := by rw [hZ]; exact var_drew ((Var.new V _ _ _ _ _).grown (World.grownBy_alloc _ _ none) (by simp))
    have va : Var Z (V.heap.size + 1) k1 s1 ad1 n1 cap1 := by
      rw [hZ]
      have := Var.new (V.alloc (.cells #[.int .u8 k2, .string s2, .slice ad2 n2 cap2] 52)) k1 s1 ad1 n1 cap1
      rw [World.size_alloc] at this
      exact this
    have hbZ : Below V.heap.size V Z := by rw [hZ]; exact (((Below.refl _ V).alloc (Nat.le_refl _) _).alloc (by simp) _).drew
    have vr : Var Z (g0 + 1) 0 ⟨#[]⟩ none 0 0 := (hbZ.block (g0 + 1) hg1V).trans v2
    have vs : V.heap.size + 1 < Z.heap.size := by rw [hZ]; simp
    rw [← hZ]
    have HZ := Lib.hid hZ
    clear hZ
    obtain ⟨p0, p1, p2, _⟩ := va.cells
    obtain ⟨q0, q1, q2, _⟩ := vb.cells
    go_wp2_with fail
    go_at_call 96
    refine (H1 _).mono ?_
    rintro e Y1 ⟨rfl, b1⟩
    rw [hA1]
    replace va := va.grown (below_grown b1 none) (by simp)
    replace vb := vb.grown (below_grown b1 none) (by simp)
    replace vr := vr.grown (below_grown b1 none) (by simp)
    have hbZ := hbZ.trans (b1.mono hbZ.size)
    obtain ⟨p0, p1, p2, pf⟩ := va.cells
    obtain ⟨q0, q1, q2, qf⟩ := vb.cells
    obtain ⟨r0, r1, r2, rf⟩ := vr.cells
    go_wp2_with fail
    have hE : Below w.heap.size w (set3 Y1 (g0 + 1) k2 s2 ad2 n2 cap2) := by
      have h0 := HA.out.trans (hbZ.mono HA.out.size)
      have hle : w.heap.size ≤ g0 + 1 := by rw [HG.out]; omega
      exact below_of (set3_grown (below_grown h0 (some (g0 + 1))) hle _ _ _ _ _) hle
    refine ret_topS (set3_var vr k2 s2 ad2 n2 cap2) rfl rfl rfl ⟨hE, _, _, _, _, _, rfl, fun nd h => ?_⟩
    obtain rfl := Option.some.inj h
    exact NB.out.below hE

set_option maxHeartbeats 4000000 in
theorem seq_b (a b : Node) (hoa : a.ok) (hob : b.ok) (s : ByteArray) (g cap : Nat) (w : World) (k1 : Int) (s1 : ByteArray) (ad1 : Option Addr) (n1 cap1 : Nat) (k2 : Int) (s2 : ByteArray) (ad2 : Option Addr) (n2 cap2 : Nat) (hD : Duo w g a b k1 s1 ad1 n1 cap1 k2 s2 ad2 n2 cap2) (hA1 : isA a 46 = false) (hA2 : isA b 46 = true) :
    Calls Tryd.prog 65 #[.agg #[.int .u8 59, .string s, .slice (some ⟨g, 0, none⟩) 2 cap]] w (MFits (some a) w) := by
  obtain ⟨hg, c0, c1, c2, c3, c4, c5, na, nb⟩ := hD
  obtain ⟨V, hV⟩ : ∃ V, V = (w.alloc (.cells #[.int .u8 59, .string s, .slice (some ⟨g, 0, none⟩) 2 cap] 52)).alloc (.cells #[.int .u8 0, .string ⟨#[]⟩, .slice none 0 0] 52) := ⟨_, rfl⟩
  have hA : Below w.heap.size w V := by rw [hV]; exact ((Below.refl _ w).alloc (Nat.le_refl _) _).alloc (by simp) _
  have v1 : Var V w.heap.size 59 s (some ⟨g, 0, none⟩) 2 cap := by rw [hV]; exact (Var.new w _ _ _ _ _).grown (World.grownBy_alloc _ _ none) (by simp)
  have v2 : Var V (w.heap.size + 1) 0 ⟨#[]⟩ none 0 0 := by
    rw [hV]
    have := Var.new (w.alloc (.cells #[.int .u8 59, .string s, .slice (some ⟨g, 0, none⟩) 2 cap] 52)) 0 ⟨#[]⟩ none 0 0
    rw [World.size_alloc] at this
    exact this
  obtain ⟨x0, x1, x2, _⟩ := v1.cells
  have d0 := (hA.cell (p := ⟨g, 0, none⟩) hg).trans c0
  have d1 := (hA.cell (p := ⟨g, 1, none⟩) hg).trans c1
  have d2 := (hA.cell (p := ⟨g, 2, none⟩) hg).trans c2
  have d3 := (hA.cell (p := ⟨g, 3, none⟩) hg).trans c3
  have d4 := (hA.cell (p := ⟨g, 4, none⟩) hg).trans c4
  have d5 := (hA.cell (p := ⟨g, 5, none⟩) hg).trans c5
  obtain ⟨g0, hg0⟩ : ∃ g0, g0 = w.heap.size := ⟨_, rfl⟩
  rw [← hg0] at x0 x1 x2 v1 v2
  have hg0V : g0 < V.heap.size := by rw [hV, hg0]; simp; omega
  have hgV : g < V.heap.size := by rw [hV]; simp; omega
  have hg1V : g0 + 1 < V.heap.size := by rw [hV, hg0]; simp
  have NA := Lib.hid na
  have NB := Lib.hid nb
  have H1 := fun w => mis a hoa 46 na w
  have H2 := fun w => mis b hob 46 nb w
  have H3 := fun w => mis a hoa 33 na w
  clear c0 c1 c2 c3 c4 c5 na nb
  go_enter Tryd.func65, Tryd.ntmps65
  go_wp2_with fail
  rw [← hV, ← hg0]
  have HVV := Lib.hid hV
  have HA := Lib.hid hA
  have HG := Lib.hid hg0
  clear hV hA hg0
  go_region
  · obtain ⟨Z, hZ⟩ : ∃ Z, Z = ((V.alloc (.cells #[.int .u8 k1, .string s1, .slice ad1 n1 cap1] 52)).alloc (.cells #[.int .u8 k2, .string s2, .slice ad2 n2 cap2] 52)).drew := ⟨_, rfl⟩
    have va : Var Z V.heap.size k1 s1 ad1 n1 cap1 := by rw [hZ]; exact var_drew ((Var.new V _ _ _ _ _).grown (World.grownBy_alloc _ _ none) (by simp))
    have vb : Var Z (V.heap.size + 1) k2 s2 ad2 n2 cap2 := by
      rw [hZ]
      have := Var.new (V.alloc (.cells #[.int .u8 k1, .string s1, .slice ad1 n1 cap1] 52)) k2 s2 ad2 n2 cap2
      rw [World.size_alloc] at this
      exact this
    have hbZ : Below V.heap.size V Z := by rw [hZ]; exact (((Below.refl _ V).alloc (Nat.le_refl _) _).alloc (by simp) _).drew
    have vr : Var Z (g0 + 1) 0 ⟨#[]⟩ none 0 0 := (hbZ.block (g0 + 1) hg1V).trans v2
    have vs : V.heap.size + 1 < Z.heap.size := by rw [hZ]; simp
    rw [← hZ]
    have HZ := Lib.hid hZ
    clear hZ
    obtain ⟨p0, p1, p2, _⟩ := va.cells
    obtain ⟨q0, q1, q2, _⟩ := vb.cells
    go_wp2_with fail
    go_at_call 96
    refine (H1 _).mono ?_
    rintro e Y1 ⟨rfl, b1⟩
    rw [hA1]
    replace va := va.grown (below_grown b1 none) (by simp)
    replace vb := vb.grown (below_grown b1 none) (by simp)
    replace vr := vr.grown (below_grown b1 none) (by simp)
    have hbZ := hbZ.trans (b1.mono hbZ.size)
    obtain ⟨p0, p1, p2, pf⟩ := va.cells
    obtain ⟨q0, q1, q2, qf⟩ := vb.cells
    obtain ⟨r0, r1, r2, rf⟩ := vr.cells
    go_wp2_with fail
    go_at_call 96
    refine (H2 _).mono ?_
    rintro e Y2 ⟨rfl, b2⟩
    rw [hA2]
    replace va := va.grown (below_grown b2 none) (by simp)
    replace vb := vb.grown (below_grown b2 none) (by simp)
    replace vr := vr.grown (below_grown b2 none) (by simp)
    have hbZ := hbZ.trans (b2.mono hbZ.size)
    obtain ⟨p0, p1, p2, pf⟩ := va.cells
    obtain ⟨q0, q1, q2, qf⟩ := vb.cells
    obtain ⟨r0, r1, r2, rf⟩ := vr.cells
    go_wp2_with fail
    have hE : Below w.heap.size w (set3 Y2 (g0 + 1) k1 s1 ad1 n1 cap1) := by
      have h0 := HA.out.trans (hbZ.mono HA.out.size)
      have hle : w.heap.size ≤ g0 + 1 := by rw [HG.out]; omega
      exact below_of (set3_grown (below_grown h0 (some (g0 + 1))) hle _ _ _ _ _) hle
    refine ret_topS (set3_var vr k1 s1 ad1 n1 cap1) rfl rfl rfl ⟨hE, _, _, _, _, _, rfl, fun nd h => ?_⟩
    obtain rfl := Option.some.inj h
    exact NA.out.below hE
  · obtain ⟨Z, hZ⟩ : ∃ Z, Z = ((V.alloc (.cells #[.int .u8 k2, .string s2, .slice ad2 n2 cap2] 52)).alloc (.cells #[.int .u8 k1, .string s1, .slice ad1 n1 cap1] 52)).drew := ⟨_, rfl⟩
    have vb : Var Z V.heap.size k2 s2 ad2 n2 cap2 := by rw [hZ]; exact var_drew ((Var.new V _ _ _ _ _).grown (World.grownBy_alloc _ _ none) (by simp))
    have va : Var Z (V.heap.size + 1) k1 s1 ad1 n1 cap1 := by
      rw [hZ]
      have := Var.new (V.alloc (.cells #[.int .u8 k2, .string s2, .slice ad2 n2 cap2] 52)) k1 s1 ad1 n1 cap1
      rw [World.size_alloc] at this
      exact this
    have hbZ : Below V.heap.size V Z := by rw [hZ]; exact (((Below.refl _ V).alloc (Nat.le_refl _) _).alloc (by simp) _).drew
    have vr : Var Z (g0 + 1) 0 ⟨#[]⟩ none 0 0 := (hbZ.block (g0 + 1) hg1V).trans v2
    have vs : V.heap.size + 1 < Z.heap.size := by rw [hZ]; simp
    rw [← hZ]
    have HZ := Lib.hid hZ
    clear hZ
    obtain ⟨p0, p1, p2, _⟩ := va.cells
    obtain ⟨q0, q1, q2, _⟩ := vb.cells
    go_wp2_with fail
    go_at_call 96
    refine (H1 _).mono ?_
    rintro e Y1 ⟨rfl, b1⟩
    rw [hA1]
    replace va := va.grown (below_grown b1 none) (by simp)
    replace vb := vb.grown (below_grown b1 none) (by simp)
    replace vr := vr.grown (below_grown b1 none) (by simp)
    have hbZ := hbZ.trans (b1.mono hbZ.size)
    obtain ⟨p0, p1, p2, pf⟩ := va.cells
    obtain ⟨q0, q1, q2, qf⟩ := vb.cells
    obtain ⟨r0, r1, r2, rf⟩ := vr.cells
    go_wp2_with fail
    go_at_call 96
    refine (H2 _).mono ?_
    rintro e Y2 ⟨rfl, b2⟩
    rw [hA2]
    replace va := va.grown (below_grown b2 none) (by simp)
    replace vb := vb.grown (below_grown b2 none) (by simp)
    replace vr := vr.grown (below_grown b2 none) (by simp)
    have hbZ := hbZ.trans (b2.mono hbZ.size)
    obtain ⟨p0, p1, p2, pf⟩ := va.cells
    obtain ⟨q0, q1, q2, qf⟩ := vb.cells
    obtain ⟨r0, r1, r2, rf⟩ := vr.cells
    go_wp2_with fail
    have hE : Below w.heap.size w (set3 Y2 (g0 + 1) k1 s1 ad1 n1 cap1) := by
      have h0 := HA.out.trans (hbZ.mono HA.out.size)
      have hle : w.heap.size ≤ g0 + 1 := by rw [HG.out]; omega
      exact below_of (set3_grown (below_grown h0 (some (g0 + 1))) hle _ _ _ _ _) hle
    refine ret_topS (set3_var vr k1 s1 ad1 n1 cap1) rfl rfl rfl ⟨hE, _, _, _, _, _, rfl, fun nd h => ?_⟩
    obtain rfl := Option.some.inj h
    exact NA.out.below hE

set_option maxHeartbeats 4000000 in
theorem seq_c (a b : Node) (hoa : a.ok) (hob : b.ok) (s : ByteArray) (g cap : Nat) (w : World) (k1 : Int) (s1 : ByteArray) (ad1 : Option Addr) (n1 cap1 : Nat) (k2 : Int) (s2 : ByteArray) (ad2 : Option Addr) (n2 cap2 : Nat) (hD : Duo w g a b k1 s1 ad1 n1 cap1 k2 s2 ad2 n2 cap2) (hA1 : isA a 46 = false) (hA2 : isA b 46 = false) (hA3 : isA a 33 = true) :
    Calls Tryd.prog 65 #[.agg #[.int .u8 59, .string s, .slice (some ⟨g, 0, none⟩) 2 cap]] w (MFits (some a) w) := by
  obtain ⟨hg, c0, c1, c2, c3, c4, c5, na, nb⟩ := hD
  obtain ⟨V, hV⟩ : ∃ V, V = (w.alloc (.cells #[.int .u8 59, .string s, .slice (some ⟨g, 0, none⟩) 2 cap] 52)).alloc (.cells #[.int .u8 0, .string ⟨#[]⟩, .slice none 0 0] 52) := ⟨_, rfl⟩
  have hA : Below w.heap.size w V := by rw [hV]; exact ((Below.refl _ w).alloc (Nat.le_refl _) _).alloc (by simp) _
  have v1 : Var V w.heap.size 59 s (some ⟨g, 0, none⟩) 2 cap := by rw [hV]; exact (Var.new w _ _ _ _ _).grown (World.grownBy_alloc _ _ none) (by simp)
  have v2 : Var V (w.heap.size + 1) 0 ⟨#[]⟩ none 0 0 := by
    rw [hV]
    have := Var.new (w.alloc (.cells #[.int .u8 59, .string s, .slice (some ⟨g, 0, none⟩) 2 cap] 52)) 0 ⟨#[]⟩ none 0 0
    rw [World.size_alloc] at this
    exact this
  obtain ⟨x0, x1, x2, _⟩ := v1.cells
  have d0 := (hA.cell (p := ⟨g, 0, none⟩) hg).trans c0
  have d1 := (hA.cell (p := ⟨g, 1, none⟩) hg).trans c1
  have d2 := (hA.cell (p := ⟨g, 2, none⟩) hg).trans c2
  have d3 := (hA.cell (p := ⟨g, 3, none⟩) hg).trans c3
  have d4 := (hA.cell (p := ⟨g, 4, none⟩) hg).trans c4
  have d5 := (hA.cell (p := ⟨g, 5, none⟩) hg).trans c5
  obtain ⟨g0, hg0⟩ : ∃ g0, g0 = w.heap.size := ⟨_, rfl⟩
  rw [← hg0] at x0 x1 x2 v1 v2
  have hg0V : g0 < V.heap.size := by rw [hV, hg0]; simp; omega
  have hgV : g < V.heap.size := by rw [hV]; simp; omega
  have hg1V : g0 + 1 < V.heap.size := by rw [hV, hg0]; simp
  have NA := Lib.hid na
  have NB := Lib.hid nb
  have H1 := fun w => mis a hoa 46 na w
  have H2 := fun w => mis b hob 46 nb w
  have H3 := fun w => mis a hoa 33 na w
  clear c0 c1 c2 c3 c4 c5 na nb
  go_enter Tryd.func65, Tryd.ntmps65
  go_wp2_with fail
  rw [← hV, ← hg0]
  have HVV := Lib.hid hV
  have HA := Lib.hid hA
  have HG := Lib.hid hg0
  clear hV hA hg0
  go_region
  · obtain ⟨Z, hZ⟩ : ∃ Z, Z = ((V.alloc (.cells #[.int .u8 k1, .string s1, .slice ad1 n1 cap1] 52)).alloc (.cells #[.int .u8 k2, .string s2, .slice ad2 n2 cap2] 52)).drew := ⟨_, rfl⟩
    have va : Var Z V.heap.size k1 s1 ad1 n1 cap1 := by rw [hZ]; exact var_drew ((Var.new V _ _ _ _ _).grown (World.grownBy_alloc _ _ none) (by simp))
    have vb : Var Z (V.heap.size + 1) k2 s2 ad2 n2 cap2 := by
      rw [hZ]
      have := Var.new (V.alloc (.cells #[.int .u8 k1, .string s1, .slice ad1 n1 cap1] 52)) k2 s2 ad2 n2 cap2
      rw [World.size_alloc] at this
      exact this
    have hbZ : Below V.heap.size V Z := by rw [hZ]; exact (((Below.refl _ V).alloc (Nat.le_refl _) _).alloc (by simp) _).drew
    have vr : Var Z (g0 + 1) 0 ⟨#[]⟩ none 0 0 := (hbZ.block (g0 + 1) hg1V).trans v2
    have vs : V.heap.size + 1 < Z.heap.size := by rw [hZ]; simp
    rw [← hZ]
    have HZ := Lib.hid hZ
    clear hZ
    obtain ⟨p0, p1, p2, _⟩ := va.cells
    obtain ⟨q0, q1, q2, _⟩ := vb.cells
    go_wp2_with fail
    go_at_call 96
    refine (H1 _).mono ?_
    rintro e Y1 ⟨rfl, b1⟩
    rw [hA1]
    replace va := va.grown (below_grown b1 none) (by simp)
    replace vb := vb.grown (below_grown b1 none) (by simp)
    replace vr := vr.grown (below_grown b1 none) (by simp)
    have hbZ := hbZ.trans (b1.mono hbZ.size)
    obtain ⟨p0, p1, p2, pf⟩ := va.cells
    obtain ⟨q0, q1, q2, qf⟩ := vb.cells
    obtain ⟨r0, r1, r2, rf⟩ := vr.cells
    go_wp2_with fail
    go_at_call 96
    refine (H2 _).mono ?_
    rintro e Y2 ⟨rfl, b2⟩
    rw [hA2]
    replace va := va.grown (below_grown b2 none) (by simp)
    replace vb := vb.grown (below_grown b2 none) (by simp)
    replace vr := vr.grown (below_grown b2 none) (by simp)
    have hbZ := hbZ.trans (b2.mono hbZ.size)
    obtain ⟨p0, p1, p2, pf⟩ := va.cells
    obtain ⟨q0, q1, q2, qf⟩ := vb.cells
    obtain ⟨r0, r1, r2, rf⟩ := vr.cells
    go_wp2_with fail
    go_at_call 96
    refine (H3 _).mono ?_
    rintro e Y3 ⟨rfl, b3⟩
    rw [hA3]
    replace va := va.grown (below_grown b3 none) (by simp)
    replace vb := vb.grown (below_grown b3 none) (by simp)
    replace vr := vr.grown (below_grown b3 none) (by simp)
    have hbZ := hbZ.trans (b3.mono hbZ.size)
    obtain ⟨p0, p1, p2, pf⟩ := va.cells
    obtain ⟨q0, q1, q2, qf⟩ := vb.cells
    obtain ⟨r0, r1, r2, rf⟩ := vr.cells
    go_wp2_with fail
    have hE : Below w.heap.size w (set3 Y3 (g0 + 1) k1 s1 ad1 n1 cap1) := by
      have h0 := HA.out.trans (hbZ.mono HA.out.size)
      have hle : w.heap.size ≤ g0 + 1 := by rw [HG.out]; omega
      exact below_of (set3_grown (below_grown h0 (some (g0 + 1))) hle _ _ _ _ _) hle
    refine ret_topS (set3_var vr k1 s1 ad1 n1 cap1) rfl rfl rfl ⟨hE, _, _, _, _, _, rfl, fun nd h => ?_⟩
    obtain rfl := Option.some.inj h
    exact NA.out.below hE
  · obtain ⟨Z, hZ⟩ : ∃ Z, Z = ((V.alloc (.cells #[.int .u8 k2, .string s2, .slice ad2 n2 cap2] 52)).alloc (.cells #[.int .u8 k1, .string s1, .slice ad1 n1 cap1] 52)).drew := ⟨_, rfl⟩
    have vb : Var Z V.heap.size k2 s2 ad2 n2 cap2 := by rw [hZ]; exact var_drew ((Var.new V _ _ _ _ _).grown (World.grownBy_alloc _ _ none) (by simp))
    have va : Var Z (V.heap.size + 1) k1 s1 ad1 n1 cap1 := by
      rw [hZ]
      have := Var.new (V.alloc (.cells #[.int .u8 k2, .string s2, .slice ad2 n2 cap2] 52)) k1 s1 ad1 n1 cap1
      rw [World.size_alloc] at this
      exact this
    have hbZ : Below V.heap.size V Z := by rw [hZ]; exact (((Below.refl _ V).alloc (Nat.le_refl _) _).alloc (by simp) _).drew
    have vr : Var Z (g0 + 1) 0 ⟨#[]⟩ none 0 0 := (hbZ.block (g0 + 1) hg1V).trans v2
    have vs : V.heap.size + 1 < Z.heap.size := by rw [hZ]; simp
    rw [← hZ]
    have HZ := Lib.hid hZ
    clear hZ
    obtain ⟨p0, p1, p2, _⟩ := va.cells
    obtain ⟨q0, q1, q2, _⟩ := vb.cells
    go_wp2_with fail
    go_at_call 96
    refine (H1 _).mono ?_
    rintro e Y1 ⟨rfl, b1⟩
    rw [hA1]
    replace va := va.grown (below_grown b1 none) (by simp)
    replace vb := vb.grown (below_grown b1 none) (by simp)
    replace vr := vr.grown (below_grown b1 none) (by simp)
    have hbZ := hbZ.trans (b1.mono hbZ.size)
    obtain ⟨p0, p1, p2, pf⟩ := va.cells
    obtain ⟨q0, q1, q2, qf⟩ := vb.cells
    obtain ⟨r0, r1, r2, rf⟩ := vr.cells
    go_wp2_with fail
    go_at_call 96
    refine (H2 _).mono ?_
    rintro e Y2 ⟨rfl, b2⟩
    rw [hA2]
    replace va := va.grown (below_grown b2 none) (by simp)
    replace vb := vb.grown (below_grown b2 none) (by simp)
    replace vr := vr.grown (below_grown b2 none) (by simp)
    have hbZ := hbZ.trans (b2.mono hbZ.size)
    obtain ⟨p0, p1, p2, pf⟩ := va.cells
    obtain ⟨q0, q1, q2, qf⟩ := vb.cells
    obtain ⟨r0, r1, r2, rf⟩ := vr.cells
    go_wp2_with fail
    go_at_call 96
    refine (H3 _).mono ?_
    rintro e Y3 ⟨rfl, b3⟩
    rw [hA3]
    replace va := va.grown (below_grown b3 none) (by simp)
    replace vb := vb.grown (below_grown b3 none) (by simp)
    replace vr := vr.grown (below_grown b3 none) (by simp)
    have hbZ := hbZ.trans (b3.mono hbZ.size)
    obtain ⟨p0, p1, p2, pf⟩ := va.cells
    obtain ⟨q0, q1, q2, qf⟩ := vb.cells
    obtain ⟨r0, r1, r2, rf⟩ := vr.cells
    go_wp2_with fail
    have hE : Below w.heap.size w (set3 Y3 (g0 + 1) k1 s1 ad1 n1 cap1) := by
      have h0 := HA.out.trans (hbZ.mono HA.out.size)
      have hle : w.heap.size ≤ g0 + 1 := by rw [HG.out]; omega
      exact below_of (set3_grown (below_grown h0 (some (g0 + 1))) hle _ _ _ _ _) hle
    refine ret_topS (set3_var vr k1 s1 ad1 n1 cap1) rfl rfl rfl ⟨hE, _, _, _, _, _, rfl, fun nd h => ?_⟩
    obtain rfl := Option.some.inj h
    exact NA.out.below hE

end Go.Proofs.YtgkgkaapjljpcaaDoor

