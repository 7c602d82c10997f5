/- Chapter 11, the model: the rules on a loop (wip/tools/mkZDx.py). -/
import Derived.Test.YtgkgkaapjljpcaaDoorZDv
namespace Go.Proofs.YtgkgkaapjljpcaaDoor
open Go.ChangeShapes Go.WideShapes Go.ChangeAt Go.RowKit Go.Shelf
attribute [local go_sem] Oper.semAt_some
set_option maxRecDepth 100000

theorem ret_topL {Z : World} {a : Act} {k : Int} {s : ByteArray} {ad : Option Addr} {m cap g : Nat} {b : Bool} {R : Ending → World → Prop} (hv : Var Z g k s ad m cap) (ha : a.tmps[2]?.getD undef = .pointer (some ⟨g, 0, none⟩)) (hb : a.tmps[3]?.getD undef = .bool b) (hdf : a.defers = [])
    (h : R (.returned (.tuple #[.agg #[.int .u8 k, .string s, .slice ad m cap], .bool b])) Z) : bodyPost Tryd.prog Tryd.f66 R Exit.ret a Z := by
  obtain ⟨c0, c1, c2, _⟩ := hv.cells
  refine bodyPost_ret (v := .tuple #[.agg #[.int .u8 k, .string s, .slice ad m cap], .bool b]) ?_ hdf h
  simp [results, Tryd.results66, go_sem, ha, hb, c0, c1, c2]
/-- A program in a block of its own. -/
structure Uno (w : World) (g : Nat) (p : Node) (k1 : Int) (s1 : ByteArray) (ad1 : Option Addr) (n1 cap1 : Nat) : Prop where
  lt : g < w.heap.size
  c0 : w.cell? ⟨g, 0, none⟩ = some (.int .u8 k1)
  c1 : w.cell? ⟨g, 1, none⟩ = some (.string s1)
  c2 : w.cell? ⟨g, 2, none⟩ = some (.slice ad1 n1 cap1)
  np : Nd w p k1 s1 ad1 n1 cap1

set_option maxHeartbeats 4000000 in
theorem loop_dot (p : Node) (hop : (p : Node).ok) (s : ByteArray) (g cap : Nat) (w : World) (k1 : Int) (s1 : ByteArray) (n1 : Nat) (ad1 : Option Addr) (cap1 : Nat) (hD : Uno w g p (k1) s1 ad1 n1 cap1) (hA1 : isA p 46 = true) :
    Calls Tryd.prog 66 #[.agg #[.int .u8 123, .string s, .slice (some ⟨g, 0, none⟩) 1 cap]] w (MFits (some p) w) := by
  obtain ⟨hg, c0, c1, c2, np⟩ := hD
  obtain ⟨Z, hZ⟩ : ∃ Z, Z = ((w.alloc (.cells #[.int .u8 123, .string s, .slice (some ⟨g, 0, none⟩) 1 cap] 52)).alloc (.cells #[.int .u8 0, .string ⟨#[]⟩, .slice none 0 0] 52)).alloc (.cells #[.int .u8 k1, .string s1, .slice ad1 n1 cap1] 52) := ⟨_, rfl⟩
  have v1 : Var Z w.heap.size 123 s (some ⟨g, 0, none⟩) 1 cap := by
    rw [hZ]; exact ((Var.new w _ _ _ _ _).grown (World.grownBy_alloc _ _ none) (by simp)).grown (World.grownBy_alloc _ _ none) (by simp)
  have v2 : Var Z (w.heap.size + 1) 0 ⟨#[]⟩ none 0 0 := by
    rw [hZ]
    have := Var.new (w.alloc (.cells #[.int .u8 123, .string s, .slice (some ⟨g, 0, none⟩) 1 cap] 52)) 0 ⟨#[]⟩ none 0 0
    rw [World.size_alloc] at this
    exact this.grown (World.grownBy_alloc _ _ none) (by simp)
  have va : Var Z (w.heap.size + 1 + 1) (k1) s1 ad1 n1 cap1 := by
    rw [hZ]
    have := Var.new ((w.alloc (.cells #[.int .u8 123, .string s, .slice (some ⟨g, 0, none⟩) 1 cap] 52)).alloc (.cells #[.int .u8 0, .string ⟨#[]⟩, .slice none 0 0] 52)) (k1) s1 ad1 n1 cap1
    rw [World.size_alloc, World.size_alloc] at this
    exact this
  have hbZ : Below w.heap.size w Z := by rw [hZ]; exact (((Below.refl _ w).alloc (Nat.le_refl _) _).alloc (by simp) _).alloc (by simp; omega) _
  have H1 := fun w => mis p hop 46 np w
  have NP := Lib.hid np
  clear np
  go_enter Tryd.func66, Tryd.ntmps66
  go_wp2_with fail
  rw [← hZ]
  obtain ⟨g0, hg0⟩ : ∃ g0, g0 = w.heap.size := ⟨_, rfl⟩
  rw [← hg0] at v1 v2 va ⊢
  have HG := Lib.hid hg0
  have HZ := Lib.hid hZ
  clear hZ hg0 c0 c1 c2 hg
  go_at_call 96
  refine (H1 _).mono ?_
  rintro e Y1 ⟨rfl, b1⟩
  rw [hA1]
  replace va := va.grown (below_grown b1 none) (by simp)
  replace v1 := v1.grown (below_grown b1 none) (by simp)
  replace v2 := v2.grown (below_grown b1 none) (by simp)
  replace hbZ := hbZ.trans (b1.mono hbZ.size)
  obtain ⟨p0, p1, p2, pf⟩ := va.cells
  obtain ⟨q0, q1, q2, qf⟩ := v1.cells
  obtain ⟨r0, r1, r2, rf⟩ := v2.cells
  have lR : g0 + 1 < Y1.heap.size := v2.lt'
  go_wp2_with fail
  have hE : Below w.heap.size w (set3 Y1 (g0 + 1) (k1) s1 ad1 n1 cap1) := by
    have hle : w.heap.size ≤ g0 + 1 := by rw [HG.out]; omega
    exact below_of (set3_grown (below_grown hbZ (some (g0 + 1))) hle _ _ _ _ _) hle
  refine ret_topL (set3_var v2 (k1) s1 ad1 n1 cap1) rfl rfl rfl ⟨hE, _, _, _, _, _, rfl, fun nd h => ?_⟩
  obtain rfl := Option.some.inj h
  exact NP.out.below hE

set_option maxHeartbeats 4000000 in
theorem loop_test (c : UInt8) (r : List UInt8) (hop : ((.atom (c :: r)) : Node).ok) (s : ByteArray) (g cap : Nat) (w : World) (ad1 : Option Addr) (cap1 : Nat) (hD : Uno w g (.atom (c :: r)) (97) ⟨(c :: r).toArray⟩ ad1 0 cap1) (hA1 : isA (.atom (c :: r)) 46 = false) (hc : ((c.toNat : Int) == 91) = true) :
    Calls Tryd.prog 66 #[.agg #[.int .u8 123, .string s, .slice (some ⟨g, 0, none⟩) 1 cap]] w (MFits (some (.atom [46])) w) := by
  obtain ⟨hg, c0, c1, c2, np⟩ := hD
  obtain ⟨Z, hZ⟩ : ∃ Z, Z = ((w.alloc (.cells #[.int .u8 123, .string s, .slice (some ⟨g, 0, none⟩) 1 cap] 52)).alloc (.cells #[.int .u8 0, .string ⟨#[]⟩, .slice none 0 0] 52)).alloc (.cells #[.int .u8 97, .string ⟨(c :: r).toArray⟩, .slice ad1 0 cap1] 52) := ⟨_, rfl⟩
  have v1 : Var Z w.heap.size 123 s (some ⟨g, 0, none⟩) 1 cap := by
    rw [hZ]; exact ((Var.new w _ _ _ _ _).grown (World.grownBy_alloc _ _ none) (by simp)).grown (World.grownBy_alloc _ _ none) (by simp)
  have v2 : Var Z (w.heap.size + 1) 0 ⟨#[]⟩ none 0 0 := by
    rw [hZ]
    have := Var.new (w.alloc (.cells #[.int .u8 123, .string s, .slice (some ⟨g, 0, none⟩) 1 cap] 52)) 0 ⟨#[]⟩ none 0 0
    rw [World.size_alloc] at this
    exact this.grown (World.grownBy_alloc _ _ none) (by simp)
  have va : Var Z (w.heap.size + 1 + 1) (97) ⟨(c :: r).toArray⟩ ad1 0 cap1 := by
    rw [hZ]
    have := Var.new ((w.alloc (.cells #[.int .u8 123, .string s, .slice (some ⟨g, 0, none⟩) 1 cap] 52)).alloc (.cells #[.int .u8 0, .string ⟨#[]⟩, .slice none 0 0] 52)) (97) ⟨(c :: r).toArray⟩ ad1 0 cap1
    rw [World.size_alloc, World.size_alloc] at this
    exact this
  have hbZ : Below w.heap.size w Z := by rw [hZ]; exact (((Below.refl _ w).alloc (Nat.le_refl _) _).alloc (by simp) _).alloc (by simp; omega) _
  have H1 := fun w => mis (.atom (c :: r)) hop 46 np w
  have NP := Lib.hid np
  clear np
  have fb := first_byteM c r
  go_enter Tryd.func66, Tryd.ntmps66
  go_wp2_with fail
  rw [← hZ]
  obtain ⟨g0, hg0⟩ : ∃ g0, g0 = w.heap.size := ⟨_, rfl⟩
  rw [← hg0] at v1 v2 va ⊢
  have HG := Lib.hid hg0
  have HZ := Lib.hid hZ
  clear hZ hg0 c0 c1 c2 hg
  go_at_call 96
  refine (H1 _).mono ?_
  rintro e Y1 ⟨rfl, b1⟩
  rw [hA1]
  replace va := va.grown (below_grown b1 none) (by simp)
  replace v1 := v1.grown (below_grown b1 none) (by simp)
  replace v2 := v2.grown (below_grown b1 none) (by simp)
  replace hbZ := hbZ.trans (b1.mono hbZ.size)
  obtain ⟨p0, p1, p2, pf⟩ := va.cells
  obtain ⟨q0, q1, q2, qf⟩ := v1.cells
  obtain ⟨r0, r1, r2, rf⟩ := v2.cells
  have lR : g0 + 1 < Y1.heap.size := v2.lt'
  go_wp2_with fail
  have hle : w.heap.size ≤ g0 + 1 := by rw [HG.out]; omega
  have hE : Below w.heap.size w (set3 Y1 (g0 + 1) 97 ⟨#[46]⟩ (some ⟨Y1.heap.size, 0, none⟩) 0 0) := below_of (set3_grown (below_grown hbZ (some (g0 + 1))) hle _ _ _ _ _) hle
  refine ret_topL (Z := (set3 Y1 (g0 + 1) 97 ⟨#[46]⟩ (some ⟨Y1.heap.size, 0, none⟩) 0 0).alloc (.cells #[] 52)) ((set3_var v2 97 ⟨#[46]⟩ (some ⟨Y1.heap.size, 0, none⟩) 0 0).grown (World.grownBy_alloc _ _ none) (by simp)) rfl rfl rfl ⟨hE.alloc hE.size _, _, _, _, _, _, rfl, fun nd h => ?_⟩
  obtain rfl := Option.some.inj h
  exact ⟨rfl, rfl, rfl⟩

set_option maxHeartbeats 4000000 in
theorem loop_atom (c : UInt8) (r : List UInt8) (hop : ((.atom (c :: r)) : Node).ok) (s : ByteArray) (g cap : Nat) (w : World) (ad1 : Option Addr) (cap1 : Nat) (hD : Uno w g (.atom (c :: r)) (97) ⟨(c :: r).toArray⟩ ad1 0 cap1) (hA1 : isA (.atom (c :: r)) 46 = false) (hc : ((c.toNat : Int) == 91) = false) :
    Calls Tryd.prog 66 #[.agg #[.int .u8 123, .string s, .slice (some ⟨g, 0, none⟩) 1 cap]] w (MFits none w) := by
  obtain ⟨hg, c0, c1, c2, np⟩ := hD
  obtain ⟨Z, hZ⟩ : ∃ Z, Z = ((w.alloc (.cells #[.int .u8 123, .string s, .slice (some ⟨g, 0, none⟩) 1 cap] 52)).alloc (.cells #[.int .u8 0, .string ⟨#[]⟩, .slice none 0 0] 52)).alloc (.cells #[.int .u8 97, .string ⟨(c :: r).toArray⟩, .slice ad1 0 cap1] 52) := ⟨_, rfl⟩
  have v1 : Var Z w.heap.size 123 s (some ⟨g, 0, none⟩) 1 cap := by
    rw [hZ]; exact ((Var.new w _ _ _ _ _).grown (World.grownBy_alloc _ _ none) (by simp)).grown (World.grownBy_alloc _ _ none) (by simp)
  have v2 : Var Z (w.heap.size + 1) 0 ⟨#[]⟩ none 0 0 := by
    rw [hZ]
    have := Var.new (w.alloc (.cells #[.int .u8 123, .string s, .slice (some ⟨g, 0, none⟩) 1 cap] 52)) 0 ⟨#[]⟩ none 0 0
    rw [World.size_alloc] at this
    exact this.grown (World.grownBy_alloc _ _ none) (by simp)
  have va : Var Z (w.heap.size + 1 + 1) (97) ⟨(c :: r).toArray⟩ ad1 0 cap1 := by
    rw [hZ]
    have := Var.new ((w.alloc (.cells #[.int .u8 123, .string s, .slice (some ⟨g, 0, none⟩) 1 cap] 52)).alloc (.cells #[.int .u8 0, .string ⟨#[]⟩, .slice none 0 0] 52)) (97) ⟨(c :: r).toArray⟩ ad1 0 cap1
    rw [World.size_alloc, World.size_alloc] at this
    exact this
  have hbZ : Below w.heap.size w Z := by rw [hZ]; exact (((Below.refl _ w).alloc (Nat.le_refl _) _).alloc (by simp) _).alloc (by simp; omega) _
  have H1 := fun w => mis (.atom (c :: r)) hop 46 np w
  have NP := Lib.hid np
  clear np
  have fb := first_byteM c r
  go_enter Tryd.func66, Tryd.ntmps66
  go_wp2_with fail
  rw [← hZ]
  obtain ⟨g0, hg0⟩ : ∃ g0, g0 = w.heap.size := ⟨_, rfl⟩
  rw [← hg0] at v1 v2 va ⊢
  have HG := Lib.hid hg0
  have HZ := Lib.hid hZ
  clear hZ hg0 c0 c1 c2 hg
  go_at_call 96
  refine (H1 _).mono ?_
  rintro e Y1 ⟨rfl, b1⟩
  rw [hA1]
  replace va := va.grown (below_grown b1 none) (by simp)
  replace v1 := v1.grown (below_grown b1 none) (by simp)
  replace v2 := v2.grown (below_grown b1 none) (by simp)
  replace hbZ := hbZ.trans (b1.mono hbZ.size)
  obtain ⟨p0, p1, p2, pf⟩ := va.cells
  obtain ⟨q0, q1, q2, qf⟩ := v1.cells
  obtain ⟨r0, r1, r2, rf⟩ := v2.cells
  have lR : g0 + 1 < Y1.heap.size := v2.lt'
  go_wp2_with fail
  have hE : Below w.heap.size w (set3 Y1 (g0 + 1) (123) s (some ⟨g, 0, none⟩) 1 cap) := by
    have hle : w.heap.size ≤ g0 + 1 := by rw [HG.out]; omega
    exact below_of (set3_grown (below_grown hbZ (some (g0 + 1))) hle _ _ _ _ _) hle
  refine ret_topL (set3_var v2 (123) s (some ⟨g, 0, none⟩) 1 cap) rfl rfl rfl ⟨hE, _, _, _, _, _, rfl, fun nd h => ?_⟩
  cases h

set_option maxHeartbeats 4000000 in
theorem loop_loop (p : Node) (hop : (p : Node).ok) (s : ByteArray) (g cap : Nat) (w : World) (k1 : Int) (s1 : ByteArray) (n1 : Nat) (ad1 : Option Addr) (cap1 : Nat) (hD : Uno w g p (k1) s1 ad1 n1 cap1) (hA1 : isA p 46 = false) (hk : (k1 == 97) = false) (hk2 : (k1 == 123) = true) :
    Calls Tryd.prog 66 #[.agg #[.int .u8 123, .string s, .slice (some ⟨g, 0, none⟩) 1 cap]] w (MFits (some p) w) := by
  obtain ⟨hg, c0, c1, c2, np⟩ := hD
  obtain ⟨Z, hZ⟩ : ∃ Z, Z = ((w.alloc (.cells #[.int .u8 123, .string s, .slice (some ⟨g, 0, none⟩) 1 cap] 52)).alloc (.cells #[.int .u8 0, .string ⟨#[]⟩, .slice none 0 0] 52)).alloc (.cells #[.int .u8 k1, .string s1, .slice ad1 n1 cap1] 52) := ⟨_, rfl⟩
  have v1 : Var Z w.heap.size 123 s (some ⟨g, 0, none⟩) 1 cap := by
    rw [hZ]; exact ((Var.new w _ _ _ _ _).grown (World.grownBy_alloc _ _ none) (by simp)).grown (World.grownBy_alloc _ _ none) (by simp)
  have v2 : Var Z (w.heap.size + 1) 0 ⟨#[]⟩ none 0 0 := by
    rw [hZ]
    have := Var.new (w.alloc (.cells #[.int .u8 123, .string s, .slice (some ⟨g, 0, none⟩) 1 cap] 52)) 0 ⟨#[]⟩ none 0 0
    rw [World.size_alloc] at this
    exact this.grown (World.grownBy_alloc _ _ none) (by simp)
  have va : Var Z (w.heap.size + 1 + 1) (k1) s1 ad1 n1 cap1 := by
    rw [hZ]
    have := Var.new ((w.alloc (.cells #[.int .u8 123, .string s, .slice (some ⟨g, 0, none⟩) 1 cap] 52)).alloc (.cells #[.int .u8 0, .string ⟨#[]⟩, .slice none 0 0] 52)) (k1) s1 ad1 n1 cap1
    rw [World.size_alloc, World.size_alloc] at this
    exact this
  have hbZ : Below w.heap.size w Z := by rw [hZ]; exact (((Below.refl _ w).alloc (Nat.le_refl _) _).alloc (by simp) _).alloc (by simp; omega) _
  have H1 := fun w => mis p hop 46 np w
  have NP := Lib.hid np
  clear np
  go_enter Tryd.func66, Tryd.ntmps66
  go_wp2_with fail
  rw [← hZ]
  obtain ⟨g0, hg0⟩ : ∃ g0, g0 = w.heap.size := ⟨_, rfl⟩
  rw [← hg0] at v1 v2 va ⊢
  have HG := Lib.hid hg0
  have HZ := Lib.hid hZ
  clear hZ hg0 c0 c1 c2 hg
  go_at_call 96
  refine (H1 _).mono ?_
  rintro e Y1 ⟨rfl, b1⟩
  rw [hA1]
  replace va := va.grown (below_grown b1 none) (by simp)
  replace v1 := v1.grown (below_grown b1 none) (by simp)
  replace v2 := v2.grown (below_grown b1 none) (by simp)
  replace hbZ := hbZ.trans (b1.mono hbZ.size)
  obtain ⟨p0, p1, p2, pf⟩ := va.cells
  obtain ⟨q0, q1, q2, qf⟩ := v1.cells
  obtain ⟨r0, r1, r2, rf⟩ := v2.cells
  have lR : g0 + 1 < Y1.heap.size := v2.lt'
  go_wp2_with fail
  have hE : Below w.heap.size w (set3 Y1 (g0 + 1) (k1) s1 ad1 n1 cap1) := by
    have hle : w.heap.size ≤ g0 + 1 := by rw [HG.out]; omega
    exact below_of (set3_grown (below_grown hbZ (some (g0 + 1))) hle _ _ _ _ _) hle
  refine ret_topL (set3_var v2 (k1) s1 ad1 n1 cap1) rfl rfl rfl ⟨hE, _, _, _, _, _, rfl, fun nd h => ?_⟩
  obtain rfl := Option.some.inj h
  exact NP.out.below hE

set_option maxHeartbeats 4000000 in
theorem loop_pair (p : Node) (hop : (p : Node).ok) (s : ByteArray) (g cap : Nat) (w : World) (k1 : Int) (s1 : ByteArray) (n1 : Nat) (ad1 : Option Addr) (cap1 : Nat) (hD : Uno w g p (k1) s1 ad1 n1 cap1) (hA1 : isA p 46 = false) (hk : (k1 == 97) = false) (hk2 : (k1 == 123) = false) :
    Calls Tryd.prog 66 #[.agg #[.int .u8 123, .string s, .slice (some ⟨g, 0, none⟩) 1 cap]] w (MFits none w) := by
  obtain ⟨hg, c0, c1, c2, np⟩ := hD
  obtain ⟨Z, hZ⟩ : ∃ Z, Z = ((w.alloc (.cells #[.int .u8 123, .string s, .slice (some ⟨g, 0, none⟩) 1 cap] 52)).alloc (.cells #[.int .u8 0, .string ⟨#[]⟩, .slice none 0 0] 52)).alloc (.cells #[.int .u8 k1, .string s1, .slice ad1 n1 cap1] 52) := ⟨_, rfl⟩
  have v1 : Var Z w.heap.size 123 s (some ⟨g, 0, none⟩) 1 cap := by
    rw [hZ]; exact ((Var.new w _ _ _ _ _).grown (World.grownBy_alloc _ _ none) (by simp)).grown (World.grownBy_alloc _ _ none) (by simp)
  have v2 : Var Z (w.heap.size + 1) 0 ⟨#[]⟩ none 0 0 := by
    rw [hZ]
    have := Var.new (w.alloc (.cells #[.int .u8 123, .string s, .slice (some ⟨g, 0, none⟩) 1 cap] 52)) 0 ⟨#[]⟩ none 0 0
    rw [World.size_alloc] at this
    exact this.grown (World.grownBy_alloc _ _ none) (by simp)
  have va : Var Z (w.heap.size + 1 + 1) (k1) s1 ad1 n1 cap1 := by
    rw [hZ]
    have := Var.new ((w.alloc (.cells #[.int .u8 123, .string s, .slice (some ⟨g, 0, none⟩) 1 cap] 52)).alloc (.cells #[.int .u8 0, .string ⟨#[]⟩, .slice none 0 0] 52)) (k1) s1 ad1 n1 cap1
    rw [World.size_alloc, World.size_alloc] at this
    exact this
  have hbZ : Below w.heap.size w Z := by rw [hZ]; exact (((Below.refl _ w).alloc (Nat.le_refl _) _).alloc (by simp) _).alloc (by simp; omega) _
  have H1 := fun w => mis p hop 46 np w
  have NP := Lib.hid np
  clear np
  go_enter Tryd.func66, Tryd.ntmps66
  go_wp2_with fail
  rw [← hZ]
  obtain ⟨g0, hg0⟩ : ∃ g0, g0 = w.heap.size := ⟨_, rfl⟩
  rw [← hg0] at v1 v2 va ⊢
  have HG := Lib.hid hg0
  have HZ := Lib.hid hZ
  clear hZ hg0 c0 c1 c2 hg
  go_at_call 96
  refine (H1 _).mono ?_
  rintro e Y1 ⟨rfl, b1⟩
  rw [hA1]
  replace va := va.grown (below_grown b1 none) (by simp)
  replace v1 := v1.grown (below_grown b1 none) (by simp)
  replace v2 := v2.grown (below_grown b1 none) (by simp)
  replace hbZ := hbZ.trans (b1.mono hbZ.size)
  obtain ⟨p0, p1, p2, pf⟩ := va.cells
  obtain ⟨q0, q1, q2, qf⟩ := v1.cells
  obtain ⟨r0, r1, r2, rf⟩ := v2.cells
  have lR : g0 + 1 < Y1.heap.size := v2.lt'
  go_wp2_with fail
  have hE : Below w.heap.size w (set3 Y1 (g0 + 1) (123) s (some ⟨g, 0, none⟩) 1 cap) := by
    have hle : w.heap.size ≤ g0 + 1 := by rw [HG.out]; omega
    exact below_of (set3_grown (below_grown hbZ (some (g0 + 1))) hle _ _ _ _ _) hle
  refine ret_topL (set3_var v2 (123) s (some ⟨g, 0, none⟩) 1 cap) rfl rfl rfl ⟨hE, _, _, _, _, _, rfl, fun nd h => ?_⟩
  cases h

theorem mloop11 (p : Node) (hop : p.ok) (s : ByteArray) (g cap : Nat) (w : World) (k1 : Int) (s1 : ByteArray) (n1 : Nat) (ad1 : Option Addr) (cap1 : Nat) (hD : Uno w g p k1 s1 ad1 n1 cap1) :
    Calls Tryd.prog 66 #[.agg #[.int .u8 123, .string s, .slice (some ⟨g, 0, none⟩) 1 cap]] w (MFits (topLoop p) w) := by
  unfold topLoop
  cases hA1 : isA p 46 with
  | true =>
    rw [if_pos (.inl rfl)]
    have hp : p = .atom [46] := by
      cases p with
      | atom a => have := eq_of_beq (show (a == [46]) = true from hA1); rw [this]
      | loop p => cases hA1
      | pair k p q => cases hA1
    have := loop_dot p hop s g cap w k1 s1 n1 ad1 cap1 hD hA1
    rw [hp] at this
    exact this
  | false =>
    cases p with
    | atom x =>
      cases x with
      | nil =>
        exfalso
        rcases hop with h | h | h | ⟨t, _, h⟩
        · cases h
        · cases h
        · exact absurd h (by decide)
        · cases h
      | cons c r =>
        obtain ⟨rfl, rfl, rfl⟩ := id hD.np
        have ht : testN (.atom (c :: r)) = ((c.toNat : Int) == 91) := by
          show (c == 91) = _
          rw [Bool.eq_iff_iff, beq_iff_eq, beq_iff_eq]
          exact ⟨fun h => by rw [h]; rfl, fun h => UInt8.toNat_inj.1 (by have : (91 : UInt8).toNat = 91 := rfl; omega)⟩
        rw [ht]
        cases hc : ((c.toNat : Int) == 91) with
        | true => rw [if_pos (.inr rfl)]; exact loop_test c r hop s g cap w ad1 cap1 hD hA1 hc
        | false => rw [if_neg (by rintro (h | h) <;> cases h)]; exact loop_atom c r hop s g cap w ad1 cap1 hD hA1 hc
    | loop q =>
      rw [if_neg (by rintro (h | h) <;> cases h)]
      obtain ⟨rfl, _⟩ := id hD.np
      exact loop_loop (.loop q) hop s g cap w 123 s1 n1 ad1 cap1 hD hA1 rfl rfl
    | pair k0 q r =>
      rw [if_neg (by rintro (h | h) <;> cases h)]
      obtain ⟨rfl, _⟩ := id hD.np
      have hk := hop.1
      refine loop_pair (.pair k0 q r) hop s g cap w _ s1 n1 ad1 cap1 hD hA1 ?_ ?_
      · rcases hk with rfl | rfl <;> rfl
      · rcases hk with rfl | rfl <;> rfl
end Go.Proofs.YtgkgkaapjljpcaaDoor

