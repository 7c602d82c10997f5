/- Chapter 11, the model: one rule used at the top, and SimplerTop (wip/tools/mkZDy.py). -/
import Derived.Test.YtgkgkaapjljpcaaDoorZDw
import Derived.Test.YtgkgkaapjljpcaaDoorZDx
namespace Go.Proofs.YtgkgkaapjljpcaaDoor
open Go.ChangeShapes Go.WideShapes Go.ChangeAt Go.RowKit Go.Shelf
attribute [local go_sem] Oper.semAt_some
set_option maxRecDepth 100000

theorem ret_topT {Z : World} {a : Act} {k : Int} {s : ByteArray} {ad : Option Addr} {m cap g : Nat} {b : Bool} {R : Ending → World → Prop} (hv : Var Z g k s ad m cap) (ha : a.tmps[2]?.getD undef = .pointer (some ⟨g, 0, none⟩)) (hb : a.tmps[3]?.getD undef = .bool b) (hdf : a.defers = [])
    (h : R (.returned (.tuple #[.agg #[.int .u8 k, .string s, .slice ad m cap], .bool b])) Z) : bodyPost Tryd.prog Tryd.f49 R Exit.ret a Z := by
  obtain ⟨c0, c1, c2, _⟩ := hv.cells
  refine bodyPost_ret (v := .tuple #[.agg #[.int .u8 k, .string s, .slice ad m cap], .bool b]) ?_ hdf h
  simp [results, Tryd.results49, go_sem, ha, hb, c0, c1, c2]
/-- Six cells of a block, one by one. -/
def At6 (W : World) (g : Nat) (a0 a1 a2 a3 a4 a5 : Value) : Prop := (W.cell? ⟨g, 0, none⟩ = some a0 ∧ W.cell? ⟨g, 1, none⟩ = some a1 ∧ W.cell? ⟨g, 2, none⟩ = some a2) ∧ (W.cell? ⟨g, 3, none⟩ = some a3 ∧ W.cell? ⟨g, 4, none⟩ = some a4 ∧ W.cell? ⟨g, 5, none⟩ = some a5)
theorem At6.same {W W' : World} {g : Nat} {a0 a1 a2 a3 a4 a5 : Value} (h : At6 W g a0 a1 a2 a3 a4 a5) (hs : W'.heap[g]? = W.heap[g]?) : At6 W' g a0 a1 a2 a3 a4 a5 := by
  have c := fun o => World.cell?_of_block (w := W) (w' := W') (a := ⟨g, o, none⟩) hs
  obtain ⟨⟨e0, e1, e2⟩, e3, e4, e5⟩ := h
  exact ⟨⟨(c 0).trans e0, (c 1).trans e1, (c 2).trans e2⟩, (c 3).trans e3, (c 4).trans e4, (c 5).trans e5⟩
theorem At6.below {W W' : World} {g : Nat} {a0 a1 a2 a3 a4 a5 : Value} (h : At6 W g a0 a1 a2 a3 a4 a5) {n : Nat} (hb : Below n W W') (hn : g < n) : At6 W' g a0 a1 a2 a3 a4 a5 := h.same (hb.block g hn)
theorem nd_choice {W : World} {a b : Node} {s : ByteArray} {k : Int} {ad : Option Addr} {n cap : Nat} {k0 : UInt8} (h : Nd W (.pair k0 a b) k s ad n cap) : k = (k0.toNat : Int) ∧ s = ⟨#[]⟩ ∧ n = 2 ∧ ∃ g, ad = some ⟨g, 0, none⟩ ∧ g < W.heap.size ∧ ∃ k1 s1 ad1 n1 cap1 k2 s2 ad2 n2 cap2, At6 W g (.int .u8 k1) (.string s1) (.slice ad1 n1 cap1) (.int .u8 k2) (.string s2) (.slice ad2 n2 cap2) ∧ Nd W a k1 s1 ad1 n1 cap1 ∧ Nd W b k2 s2 ad2 n2 cap2 := by
  obtain ⟨h1, h2, h3, g, h4, _, h5, k1, s1, ad1, n1, cap1, k2, s2, ad2, n2, cap2, h6, h7, h8, h9⟩ := h
  exact ⟨h1, h2, h3, g, h4, h5, k1, s1, ad1, n1, cap1, k2, s2, ad2, n2, cap2, ⟨h6, h7⟩, h8, h9⟩
theorem nd_kind {W : World} {lo hi : Nat} {nd : Node} {k : Int} {s : ByteArray} {ad : Option Addr} {n cap : Nat} (hok : nd.ok) (h : NodeIs W lo hi nd k s ad n cap) : k ≠ 0 := by
  cases nd with
  | atom a => obtain ⟨rfl, _⟩ := h; decide
  | loop p => obtain ⟨rfl, _⟩ := h; decide
  | pair k0 p q =>
    obtain ⟨rfl, _⟩ := h
    obtain ⟨rfl | rfl, _, _⟩ := hok
    · decide
    · decide
/-- A program stays where a block is written that holds none. -/
theorem NodeIs.but {W W' : World} {z hi hi' : Nat} (hz : W.cell? ⟨z, 0, none⟩ = some (.int .u8 0)) (hs : ∀ i, i ≠ z → i < hi → W'.heap[i]? = W.heap[i]?) (hh : hi ≤ hi') : ∀ {nd : Node}, nd.ok → ∀ {k : Int} {s : ByteArray} {ad : Option Addr} {n cap : Nat}, NodeIs W 0 hi nd k s ad n cap → NodeIs W' 0 hi' nd k s ad n cap
  | .atom _, _, _, _, _, _, _, h => h
  | .loop p, hok, _, _, _, _, _, h => by
    obtain ⟨h1, h2, h3, g, h4, h5, h6, k1, s1, ad1, n1, cap1, c0, c1, c2, hp⟩ := h
    have hgz : g ≠ z := by
      rintro rfl
      rw [hz] at c0
      exact nd_kind (nd := p) hok hp (by simpa using c0.symm)
    have c := fun o => World.cell?_of_block (w := W) (w' := W') (a := ⟨g, o, none⟩) (hs g hgz h6)
    exact ⟨h1, h2, h3, g, h4, h5, Nat.lt_of_lt_of_le h6 hh, k1, s1, ad1, n1, cap1, (c 0).trans c0, (c 1).trans c1, (c 2).trans c2, NodeIs.but (nd := p) hz hs hh hok hp⟩
  | .pair _ p q, hok, _, _, _, _, _, h => by
    obtain ⟨h1, h2, h3, g, h4, h5, h6, k1, s1, ad1, n1, cap1, k2, s2, ad2, n2, cap2, ⟨c0, c1, c2⟩, ⟨c3, c4, c5⟩, hp, hq⟩ := h
    have hgz : g ≠ z := by
      rintro rfl
      rw [hz] at c0
      exact nd_kind (nd := p) hok.2.1 hp (by simpa using c0.symm)
    have c := fun o => World.cell?_of_block (w := W) (w' := W') (a := ⟨g, o, none⟩) (hs g hgz h6)
    exact ⟨h1, h2, h3, g, h4, h5, Nat.lt_of_lt_of_le h6 hh, k1, s1, ad1, n1, cap1, k2, s2, ad2, n2, cap2, ⟨(c 0).trans c0, (c 1).trans c1, (c 2).trans c2⟩, ⟨(c 3).trans c3, (c 4).trans c4, (c 5).trans c5⟩, NodeIs.but (nd := p) hz hs hh hok.2.1 hp, NodeIs.but (nd := q) hz hs hh hok.2.2 hq⟩
theorem Nd.set3 {W : World} {z : Nat} {nd : Node} {k : Int} {s : ByteArray} {ad : Option Addr} {n cap : Nat} (h : Nd W nd k s ad n cap) (hok : nd.ok) (hz : W.cell? ⟨z, 0, none⟩ = some (.int .u8 0)) (k' : Int) (s' : ByteArray) (ad' : Option Addr) (n' cap' : Nat) : Nd (set3 W z k' s' ad' n' cap') nd k s ad n cap :=
  NodeIs.but hz (fun _ hi _ => set3_block hi _ _ _ _ _) (Nat.le_of_eq (set3_size _ _ _ _ _ _ _).symm) hok h
theorem two_allocs (w : World) (a b : Obj) : Below w.heap.size w ((w.alloc a).alloc b) := ((Below.refl _ w).alloc (Nat.le_refl _) a).alloc (by simp) b
theorem var_two (w : World) (k : Int) (s : ByteArray) (ad : Option Addr) (n cap : Nat) : Var ((w.alloc (.cells #[.int .u8 k, .string s, .slice ad n cap] 52)).alloc (.cells #[.int .u8 0, .string ⟨#[]⟩, .slice none 0 0] 52)) w.heap.size k s ad n cap := (Var.new w _ _ _ _ _).grown (World.grownBy_alloc _ _ none) (by simp)
theorem var_zero (w : World) (o : Obj) : Var ((w.alloc o).alloc (.cells #[.int .u8 0, .string ⟨#[]⟩, .slice none 0 0] 52)) (w.heap.size + 1) 0 ⟨#[]⟩ none 0 0 := by
  have := Var.new (w.alloc o) 0 ⟨#[]⟩ none 0 0
  rw [World.size_alloc] at this
  exact this

set_option maxHeartbeats 2000000 in
theorem mtop_other (w : World) (k : Int) (s : ByteArray) (ad : Option Addr) (n cap : Nat) (h1 : (k == 59) = false) (h2 : (k == 124) = false) (h3 : (k == 123) = false) :
    Calls Tryd.prog 49 #[.agg #[.int .u8 k, .string s, .slice ad n cap]] w (MFits none w) := by
  obtain ⟨V, hV⟩ : ∃ V, V = (w.alloc (.cells #[.int .u8 k, .string s, .slice ad n cap] 52)).alloc (.cells #[.int .u8 0, .string ⟨#[]⟩, .slice none 0 0] 52) := ⟨_, rfl⟩
  have hA : Below w.heap.size w V := by rw [hV]; exact two_allocs w _ _
  have v1 : Var V w.heap.size k s ad n cap := by rw [hV]; exact var_two w _ _ _ _ _
  have v2 : Var V (w.heap.size + 1) 0 ⟨#[]⟩ none 0 0 := by rw [hV]; exact var_zero w _
  obtain ⟨x0, x1, x2, _⟩ := v1.cells
  obtain ⟨r0, r1, r2, rf⟩ := v2.cells
  go_enter Tryd.func49, Tryd.ntmps49
  go_wp2_with fail
  have vz := Var.new (w.alloc (.cells #[.int .u8 k, .string s, .slice ad n cap] 52)) k s ad n cap
  rw [World.size_alloc] at vz
  exact ret_topT vz rfl rfl rfl ⟨two_allocs w _ _, _, _, _, _, _, rfl, fun nd h => by cases h⟩

set_option maxHeartbeats 2000000 in
theorem mtop_seq (w : World) (s : ByteArray) (ad : Option Addr) (n cap : Nat) (r : Option Node)
    (hro : ∀ nd, r = some nd → nd.ok) (H : ∀ W, Below w.heap.size w W → Calls Tryd.prog 65 #[.agg #[.int .u8 59, .string s, .slice ad n cap]] W (MFits r W)) :
    Calls Tryd.prog 49 #[.agg #[.int .u8 59, .string s, .slice ad n cap]] w (MFits r w) := by
  obtain ⟨V, hV⟩ : ∃ V, V = (w.alloc (.cells #[.int .u8 59, .string s, .slice ad n cap] 52)).alloc (.cells #[.int .u8 0, .string ⟨#[]⟩, .slice none 0 0] 52) := ⟨_, rfl⟩
  have hA : Below w.heap.size w V := by rw [hV]; exact two_allocs w _ _
  have v1 : Var V w.heap.size 59 s ad n cap := by rw [hV]; exact var_two w _ _ _ _ _
  have v2 : Var V (w.heap.size + 1) 0 ⟨#[]⟩ none 0 0 := by rw [hV]; exact var_zero w _
  obtain ⟨x0, x1, x2, _⟩ := v1.cells
  obtain ⟨r0, r1, r2, rf⟩ := v2.cells
  have H0 := H V hA
  go_enter Tryd.func49, Tryd.ntmps49
  go_wp2_with fail
  rw [← hV]
  have HV := Lib.hid hV
  clear hV
  go_at_call 65
  refine H0.mono ?_
  rintro e W1 ⟨hb1, k1, s1, ad1, n1, cap1, rfl, hr⟩
  have v3 := v2.grown (below_grown hb1 none) (by simp)
  obtain ⟨q0, q1, q2, qf⟩ := v3.cells
  have hB := hA.trans (hb1.mono hA.size)
  go_wp2_with fail
  have hE : Below w.heap.size w (set3 W1 (w.heap.size + 1) k1 s1 ad1 n1 cap1) := below_of (set3_grown (below_grown hB (some (w.heap.size + 1))) (Nat.le_succ _) _ _ _ _ _) (Nat.le_succ _)
  refine ret_topT (set3_var (U := W1) v3 k1 s1 ad1 n1 cap1) rfl rfl rfl ⟨hE, _, _, _, _, _, rfl, fun nd h => ?_⟩
  exact (hr nd h).set3 (hro nd h) q0 _ _ _ _ _

set_option maxHeartbeats 2000000 in
theorem mtop_loop (w : World) (s : ByteArray) (ad : Option Addr) (n cap : Nat) (r : Option Node)
    (hro : ∀ nd, r = some nd → nd.ok) (H : ∀ W, Below w.heap.size w W → Calls Tryd.prog 66 #[.agg #[.int .u8 123, .string s, .slice ad n cap]] W (MFits r W)) :
    Calls Tryd.prog 49 #[.agg #[.int .u8 123, .string s, .slice ad n cap]] w (MFits r w) := by
  obtain ⟨V, hV⟩ : ∃ V, V = (w.alloc (.cells #[.int .u8 123, .string s, .slice ad n cap] 52)).alloc (.cells #[.int .u8 0, .string ⟨#[]⟩, .slice none 0 0] 52) := ⟨_, rfl⟩
  have hA : Below w.heap.size w V := by rw [hV]; exact two_allocs w _ _
  have v1 : Var V w.heap.size 123 s ad n cap := by rw [hV]; exact var_two w _ _ _ _ _
  have v2 : Var V (w.heap.size + 1) 0 ⟨#[]⟩ none 0 0 := by rw [hV]; exact var_zero w _
  obtain ⟨x0, x1, x2, _⟩ := v1.cells
  obtain ⟨r0, r1, r2, rf⟩ := v2.cells
  have H0 := H V hA
  go_enter Tryd.func49, Tryd.ntmps49
  go_wp2_with fail
  rw [← hV]
  have HV := Lib.hid hV
  clear hV
  go_at_call 66
  refine H0.mono ?_
  rintro e W1 ⟨hb1, k1, s1, ad1, n1, cap1, rfl, hr⟩
  have v3 := v2.grown (below_grown hb1 none) (by simp)
  obtain ⟨q0, q1, q2, qf⟩ := v3.cells
  have hB := hA.trans (hb1.mono hA.size)
  go_wp2_with fail
  have hE : Below w.heap.size w (set3 W1 (w.heap.size + 1) k1 s1 ad1 n1 cap1) := below_of (set3_grown (below_grown hB (some (w.heap.size + 1))) (Nat.le_succ _) _ _ _ _ _) (Nat.le_succ _)
  refine ret_topT (set3_var (U := W1) v3 k1 s1 ad1 n1 cap1) rfl rfl rfl ⟨hE, _, _, _, _, _, rfl, fun nd h => ?_⟩
  exact (hr nd h).set3 (hro nd h) q0 _ _ _ _ _

set_option maxHeartbeats 4000000 in
theorem mtop_choice_true (w : World) (a b : Node) (hoa : a.ok) (hob : b.ok) (la : a.text.length ≤ 1048576) (lb : b.text.length ≤ 1048576) (g cap : Nat) (hg : g < w.heap.size) (k1 : Int) (s1 : ByteArray) (ad1 : Option Addr) (n1 cap1 : Nat) (k2 : Int) (s2 : ByteArray) (ad2 : Option Addr) (n2 cap2 : Nat)
    (h6 : At6 w g (.int .u8 k1) (.string s1) (.slice ad1 n1 cap1) (.int .u8 k2) (.string s2) (.slice ad2 n2 cap2)) (na : Nd w a k1 s1 ad1 n1 cap1) (nb : Nd w b k2 s2 ad2 n2 cap2) (hbe : (a.text == b.text) = true) :
    Calls Tryd.prog 49 #[.agg #[.int .u8 124, .string ⟨#[]⟩, .slice (some ⟨g, 0, none⟩) 2 cap]] w (MFits (some a) w) := by
  obtain ⟨V, hV⟩ : ∃ V, V = (w.alloc (.cells #[.int .u8 124, .string ⟨#[]⟩, .slice (some ⟨g, 0, none⟩) 2 cap] 52)).alloc (.cells #[.int .u8 0, .string ⟨#[]⟩, .slice none 0 0] 52) := ⟨_, rfl⟩
  have hA : Below w.heap.size w V := by rw [hV]; exact two_allocs w _ _
  have v1 : Var V w.heap.size 124 ⟨#[]⟩ (some ⟨g, 0, none⟩) 2 cap := by rw [hV]; exact var_two w _ _ _ _ _
  have v2 : Var V (w.heap.size + 1) 0 ⟨#[]⟩ none 0 0 := by rw [hV]; exact var_zero w _
  obtain ⟨x0, x1, x2, _⟩ := v1.cells
  obtain ⟨r0, r1, r2, rf⟩ := v2.cells
  have at6 := h6.below hA hg
  have hgV : g < V.heap.size := Nat.lt_of_lt_of_le hg hA.size
  have HT1 := fun W (h : Below w.heap.size w W) => text43 a W 0 W.heap.size k1 s1 ad1 n1 cap1 (na.below h) (Nat.le_refl _) hoa la
  have HT2 := fun W (h : Below w.heap.size w W) => text43 b W 0 W.heap.size k2 s2 ad2 n2 cap2 (nb.below h) (Nat.le_refl _) hob lb
  have NA := Lib.hid na
  clear h6 na nb
  generalize a.text = l1 at HT1 hbe
  generalize b.text = l2 at HT2 hbe
  go_enter Tryd.func49, Tryd.ntmps49
  go_wp2_with fail
  rw [← hV]
  have HV := Lib.hid hV
  clear hV
  refine wp_region_held (S := fun w' => Var w' w.heap.size 124 ⟨#[]⟩ (some ⟨g, 0, none⟩) 2 cap ∧ At6 w' g (.int .u8 k1) (.string s1) (.slice ad1 n1 cap1) (.int .u8 k2) (.string s2) (.slice ad2 n2 cap2)) (by kernel_rfl) ?_
  have hS : (fun w' => Var w' w.heap.size 124 ⟨#[]⟩ (some ⟨g, 0, none⟩) 2 cap ∧ At6 w' g (.int .u8 k1) (.string s1) (.slice ad1 n1 cap1) (.int .u8 k2) (.string s2) (.slice ad2 n2 cap2)) V.drew := ⟨v1, at6⟩
  refine wpAnyH_take (i := 0) (v := .pointer (some ⟨w.heap.size, 2, none⟩)) rfl (by kernel_rfl) (by kernel_rfl) (by kernel_rfl) (fun _ _ _ h => h) (Or.inl ⟨by rfl, fun w hw => by go_simp⟩) hS ?_
  go_simp
  refine wpAnyH_take (i := 1) (v := .slice (some ⟨g, 0, none⟩) 2 cap) rfl (by kernel_rfl) (by kernel_rfl) (by kernel_rfl) (fun _ _ _ h => h) (Or.inl ⟨by rfl, fun w hw => by obtain ⟨hv, hs⟩ := hw; obtain ⟨l0, l1, l2, _⟩ := hv.cells; obtain ⟨⟨m0, m1, m2⟩, m3, m4, m5⟩ := hs; first | (go_simp; done) | rfl⟩) hS ?_
  go_simp
  refine wpAnyH_take (i := 2) (v := .pointer (some ⟨g, 0, none⟩)) rfl (by kernel_rfl) (by kernel_rfl) (by kernel_rfl) (fun _ _ _ h => h) (Or.inl ⟨by rfl, fun w hw => by go_simp⟩) hS ?_
  go_simp
  refine wpAnyH_take (i := 3) (v := .agg #[.int .u8 k1, .string s1, .slice ad1 n1 cap1]) rfl (by kernel_rfl) (by kernel_rfl) (by kernel_rfl) (fun _ _ _ h => h) (Or.inl ⟨by rfl, fun w hw => by obtain ⟨hv, hs⟩ := hw; obtain ⟨l0, l1, l2, _⟩ := hv.cells; obtain ⟨⟨m0, m1, m2⟩, m3, m4, m5⟩ := hs; first | (go_simp; done) | rfl⟩) hS ?_
  go_simp
  refine wpAnyH_take (i := 4) (v := .pointer (some ⟨w.heap.size, 2, none⟩)) rfl (by kernel_rfl) (by kernel_rfl) (by kernel_rfl) (fun _ _ _ h => h) (Or.inl ⟨by rfl, fun w hw => by go_simp⟩) hS ?_
  go_simp
  refine wpAnyH_take (i := 5) (v := .slice (some ⟨g, 0, none⟩) 2 cap) rfl (by kernel_rfl) (by kernel_rfl) (by kernel_rfl) (fun _ _ _ h => h) (Or.inl ⟨by rfl, fun w hw => by obtain ⟨hv, hs⟩ := hw; obtain ⟨l0, l1, l2, _⟩ := hv.cells; obtain ⟨⟨m0, m1, m2⟩, m3, m4, m5⟩ := hs; first | (go_simp; done) | rfl⟩) hS ?_
  go_simp
  refine wpAnyH_take (i := 6) (v := .pointer (some ⟨g, 0, none⟩)) rfl (by kernel_rfl) (by kernel_rfl) (by kernel_rfl) (fun _ _ _ h => h) (Or.inl ⟨by rfl, fun w hw => by go_simp⟩) hS ?_
  go_simp
  refine wpAnyH_take (i := 7) (v := .agg #[.int .u8 k1, .string s1, .slice ad1 n1 cap1]) rfl (by kernel_rfl) (by kernel_rfl) (by kernel_rfl) (fun _ _ _ h => h) (Or.inl ⟨by rfl, fun w hw => by obtain ⟨hv, hs⟩ := hw; obtain ⟨l0, l1, l2, _⟩ := hv.cells; obtain ⟨⟨m0, m1, m2⟩, m3, m4, m5⟩ := hs; first | (go_simp; done) | rfl⟩) hS ?_
  go_simp
  refine wpAnyH_take (i := 9) (v := .pointer (some ⟨w.heap.size, 2, none⟩)) rfl (by kernel_rfl) (by kernel_rfl) (by kernel_rfl) (fun _ _ _ h => h) (Or.inl ⟨by rfl, fun w hw => by go_simp⟩) hS ?_
  go_simp
  refine wpAnyH_take (i := 10) (v := .slice (some ⟨g, 0, none⟩) 2 cap) rfl (by kernel_rfl) (by kernel_rfl) (by kernel_rfl) (fun _ _ _ h => h) (Or.inl ⟨by rfl, fun w hw => by obtain ⟨hv, hs⟩ := hw; obtain ⟨l0, l1, l2, _⟩ := hv.cells; obtain ⟨⟨m0, m1, m2⟩, m3, m4, m5⟩ := hs; first | (go_simp; done) | rfl⟩) hS ?_
  go_simp
  refine wpAnyH_take (i := 11) (v := .pointer (some ⟨g, 3, none⟩)) rfl (by kernel_rfl) (by kernel_rfl) (by kernel_rfl) (fun _ _ _ h => h) (Or.inl ⟨by rfl, fun w hw => by go_simp⟩) hS ?_
  go_simp
  refine wpAnyH_take (i := 12) (v := .agg #[.int .u8 k2, .string s2, .slice ad2 n2 cap2]) rfl (by kernel_rfl) (by kernel_rfl) (by kernel_rfl) (fun _ _ _ h => h) (Or.inl ⟨by rfl, fun w hw => by obtain ⟨hv, hs⟩ := hw; obtain ⟨l0, l1, l2, _⟩ := hv.cells; obtain ⟨⟨m0, m1, m2⟩, m3, m4, m5⟩ := hs; first | (go_simp; done) | rfl⟩) hS ?_
  go_simp
  refine wpAnyH_ready (rs := [8]) (by kernel_rfl) (by simp) ?_
  refine AllReadyH.cons rfl (fun K hK => ?_) AllReadyH.nil
  go_simp
  go_wp2_with (go_at_call 47; refine (HT1 _ hA.drew).mono ?_; rintro e X1 ⟨rfl, x1b⟩)
  refine hK _ _ (⟨hS.1.grown (below_grown x1b none) (by simp), hS.2.below x1b hgV⟩) (fun hS1 => ?_)
  clear hK K
  go_simp
  have hB1 : Below w.heap.size w X1 := hA.drew.trans (x1b.mono hA.size)
  have u1 : Var X1 (w.heap.size + 1) 0 ⟨#[]⟩ none 0 0 := (x1b.block (w.heap.size + 1) v2.lt').trans v2
  have hg1 := Nat.lt_of_lt_of_le hgV x1b.size
  refine wpAnyH_ready (rs := [13]) (by kernel_rfl) (by simp) ?_
  refine AllReadyH.cons rfl (fun K hK => ?_) AllReadyH.nil
  go_simp
  go_wp2_with (go_at_call 47; refine (HT2 _ hB1).mono ?_; rintro e X2 ⟨rfl, x2b⟩)
  refine hK _ _ (⟨hS1.1.grown (below_grown x2b none) (by simp), hS1.2.below x2b hg1⟩) (fun hS2 => ?_)
  clear hK K
  go_simp
  have hB2 : Below w.heap.size w X2 := hB1.trans (x2b.mono hB1.size)
  have u2 : Var X2 (w.heap.size + 1) 0 ⟨#[]⟩ none 0 0 := (x2b.block (w.heap.size + 1) u1.lt').trans u1
  obtain ⟨y0, y1, y2, yf⟩ := u2.cells
  refine wpAnyH_take (i := 14) (v := .bool true) rfl (by kernel_rfl) (by kernel_rfl) (by kernel_rfl) (fun _ _ _ h => h) (Or.inl ⟨by rfl, fun w hw => by go_simp⟩) hS2 ?_
  go_simp
  refine wpAnyH_ready (rs := [15]) (by kernel_rfl) (by simp) ?_
  refine AllReadyH.cons rfl (fun K hK => ?_) AllReadyH.nil
  go_simp
  refine hK _ (set3 X2 (w.heap.size + 1) k1 s1 ad1 n1 cap1) ⟨?_, hS2.2.same (set3_block (by omega) _ _ _ _ _)⟩ (fun hS3 => ?_)
  · exact (set3_block (by omega) _ _ _ _ _).trans hS2.1
  clear hK K
  go_simp
  refine wpAnyH_take (i := 16) (v := .bool true) rfl (by kernel_rfl) (by kernel_rfl) (by kernel_rfl) (fun _ _ _ h => h) (Or.inl ⟨by rfl, fun w hw => by go_simp⟩) hS3 ?_
  go_simp
  refine wpAnyH_done (by kernel_rfl) ?_ _
  go_wp2_with fail
  have hE : Below w.heap.size w (set3 X2 (w.heap.size + 1) k1 s1 ad1 n1 cap1) := below_of (set3_grown (below_grown hB2 (some (w.heap.size + 1))) (Nat.le_succ _) _ _ _ _ _) (Nat.le_succ _)
  refine ret_topT (set3_var (U := X2) u2 k1 s1 ad1 n1 cap1) rfl rfl rfl ⟨hE, _, _, _, _, _, rfl, fun nd h => ?_⟩
  obtain rfl := Option.some.inj h
  exact NA.out.below hE

set_option maxHeartbeats 4000000 in
theorem mtop_choice_false (w : World) (a b : Node) (hoa : a.ok) (hob : b.ok) (la : a.text.length ≤ 1048576) (lb : b.text.length ≤ 1048576) (g cap : Nat) (hg : g < w.heap.size) (k1 : Int) (s1 : ByteArray) (ad1 : Option Addr) (n1 cap1 : Nat) (k2 : Int) (s2 : ByteArray) (ad2 : Option Addr) (n2 cap2 : Nat)
    (h6 : At6 w g (.int .u8 k1) (.string s1) (.slice ad1 n1 cap1) (.int .u8 k2) (.string s2) (.slice ad2 n2 cap2)) (na : Nd w a k1 s1 ad1 n1 cap1) (nb : Nd w b k2 s2 ad2 n2 cap2) (hbe : (a.text == b.text) = false) :
    Calls Tryd.prog 49 #[.agg #[.int .u8 124, .string ⟨#[]⟩, .slice (some ⟨g, 0, none⟩) 2 cap]] w (MFits (none) w) := by
  obtain ⟨V, hV⟩ : ∃ V, V = (w.alloc (.cells #[.int .u8 124, .string ⟨#[]⟩, .slice (some ⟨g, 0, none⟩) 2 cap] 52)).alloc (.cells #[.int .u8 0, .string ⟨#[]⟩, .slice none 0 0] 52) := ⟨_, rfl⟩
  have hA : Below w.heap.size w V := by rw [hV]; exact two_allocs w _ _
  have v1 : Var V w.heap.size 124 ⟨#[]⟩ (some ⟨g, 0, none⟩) 2 cap := by rw [hV]; exact var_two w _ _ _ _ _
  have v2 : Var V (w.heap.size + 1) 0 ⟨#[]⟩ none 0 0 := by rw [hV]; exact var_zero w _
  obtain ⟨x0, x1, x2, _⟩ := v1.cells
  obtain ⟨r0, r1, r2, rf⟩ := v2.cells
  have at6 := h6.below hA hg
  have hgV : g < V.heap.size := Nat.lt_of_lt_of_le hg hA.size
  have HT1 := fun W (h : Below w.heap.size w W) => text43 a W 0 W.heap.size k1 s1 ad1 n1 cap1 (na.below h) (Nat.le_refl _) hoa la
  have HT2 := fun W (h : Below w.heap.size w W) => text43 b W 0 W.heap.size k2 s2 ad2 n2 cap2 (nb.below h) (Nat.le_refl _) hob lb
  have NA := Lib.hid na
  clear h6 na nb
  generalize a.text = l1 at HT1 hbe
  generalize b.text = l2 at HT2 hbe
  go_enter Tryd.func49, Tryd.ntmps49
  go_wp2_with fail
  rw [← hV]
  have HV := Lib.hid hV
  clear hV
  refine wp_region_held (S := fun w' => Var w' w.heap.size 124 ⟨#[]⟩ (some ⟨g, 0, none⟩) 2 cap ∧ At6 w' g (.int .u8 k1) (.string s1) (.slice ad1 n1 cap1) (.int .u8 k2) (.string s2) (.slice ad2 n2 cap2)) (by kernel_rfl) ?_
  have hS : (fun w' => Var w' w.heap.size 124 ⟨#[]⟩ (some ⟨g, 0, none⟩) 2 cap ∧ At6 w' g (.int .u8 k1) (.string s1) (.slice ad1 n1 cap1) (.int .u8 k2) (.string s2) (.slice ad2 n2 cap2)) V.drew := ⟨v1, at6⟩
  refine wpAnyH_take (i := 0) (v := .pointer (some ⟨w.heap.size, 2, none⟩)) rfl (by kernel_rfl) (by kernel_rfl) (by kernel_rfl) (fun _ _ _ h => h) (Or.inl ⟨by rfl, fun w hw => by go_simp⟩) hS ?_
  go_simp
  refine wpAnyH_take (i := 1) (v := .slice (some ⟨g, 0, none⟩) 2 cap) rfl (by kernel_rfl) (by kernel_rfl) (by kernel_rfl) (fun _ _ _ h => h) (Or.inl ⟨by rfl, fun w hw => by obtain ⟨hv, hs⟩ := hw; obtain ⟨l0, l1, l2, _⟩ := hv.cells; obtain ⟨⟨m0, m1, m2⟩, m3, m4, m5⟩ := hs; first | (go_simp; done) | rfl⟩) hS ?_
  go_simp
  refine wpAnyH_take (i := 2) (v := .pointer (some ⟨g, 0, none⟩)) rfl (by kernel_rfl) (by kernel_rfl) (by kernel_rfl) (fun _ _ _ h => h) (Or.inl ⟨by rfl, fun w hw => by go_simp⟩) hS ?_
  go_simp
  refine wpAnyH_take (i := 3) (v := .agg #[.int .u8 k1, .string s1, .slice ad1 n1 cap1]) rfl (by kernel_rfl) (by kernel_rfl) (by kernel_rfl) (fun _ _ _ h => h) (Or.inl ⟨by rfl, fun w hw => by obtain ⟨hv, hs⟩ := hw; obtain ⟨l0, l1, l2, _⟩ := hv.cells; obtain ⟨⟨m0, m1, m2⟩, m3, m4, m5⟩ := hs; first | (go_simp; done) | rfl⟩) hS ?_
  go_simp
  refine wpAnyH_take (i := 4) (v := .pointer (some ⟨w.heap.size, 2, none⟩)) rfl (by kernel_rfl) (by kernel_rfl) (by kernel_rfl) (fun _ _ _ h => h) (Or.inl ⟨by rfl, fun w hw => by go_simp⟩) hS ?_
  go_simp
  refine wpAnyH_take (i := 5) (v := .slice (some ⟨g, 0, none⟩) 2 cap) rfl (by kernel_rfl) (by kernel_rfl) (by kernel_rfl) (fun _ _ _ h => h) (Or.inl ⟨by rfl, fun w hw => by obtain ⟨hv, hs⟩ := hw; obtain ⟨l0, l1, l2, _⟩ := hv.cells; obtain ⟨⟨m0, m1, m2⟩, m3, m4, m5⟩ := hs; first | (go_simp; done) | rfl⟩) hS ?_
  go_simp
  refine wpAnyH_take (i := 6) (v := .pointer (some ⟨g, 0, none⟩)) rfl (by kernel_rfl) (by kernel_rfl) (by kernel_rfl) (fun _ _ _ h => h) (Or.inl ⟨by rfl, fun w hw => by go_simp⟩) hS ?_
  go_simp
  refine wpAnyH_take (i := 7) (v := .agg #[.int .u8 k1, .string s1, .slice ad1 n1 cap1]) rfl (by kernel_rfl) (by kernel_rfl) (by kernel_rfl) (fun _ _ _ h => h) (Or.inl ⟨by rfl, fun w hw => by obtain ⟨hv, hs⟩ := hw; obtain ⟨l0, l1, l2, _⟩ := hv.cells; obtain ⟨⟨m0, m1, m2⟩, m3, m4, m5⟩ := hs; first | (go_simp; done) | rfl⟩) hS ?_
  go_simp
  refine wpAnyH_take (i := 9) (v := .pointer (some ⟨w.heap.size, 2, none⟩)) rfl (by kernel_rfl) (by kernel_rfl) (by kernel_rfl) (fun _ _ _ h => h) (Or.inl ⟨by rfl, fun w hw => by go_simp⟩) hS ?_
  go_simp
  refine wpAnyH_take (i := 10) (v := .slice (some ⟨g, 0, none⟩) 2 cap) rfl (by kernel_rfl) (by kernel_rfl) (by kernel_rfl) (fun _ _ _ h => h) (Or.inl ⟨by rfl, fun w hw => by obtain ⟨hv, hs⟩ := hw; obtain ⟨l0, l1, l2, _⟩ := hv.cells; obtain ⟨⟨m0, m1, m2⟩, m3, m4, m5⟩ := hs; first | (go_simp; done) | rfl⟩) hS ?_
  go_simp
  refine wpAnyH_take (i := 11) (v := .pointer (some ⟨g, 3, none⟩)) rfl (by kernel_rfl) (by kernel_rfl) (by kernel_rfl) (fun _ _ _ h => h) (Or.inl ⟨by rfl, fun w hw => by go_simp⟩) hS ?_
  go_simp
  refine wpAnyH_take (i := 12) (v := .agg #[.int .u8 k2, .string s2, .slice ad2 n2 cap2]) rfl (by kernel_rfl) (by kernel_rfl) (by kernel_rfl) (fun _ _ _ h => h) (Or.inl ⟨by rfl, fun w hw => by obtain ⟨hv, hs⟩ := hw; obtain ⟨l0, l1, l2, _⟩ := hv.cells; obtain ⟨⟨m0, m1, m2⟩, m3, m4, m5⟩ := hs; first | (go_simp; done) | rfl⟩) hS ?_
  go_simp
  refine wpAnyH_ready (rs := [8]) (by kernel_rfl) (by simp) ?_
  refine AllReadyH.cons rfl (fun K hK => ?_) AllReadyH.nil
  go_simp
  go_wp2_with (go_at_call 47; refine (HT1 _ hA.drew).mono ?_; rintro e X1 ⟨rfl, x1b⟩)
  refine hK _ _ (⟨hS.1.grown (below_grown x1b none) (by simp), hS.2.below x1b hgV⟩) (fun hS1 => ?_)
  clear hK K
  go_simp
  have hB1 : Below w.heap.size w X1 := hA.drew.trans (x1b.mono hA.size)
  have u1 : Var X1 (w.heap.size + 1) 0 ⟨#[]⟩ none 0 0 := (x1b.block (w.heap.size + 1) v2.lt').trans v2
  have hg1 := Nat.lt_of_lt_of_le hgV x1b.size
  refine wpAnyH_ready (rs := [13]) (by kernel_rfl) (by simp) ?_
  refine AllReadyH.cons rfl (fun K hK => ?_) AllReadyH.nil
  go_simp
  go_wp2_with (go_at_call 47; refine (HT2 _ hB1).mono ?_; rintro e X2 ⟨rfl, x2b⟩)
  refine hK _ _ (⟨hS1.1.grown (below_grown x2b none) (by simp), hS1.2.below x2b hg1⟩) (fun hS2 => ?_)
  clear hK K
  go_simp
  have hB2 : Below w.heap.size w X2 := hB1.trans (x2b.mono hB1.size)
  have u2 : Var X2 (w.heap.size + 1) 0 ⟨#[]⟩ none 0 0 := (x2b.block (w.heap.size + 1) u1.lt').trans u1
  obtain ⟨y0, y1, y2, yf⟩ := u2.cells
  refine wpAnyH_take (i := 14) (v := .bool false) rfl (by kernel_rfl) (by kernel_rfl) (by kernel_rfl) (fun _ _ _ h => h) (Or.inl ⟨by rfl, fun w hw => by go_simp⟩) hS2 ?_
  go_simp
  refine wpAnyH_ready (rs := [15]) (by kernel_rfl) (by simp) ?_
  refine AllReadyH.cons rfl (fun K hK => ?_) AllReadyH.nil
  go_simp
  refine hK _ (set3 X2 (w.heap.size + 1) k1 s1 ad1 n1 cap1) ⟨?_, hS2.2.same (set3_block (by omega) _ _ _ _ _)⟩ (fun hS3 => ?_)
  · exact (set3_block (by omega) _ _ _ _ _).trans hS2.1
  clear hK K
  go_simp
  refine wpAnyH_take (i := 16) (v := .bool false) rfl (by kernel_rfl) (by kernel_rfl) (by kernel_rfl) (fun _ _ _ h => h) (Or.inl ⟨by rfl, fun w hw => by go_simp⟩) hS3 ?_
  go_simp
  refine wpAnyH_done (by kernel_rfl) ?_ _
  go_wp2_with fail
  have hE : Below w.heap.size w (set3 X2 (w.heap.size + 1) k1 s1 ad1 n1 cap1) := below_of (set3_grown (below_grown hB2 (some (w.heap.size + 1))) (Nat.le_succ _) _ _ _ _ _) (Nat.le_succ _)
  refine ret_topT (set3_var (U := X2) u2 k1 s1 ad1 n1 cap1) rfl rfl rfl ⟨hE, _, _, _, _, _, rfl, fun nd h => ?_⟩
  cases h

theorem mtop (nd : Node) (hok : nd.ok) (hl : nd.text.length ≤ 1048576) (w : World) (k : Int) (s : ByteArray) (ad : Option Addr) (n cap : Nat) (h : Nd w nd k s ad n cap) :
    Calls Tryd.prog 49 #[.agg #[.int .u8 k, .string s, .slice ad n cap]] w (MFits (topN nd) w) := by
  cases nd with
  | atom a =>
    obtain ⟨rfl, rfl, rfl⟩ := h
    exact mtop_other w _ _ _ _ _ rfl rfl rfl
  | loop p =>
    obtain ⟨rfl, rfl, rfl, g, rfl, _, hg, k1, s1, ad1, n1, cap1, c0, c1, c2, hp⟩ := h
    refine mtop_loop w _ _ _ _ (topN (.loop p)) (fun nd h => top_ok h hok) (fun W hb => ?_)
    refine (mloop11 p hok ⟨#[]⟩ g cap W k1 s1 n1 ad1 cap1 ⟨Nat.lt_of_lt_of_le hg hb.size, (hb.cell (p := ⟨g, 0, none⟩) hg).trans c0, (hb.cell (p := ⟨g, 1, none⟩) hg).trans c1, (hb.cell (p := ⟨g, 2, none⟩) hg).trans c2, Nd.below hp hb⟩)
  | pair k0 a b =>
    have ha := hok.2.1
    have hb := hok.2.2
    have la : a.text.length ≤ 1048576 := by simp [Node.text] at hl; omega
    have lb : b.text.length ≤ 1048576 := by simp [Node.text] at hl; omega
    obtain ⟨rfl, rfl, rfl, g, rfl, hg, k1, s1, ad1, n1, cap1, k2, s2, ad2, n2, cap2, h6, na, nb⟩ := nd_choice h
    obtain ⟨rfl | rfl, _, _⟩ := id hok
    · refine mtop_seq w _ _ _ _ (topN (.pair 59 a b)) (fun nd h => top_ok h hok) (fun W hw => ?_)
      obtain ⟨⟨c0, c1, c2⟩, c3, c4, c5⟩ := h6.below hw hg
      exact mseq a b ha hb la lb ⟨#[]⟩ g cap W k1 s1 ad1 n1 cap1 k2 s2 ad2 n2 cap2 ⟨Nat.lt_of_lt_of_le hg hw.size, c0, c1, c2, c3, c4, c5, na.below hw, nb.below hw⟩
    · show Calls _ _ _ _ (MFits (if a.text = b.text then some a else none) w)
      cases hbe : (a.text == b.text) with
      | true =>
        rw [if_pos (eq_of_beq hbe)]
        exact mtop_choice_true w a b ha hb la lb g cap hg k1 s1 ad1 n1 cap1 k2 s2 ad2 n2 cap2 h6 na nb hbe
      | false =>
        rw [if_neg (fun e => by rw [e, beq_self_eq_true] at hbe; cases hbe)]
        exact mtop_choice_false w a b ha hb la lb g cap hg k1 s1 ad1 n1 cap1 k2 s2 ad2 n2 cap2 h6 na nb hbe
end Go.Proofs.YtgkgkaapjljpcaaDoor

