/- The model's reader of programs: one program, by its first byte. -/
import Derived.Test.YtemilnkglkpnjaaDoorQ1
namespace Go.Proofs.YtemilnkglkpnjaaDoor
open Go.ChangeShapes Go.WideShapes Go.ChangeAt Go.RowKit Go.Shelf
attribute [local go_sem] Oper.semAt_some
set_option maxRecDepth 100000

theorem ext_cons {t : ByteArray} {i : Nat} {c : UInt8} {r : List UInt8} (h : t.toList.drop i = c :: r) : t.extract i (i + 1) = ⟨#[c]⟩ ∧ i + 1 ≤ t.size ∧ t.toList.drop (i + 1) = r := by
  have hl : t.toList.length = t.size := by rw [Lib.toList_data, Array.length_toList]; rfl
  have h1 : i < t.toList.length := by
    rcases Nat.lt_or_ge i t.toList.length with h1 | h1
    · exact h1
    · rw [List.drop_eq_nil_iff.2 h1] at h; cases h
  have h2 : (t.extract i (i + 1)).data.toList = [c] := by
    rw [Lib.extract_data, ← Lib.toList_data, h]; simp
  refine ⟨?_, by omega, by rw [← List.drop_drop, h]; rfl⟩
  generalize t.extract i (i + 1) = x at h2
  obtain ⟨⟨l⟩⟩ := x
  simp at h2
  subst h2
  rfl
theorem ext_nil {t : ByteArray} {i : Nat} (hi : i ≤ t.size) (h : t.toList.drop i = []) : t.size < i + 1 := by
  have hl : t.toList.length = t.size := by rw [Lib.toList_data, Array.length_toList]; rfl
  have := List.drop_eq_nil_iff.1 h
  omega

/-- The blocks from lo up to hi are the same in both worlds. -/
def Same (lo hi : Nat) (W W' : World) : Prop := ∀ i, lo ≤ i → i < hi → W'.heap[i]? = W.heap[i]?
/-- The fields of a value are those of a program, laid in blocks from lo up to hi. -/
def NodeIs (W : World) (lo hi : Nat) : Node → Int → ByteArray → Option Addr → Nat → Nat → Prop
  | .atom a, k, s, _, n, _ => k = 97 ∧ s = ⟨a.toArray⟩ ∧ n = 0
  | .loop p, k, s, ad, n, _ => k = 123 ∧ s = ⟨#[]⟩ ∧ n = 1 ∧ ∃ g, ad = some ⟨g, 0, none⟩ ∧ lo ≤ g ∧ g < hi ∧ ∃ k1 s1 ad1 n1 cap1,
      W.cell? ⟨g, 0, none⟩ = some (.int .u8 k1) ∧ W.cell? ⟨g, 1, none⟩ = some (.string s1) ∧ W.cell? ⟨g, 2, none⟩ = some (.slice ad1 n1 cap1) ∧ NodeIs W lo hi p k1 s1 ad1 n1 cap1
  | .pair k0 p q, k, s, ad, n, _ => k = (k0.toNat : Int) ∧ s = ⟨#[]⟩ ∧ n = 2 ∧ ∃ g, ad = some ⟨g, 0, none⟩ ∧ lo ≤ g ∧ g < hi ∧ ∃ k1 s1 ad1 n1 cap1 k2 s2 ad2 n2 cap2,
      (W.cell? ⟨g, 0, none⟩ = some (.int .u8 k1) ∧ W.cell? ⟨g, 1, none⟩ = some (.string s1) ∧ W.cell? ⟨g, 2, none⟩ = some (.slice ad1 n1 cap1)) ∧
      (W.cell? ⟨g, 3, none⟩ = some (.int .u8 k2) ∧ W.cell? ⟨g, 4, none⟩ = some (.string s2) ∧ W.cell? ⟨g, 5, none⟩ = some (.slice ad2 n2 cap2)) ∧
      NodeIs W lo hi p k1 s1 ad1 n1 cap1 ∧ NodeIs W lo hi q k2 s2 ad2 n2 cap2
theorem cell_same {W W' : World} {lo hi g : Nat} (h : Same lo hi W W') (h1 : lo ≤ g) (h2 : g < hi) (o : Nat) : W'.cell? ⟨g, o, none⟩ = W.cell? ⟨g, o, none⟩ :=
  World.cell?_of_block (w := W) (w' := W') (a := ⟨g, o, none⟩) (h g h1 h2)
theorem NodeIs.same {W W' : World} {lo hi : Nat} (hs : Same lo hi W W') : ∀ {nd : Node} {k : Int} {s : ByteArray} {ad : Option Addr} {n cap : Nat}, NodeIs W lo hi nd k s ad n cap → NodeIs W' lo hi nd k s ad n cap
  | .atom _, _, _, _, _, _, h => h
  | .loop p, _, _, _, _, _, h => by
    obtain ⟨h1, h2, h3, g, h4, h5, h6, k1, s1, ad1, n1, cap1, c0, c1, c2, hp⟩ := h
    exact ⟨h1, h2, h3, g, h4, h5, h6, k1, s1, ad1, n1, cap1, (cell_same hs h5 h6 0).trans c0, (cell_same hs h5 h6 1).trans c1, (cell_same hs h5 h6 2).trans c2, NodeIs.same hs hp⟩
  | .pair _ p q, _, _, _, _, _, h => by
    obtain ⟨h1, h2, h3, g, h4, h5, h6, k1, s1, ad1, n1, cap1, k2, s2, ad2, n2, cap2, ⟨c0, c1, c2⟩, ⟨c3, c4, c5⟩, hp, hq⟩ := h
    exact ⟨h1, h2, h3, g, h4, h5, h6, k1, s1, ad1, n1, cap1, k2, s2, ad2, n2, cap2, ⟨(cell_same hs h5 h6 0).trans c0, (cell_same hs h5 h6 1).trans c1, (cell_same hs h5 h6 2).trans c2⟩,
      ⟨(cell_same hs h5 h6 3).trans c3, (cell_same hs h5 h6 4).trans c4, (cell_same hs h5 h6 5).trans c5⟩, NodeIs.same hs hp, NodeIs.same hs hq⟩
theorem NodeIs.wide {W : World} {lo hi lo' hi' : Nat} (h1 : lo' ≤ lo) (h2 : hi ≤ hi') : ∀ {nd : Node} {k : Int} {s : ByteArray} {ad : Option Addr} {n cap : Nat}, NodeIs W lo hi nd k s ad n cap → NodeIs W lo' hi' nd k s ad n cap
  | .atom _, _, _, _, _, _, h => h
  | .loop p, _, _, _, _, _, h => by
    obtain ⟨a1, a2, a3, g, a4, a5, a6, k1, s1, ad1, n1, cap1, c0, c1, c2, hp⟩ := h
    exact ⟨a1, a2, a3, g, a4, Nat.le_trans h1 a5, Nat.lt_of_lt_of_le a6 h2, k1, s1, ad1, n1, cap1, c0, c1, c2, NodeIs.wide h1 h2 hp⟩
  | .pair _ p q, _, _, _, _, _, h => by
    obtain ⟨a1, a2, a3, g, a4, a5, a6, k1, s1, ad1, n1, cap1, k2, s2, ad2, n2, cap2, c, d, hp, hq⟩ := h
    exact ⟨a1, a2, a3, g, a4, Nat.le_trans h1 a5, Nat.lt_of_lt_of_le a6 h2, k1, s1, ad1, n1, cap1, k2, s2, ad2, n2, cap2, c, d, NodeIs.wide h1 h2 hp, NodeIs.wide h1 h2 hq⟩

/-- What reading one program leaves (n: a bound on what is left to be read). -/
def ReadTo (t : ByteArray) (rb n i : Nat) (W : World) (e : Ending) (W' : World) : Prop :=
  ∃ k s ad m cap, e = .returned (.agg #[.int .u8 k, .string s, .slice ad m cap]) ∧ W.grownBy W' (some rb) ∧
    (match rd n (t.toList.drop i) with
      | some (nd, r) => ∃ j, j ≤ t.size ∧ t.toList.drop j = r ∧ Rdr W' rb t j false ∧ NodeIs W' W.heap.size W'.heap.size nd k s ad m cap
      | none => ∃ j, j ≤ t.size ∧ Rdr W' rb t j true)

theorem Rdr.grown {W W' : World} {rb : Nat} {t : ByteArray} {i : Nat} {b : Bool} {row : Option Nat} (h : Rdr W rb t i b) (hg : W.grownBy W' row) (hne : some rb ≠ row) : Rdr W' rb t i b := by
  unfold Rdr at *
  rw [hg.block rb (Array.getElem?_eq_some_iff.1 h).1 hne]
  exact h
theorem take1 {t : ByteArray} (ht : t.size ≤ 9000000) {rb i : Nat} {b : Bool} {c : UInt8} {r : List UInt8} (hl : t.toList.drop i = c :: r) {W : World} (h : Rdr W rb t i b) :
    Calls Tryd.prog 86 #[.pointer (some ⟨rb, 0, none⟩), .int .i64 1] W fun e W' => e = .returned (.string ⟨#[c]⟩) ∧ Rdr W' rb t (i + 1) b ∧ W.grownBy W' (some rb) := by
  obtain ⟨hx, hi, _⟩ := ext_cons hl
  have := take_ok t ht rb i 1 b (by omega) hi W h
  rw [hx] at this
  exact this
theorem take1_nil {t : ByteArray} (ht : t.size ≤ 9000000) {rb i : Nat} {b : Bool} (hi : i ≤ t.size) (hl : t.toList.drop i = []) {W : World} (h : Rdr W rb t i b) :
    Calls Tryd.prog 86 #[.pointer (some ⟨rb, 0, none⟩), .int .i64 1] W fun e W' => e = .returned (.string ⟨#[]⟩) ∧ Rdr W' rb t i true ∧ W.grownBy W' (some rb) :=
  take_bad t ht rb i 1 b (by omega) hi (ext_nil hi hl) W h

/-- A program's variable at block g: its three cells. -/
def Var (W : World) (g : Nat) (k : Int) (s : ByteArray) (ad : Option Addr) (m cap : Nat) : Prop := W.heap[g]? = some (.cells #[.int .u8 k, .string s, .slice ad m cap] 55 (0, 0))
theorem Var.cells {W : World} {g : Nat} {k : Int} {s : ByteArray} {ad : Option Addr} {m cap : Nat} (h : Var W g k s ad m cap) :
    W.cell? ⟨g, 0, none⟩ = some (.int .u8 k) ∧ W.cell? ⟨g, 1, none⟩ = some (.string s) ∧ W.cell? ⟨g, 2, none⟩ = some (.slice ad m cap) ∧ W.frozen? ⟨g, 0, none⟩ = false ∧ W.frozen? ⟨g, 1, none⟩ = false ∧ W.frozen? ⟨g, 2, none⟩ = false := by
  unfold Var at h
  exact ⟨by simp [World.cell?, h], by simp [World.cell?, h], by simp [World.cell?, h], by simp [World.frozen?, h], by simp [World.frozen?, h], by simp [World.frozen?, h]⟩
theorem Var.grown {W W' : World} {g : Nat} {k : Int} {s : ByteArray} {ad : Option Addr} {m cap : Nat} {row : Option Nat} (h : Var W g k s ad m cap) (hg : W.grownBy W' row) (hne : some g ≠ row) : Var W' g k s ad m cap := by
  unfold Var at *
  rw [hg.block g (Array.getElem?_eq_some_iff.1 h).1 hne]
  exact h
theorem Var.new (W : World) (k : Int) (s : ByteArray) (ad : Option Addr) (m cap : Nat) : Var (W.alloc (.cells #[.int .u8 k, .string s, .slice ad m cap] 55)) W.heap.size k s ad m cap := heap_alloc_new W _

/-- The three stores by which a program's variable is written. -/
def set3 (U : World) (g : Nat) (k : Int) (s : ByteArray) (ad : Option Addr) (m cap : Nat) : World :=
  ((U.setCell ⟨g, 0, none⟩ (.int .u8 k)).setCell ⟨g, 1, none⟩ (.string s)).setCell ⟨g, 2, none⟩ (.slice ad m cap)
theorem set3_var {U : World} {g : Nat} {k0 : Int} {s0 : ByteArray} {ad0 : Option Addr} {m0 cap0 : Nat} (h : Var U g k0 s0 ad0 m0 cap0) (k : Int) (s : ByteArray) (ad : Option Addr) (m cap : Nat) : Var (set3 U g k s ad m cap) g k s ad m cap := by
  unfold Var set3 at *
  have h1 := heap_setCell_same U g 0 _ 55 (.int .u8 k) h
  have h2 := heap_setCell_same _ g 1 _ 55 (.string s) h1
  have h3 := heap_setCell_same _ g 2 _ 55 (.slice ad m cap) h2
  rw [h3]
  rfl
theorem set3_grown {W U : World} {g : Nat} {row : Option Nat} (hW : W.grownBy U row) (hg : W.heap.size ≤ g) (k : Int) (s : ByteArray) (ad : Option Addr) (m cap : Nat) : W.grownBy (set3 U g k s ad m cap) row := by
  unfold set3
  refine ⟨hW.os, hW.tape, hW.output, ?_, fun b hb hr => ?_⟩
  · simp; exact hW.size
  · rw [heap_setCell_other _ _ b _ (by simp; omega), heap_setCell_other _ _ b _ (by simp; omega), heap_setCell_other _ _ b _ (by simp; omega)]
    exact hW.block b hb hr
theorem set3_block {U : World} {g b : Nat} (hb : b ≠ g) (k : Int) (s : ByteArray) (ad : Option Addr) (m cap : Nat) : (set3 U g k s ad m cap).heap[b]? = U.heap[b]? := by
  unfold set3
  rw [heap_setCell_other _ _ b _ (by simpa using hb), heap_setCell_other _ _ b _ (by simpa using hb), heap_setCell_other _ _ b _ (by simpa using hb)]
theorem set3_size (U : World) (g : Nat) (k : Int) (s : ByteArray) (ad : Option Addr) (m cap : Nat) : (set3 U g k s ad m cap).heap.size = U.heap.size := by unfold set3; simp
theorem set3_rdr {U : World} {g rb i : Nat} {t : ByteArray} {b : Bool} (h : Rdr U rb t i b) (hb : rb ≠ g) (k : Int) (s : ByteArray) (ad : Option Addr) (m cap : Nat) : Rdr (set3 U g k s ad m cap) rb t i b := by
  unfold Rdr at *
  rw [set3_block hb]
  exact h

theorem grown_alloc {W U : World} {row : Option Nat} (h : W.grownBy U row) (o : Obj) : W.grownBy (U.alloc o) row := by
  have := World.grownBy_alloc U o none
  exact ⟨this.os.trans h.os, this.tape.trans h.tape, this.output.trans h.output, Nat.le_trans h.size this.size, fun b hb hr => (this.block b (Nat.lt_of_lt_of_le hb h.size) (by simp)).trans (h.block b hb hr)⟩

theorem ret_node {Z : World} {a : Act} {k : Int} {s : ByteArray} {ad : Option Addr} {m cap g : Nat} {R : Ending → World → Prop} (hv : Var Z g k s ad m cap) (ha : a.tmps[2]?.getD undef = .pointer (some ⟨g, 0, none⟩)) (hdf : a.defers = [])
    (h : R (.returned (.agg #[.int .u8 k, .string s, .slice ad m cap])) Z) : bodyPost Tryd.prog Tryd.f75 R Exit.ret a Z := by
  obtain ⟨c0, c1, c2, _⟩ := hv.cells
  refine bodyPost_ret (v := .agg #[.int .u8 k, .string s, .slice ad m cap]) ?_ hdf h
  simp [results, Tryd.results75, go_sem, ha, c0, c1, c2]

set_option maxHeartbeats 1000000 in
theorem node_dot (t : ByteArray) (ht : t.size ≤ 9000000) (rb n i : Nat) (W : World) (hr : Rdr W rb t i false) {c : UInt8} {r : List UInt8} (hl : t.toList.drop i = c :: r) (hc : c = 46 ∨ c = 33) :
    Calls Tryd.prog 75 #[.pointer (some ⟨rb, 0, none⟩)] W (ReadTo t rb (n + 1) i W) := by
  obtain ⟨hx, hi, hd⟩ := ext_cons hl
  have hlt := hr.lt
  have hrd : rd (n + 1) (t.toList.drop i) = some (.atom [c], r) := by rw [hl, rd.eq_def]; dsimp only; rw [if_pos hc]
  have HRD := Lib.hid hrd
  clear hrd
  rcases hc with rfl | rfl <;>
  · go_enter Tryd.func75, Tryd.ntmps75
    go_wp2_with fail
    go_at_call 86
    refine (take1 ht hl (hr.grown (World.grownBy_alloc W _ none) (by simp))).mono ?_
    rintro e W1 ⟨rfl, hr1, hg1⟩
    have hv := (Var.new W 0 ⟨#[]⟩ none 0 0).grown hg1 (by simp; omega)
    obtain ⟨c0, c1, c2, f1, f2⟩ := hr1.cells
    have hva := hv.grown (World.grownBy_alloc W1 (.cells #[] 55) none) (by simp)
    obtain ⟨x0, x1, x2, y0, y1, y2⟩ := hva.cells
    have hG := grown_alloc (grown_trans (World.grownBy_alloc W _ (some rb)) hg1) (.cells #[] 55)
    have hR := hr1.grown (World.grownBy_alloc W1 (.cells #[] 55) none) (by simp)
    go_wp2_with fail
    refine ret_node (set3_var hva _ _ _ _ _) rfl rfl ?_
    refine ⟨_, _, _, _, _, rfl, set3_grown hG (Nat.le_refl _) _ _ _ _ _, ?_⟩
    rw [HRD.out]
    exact ⟨i + 1, hi, hd, set3_rdr hR (by omega) _ _ _ _ _, rfl, rfl, rfl⟩
end Go.Proofs.YtemilnkglkpnjaaDoor

