/- Chapter 11, the model: programs made simpler (wip/tools/mkZV.py). -/
import Derived.Test.YtgkgkaapjljpcaaDoorZDy
import Derived.Test.YtgkgkaapjljpcaaDoorZDk
import Derived.Maps.AppendAt
namespace Go.Proofs.YtgkgkaapjljpcaaDoor
open Go.ChangeShapes Go.WideShapes Go.ChangeAt Go.RowKit Go.Shelf
attribute [local go_sem] Oper.semAt_some
set_option maxRecDepth 100000

theorem ok_atom_len {a : List UInt8} (h : (Node.atom a).ok) : a.length ≤ 5 := by
  rcases h with rfl | rfl | h | ⟨t, ht, rfl⟩
  · decide
  · decide
  · obtain ⟨c, d, rfl, _⟩ := twos_shape h; simp
  · obtain ⟨x, y, z, rfl⟩ := test_three ht; simp
theorem infoNode : (Tryd.prog.info? 52).map (fun i => (i.zero, i.size, i.bytes)) = some (some (.agg #[.int .u8 0, .string ⟨#[]⟩, .slice none 0 0]), 3, 48) := by kernel_rfl
/-- What making simpler leaves: a program of new blocks alone. -/
def MRes (o : Node) (k : Nat) (W : World) (e : Ending) (W' : World) : Prop := Below W.heap.size W W' ∧ ∃ k1 s1 ad1 n1 cap1, e = .returned (.tuple #[.agg #[.int .u8 k1, .string s1, .slice ad1 n1 cap1], .int .i64 (k : Int)]) ∧ NodeIs W' W.heap.size W'.heap.size o k1 s1 ad1 n1 cap1
def MSim (nd o : Node) (k : Nat) : Prop := ∀ (W : World) k1 s1 ad1 n1 cap1, Nd W nd k1 s1 ad1 n1 cap1 → Calls Tryd.prog 46 #[.agg #[.int .u8 k1, .string s1, .slice ad1 n1 cap1]] W (MRes o k W)
theorem ret_simM {Z : World} {a : Act} {k : Int} {s : ByteArray} {ad : Option Addr} {m cap g : Nat} {c : Int} {R : Ending → World → Prop} (hv : Var Z g k s ad m cap) (ha : a.tmps[2]?.getD undef = .pointer (some ⟨g, 0, none⟩)) (hb : a.tmps[3]?.getD undef = .int .i64 c) (hdf : a.defers = [])
    (h : R (.returned (.tuple #[.agg #[.int .u8 k, .string s, .slice ad m cap], .int .i64 c])) Z) : bodyPost Tryd.prog Tryd.f46 R Exit.ret a Z := by
  obtain ⟨c0, c1, c2, _⟩ := hv.cells
  refine bodyPost_ret (v := .tuple #[.agg #[.int .u8 k, .string s, .slice ad m cap], .int .i64 c]) ?_ hdf h
  simp [results, Tryd.results46, go_sem, ha, hb, c0, c1, c2]
theorem own_emptyV (w : World) : (w.alloc (.cells #[] 52)).ownsRow w.heap.size 52 3 (.slice (some ⟨w.heap.size, 0, none⟩) 0 0) 0 [] :=
  ⟨rfl, .inr ⟨w.heap.size, 0, #[], rfl, Nat.le_refl _, heap_alloc_new w _, Nat.le_refl _, Nat.zero_le _, rfl, rfl⟩⟩
theorem news3 (U : World) (g : Nat) (hg : g = U.heap.size) (a b c : Value) : ∀ (j : Nat) u, [a, b, c][j]? = some u → (U.alloc (.cells #[a, b, c] 52)).cell? ((⟨g, 0, none⟩ : Addr).add j) = some u := by
  subst hg
  intro j u hu
  have h := heap_alloc_new U (.cells #[a, b, c] 52)
  have ha : (⟨U.heap.size, 0, none⟩ : Addr).add j = ⟨U.heap.size, j, none⟩ := by
    unfold Addr.add
    by_cases h : j = 0
    · subst h; simp
    · simp [h]
  rw [ha, cell_of_row _ U.heap.size j _ _ (0, 0) h, ← Array.getElem?_toList]
  exact hu
theorem add_atV (g j : Nat) : (⟨g, 0, none⟩ : Addr).add j = ⟨g, j, none⟩ := by
  unfold Addr.add
  by_cases h : j = 0
  · subst h; simp
  · simp [h]
theorem rowV {W : World} {B n : Nat} {v : Value} {xs : List Value} (h : W.ownsRow B 52 3 v n xs) (hn0 : 0 < n) :
    ∃ g cap, v = .slice (some ⟨g, 0, none⟩) n cap ∧ B ≤ g ∧ g < W.heap.size ∧ ∀ (j : Nat) u, xs[j]? = some u → W.cell? ⟨g, j, none⟩ = some u := by
  rcases h.2 with ⟨_, h0⟩ | ⟨g, cap, cur, rfl, hb, hg, hn, hm, _⟩
  · omega
  · refine ⟨g, cap, rfl, hb, (Array.getElem?_eq_some_iff.1 hg).1, fun j u hu => ?_⟩
    have := World.ownsRow.cells h (g := g) rfl j u hu
    rw [add_atV] at this
    exact this
theorem ownsBelowV {W W' : World} {B e n : Nat} {v : Value} {k : Nat} {xs : List Value} (h : W.ownsRow B e n v k xs) (hb : Below W.heap.size W W') : W'.ownsRow B e n v k xs := by
  obtain ⟨h1, h2⟩ := h
  refine ⟨h1, ?_⟩
  rcases h2 with h2 | ⟨g, cap, cur, a, b, c, d⟩
  · exact .inl h2
  · exact .inr ⟨g, cap, cur, a, b, by rw [hb.block g (Array.getElem?_eq_some_iff.1 c).1]; exact c, d⟩
/-- A program stays where a block is written that holds none. -/
theorem NodeIs.butL {W W' : World} {z lo hi hi' : Nat} (hz : W.cell? ⟨z, 0, none⟩ = some (.int .u8 0)) (hs : ∀ i, i ≠ z → i < hi → W'.heap[i]? = W.heap[i]?) (hh : hi ≤ hi') : ∀ {nd : Node}, nd.ok → ∀ {k : Int} {s : ByteArray} {ad : Option Addr} {n cap : Nat}, NodeIs W lo hi nd k s ad n cap → NodeIs W' lo hi' nd k s ad n cap
  | .atom _, _, _, _, _, _, _, h => h
  | .loop p, hok, _, _, _, _, _, h => by
    obtain ⟨h1, h2, h3, g, h4, h5, h6, k1, s1, ad1, n1, cap1, c0, c1, c2, hp⟩ := h
    have hgz : g ≠ z := by
      rintro rfl
      rw [hz] at c0
      exact nd_kind (nd := p) hok hp (by simpa using c0.symm)
    have c := fun o => World.cell?_of_block (w := W) (w' := W') (a := ⟨g, o, none⟩) (hs g hgz h6)
    exact ⟨h1, h2, h3, g, h4, h5, Nat.lt_of_lt_of_le h6 hh, k1, s1, ad1, n1, cap1, (c 0).trans c0, (c 1).trans c1, (c 2).trans c2, NodeIs.butL (nd := p) hz hs hh hok hp⟩
  | .pair _ p q, hok, _, _, _, _, _, h => by
    obtain ⟨h1, h2, h3, g, h4, h5, h6, k1, s1, ad1, n1, cap1, k2, s2, ad2, n2, cap2, ⟨c0, c1, c2⟩, ⟨c3, c4, c5⟩, hp, hq⟩ := h
    have hgz : g ≠ z := by
      rintro rfl
      rw [hz] at c0
      exact nd_kind (nd := p) hok.2.1 hp (by simpa using c0.symm)
    have c := fun o => World.cell?_of_block (w := W) (w' := W') (a := ⟨g, o, none⟩) (hs g hgz h6)
    exact ⟨h1, h2, h3, g, h4, h5, Nat.lt_of_lt_of_le h6 hh, k1, s1, ad1, n1, cap1, k2, s2, ad2, n2, cap2, ⟨(c 0).trans c0, (c 1).trans c1, (c 2).trans c2⟩, ⟨(c 3).trans c3, (c 4).trans c4, (c 5).trans c5⟩, NodeIs.butL (nd := p) hz hs hh hok.2.1 hp, NodeIs.butL (nd := q) hz hs hh hok.2.2 hq⟩
end Go.Proofs.YtgkgkaapjljpcaaDoor

