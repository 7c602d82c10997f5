/- Chapter 11, the program: what it remembers of the programs that it has made simpler. -/
import Derived.Test.YtgkgkaapjljpcaaDoorNC
import Derived.Test.YtgkgkaapjljpcaaDoorZA
import Derived.Maps.Own
import Derived.Maps.Views
import Derived.Maps.OwnOps
import Derived.Maps.OwnSet
namespace Go.Proofs.YtgkgkaapjljpcaaDoor
open Go.ChangeShapes Go.WideShapes Go.ChangeAt Go.RowKit Go.Shelf
open Go.Maps (Keyed)
attribute [local go_sem] Oper.semAt_some
set_option maxRecDepth 100000

/-- How a remembered value reads: as itself. -/
def memoR (v : Value) : Option (DataW Value × List MemPlace) := some (.held v, [])
/-- What has been made of a program. -/
def simV (o : Node) (k : Nat) : Value := .agg #[nodeV o, .int .i64 (k : Int)]
/-- All that is remembered is so. -/
def Knows (D : DataW Value) : Prop := ∀ kl, Maps.has D kl = true → ∃ nd o k c, kl = .string nd.text ∧ nd.ok ∧ Sim nd o k c ∧ ∀ z, D.atKey kl z = .held (simV o k)
def Memo (W : World) (B n : Nat) : Prop := ∃ D, W.ownsMap Tryd.prog 9 memoR B n D ∧ Knows D

theorem keyLaw : Keyed Tryd.prog 9 := Maps.string_keyed Tryd.underlying9
theorem memo_under : Tryd.prog.underlying 99 = some (.map 9 73) := by kernel_rfl
theorem memo_zero (w : World) : (zeroValue 73).run Tryd.prog w = .ok (.agg #[.nilIface, .int .i64 0]) w := by kernel_rfl
theorem memo_key {l : List UInt8} (h : l.length ≤ 60) : keyOf Tryd.prog 9 (.string ⟨l.toArray⟩) = some (.string l) := by
  have := WideMaps.keyOf_string_mk (P := Tryd.prog) Tryd.underlying9 (s := ⟨l.toArray⟩) (by show l.toArray.size ≤ maxLen; simp; unfold maxLen; omega)
  exact this

theorem Memo.made (W : World) : Memo (W.alloc (.map #[] 0)) W.heap.size 0 :=
  ⟨_, World.ownsMap_made W _ _ _, fun kl h => by simp [Maps.has] at h⟩
theorem Memo.kept {W W' : World} {B n : Nat} {row : Option Nat} (h : Memo W B n) (hg : W.grownBy W' row) (hne : some B ≠ row) : Memo W' B n := by
  obtain ⟨D, h1, h2⟩ := h
  exact ⟨D, h1.kept hg hne, h2⟩
theorem Memo.below {W W' : World} {B n : Nat} (h : Memo W B n) (hb : Below W.heap.size W W') : Memo W' B n := h.kept (below_grown hb none) (by simp)
theorem Memo.mono {W : World} {B n n' : Nat} (h : Memo W B n) (hn : n ≤ n') : Memo W B n' := by
  obtain ⟨D, h1, h2⟩ := h
  exact ⟨D, h1.mono hn, h2⟩
theorem Memo.lt {W : World} {B n : Nat} (h : Memo W B n) : B < W.heap.size := h.choose_spec.1.lt

/-- What looking a program up gives: what has been made of it, or nothing. -/
theorem Memo.look {W : World} {B n : Nat} (h : Memo W B n) {nd o : Node} {k c : Nat} (hok : nd.ok) (h60 : nd.text.length ≤ 60) (hs : Sim nd o k c) :
    (Instr.lookup 99 (.map (some B)) (.string ⟨nd.text.toArray⟩) true).run Tryd.prog W = .ok (.tuple #[simV o k, .bool true]) W ∨
    ∃ v, (Instr.lookup 99 (.map (some B)) (.string ⟨nd.text.toArray⟩) true).run Tryd.prog W = .ok (.tuple #[v, .bool false]) W := by
  obtain ⟨D, h1, h2⟩ := h
  obtain ⟨v, ps, hrun, hv⟩ := h1.look_ok keyLaw memo_under (memo_zero W) (z := .agg #[.nilIface, .int .i64 0]) (zd := .held (.agg #[.nilIface, .int .i64 0])) (zp := []) rfl (memo_key h60)
  cases hh : Maps.has D (.string nd.text) with
  | false => rw [hh] at hrun; exact .inr ⟨v, hrun⟩
  | true =>
    rw [hh] at hrun
    obtain ⟨nd', o', k', c', e1, hok', hs', hat⟩ := h2 _ hh
    obtain rfl : nd = nd' := text_inj hok hok' (by simpa using e1)
    obtain ⟨rfl, rfl, _⟩ := sim_det hs hs'
    rw [hat] at hv
    have : v = simV o' k' := by
      have := congrArg (fun x => x.map Prod.fst) hv
      simp only [memoR, Option.map_some, Option.some.injEq, DataW.held.injEq] at this
      exact this
    rw [this] at hrun
    exact .inl hrun
/-- What remembering a program leaves. -/
theorem Memo.put {W : World} {B n : Nat} (h : Memo W B n) (hn : n ≤ 9000000) {nd o : Node} {k c : Nat} (hok : nd.ok) (h60 : nd.text.length ≤ 60) (hs : Sim nd o k c) :
    ∃ W', (Instr.mapUpdate 99 (.map (some B)) (.string ⟨nd.text.toArray⟩) (simV o k)).run Tryd.prog W = .ok () W' ∧ Memo W' B (n + 1) ∧ W.grownBy W' (some B) := by
  obtain ⟨D, h1, h2⟩ := h
  obtain ⟨W', hrun, ho, hg⟩ := h1.update keyLaw memo_under (by unfold maxLen; omega) (memo_key h60) (show memoR (simV o k) = some (.held (simV o k), []) from rfl)
  refine ⟨W', hrun, ⟨_, ho, fun kl hk => ?_⟩, hg⟩
  by_cases e : kl = .string nd.text
  · subst e
    exact ⟨nd, o, k, c, rfl, hok, hs, fun z => Maps.atKey_put_same (k := .string nd.text) h1.isMap True.intro _ z⟩
  · rw [Maps.has_put_other e] at hk
    obtain ⟨nd', o', k', c', e1, e2, e3, e4⟩ := h2 kl hk
    exact ⟨nd', o', k', c', e1, e2, e3, fun z => by rw [Maps.atKey_put_other e]; exact e4 z⟩
end Go.Proofs.YtgkgkaapjljpcaaDoor

