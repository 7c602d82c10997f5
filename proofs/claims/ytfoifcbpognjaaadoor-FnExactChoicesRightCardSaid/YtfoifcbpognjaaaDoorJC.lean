/- Chapter 10, the model: a state put behind the trace. -/
import Derived.Test.YtfoifcbpognjaaaDoorJB
import Derived.Maps.AppendAt
namespace Go.Proofs.YtfoifcbpognjaaaDoor
open Go.ChangeShapes Go.WideShapes Go.ChangeAt Go.RowKit Go.Shelf
attribute [local go_sem] Oper.semAt_some
set_option maxRecDepth 100000

/-- An append that the walk leaves standing till its run is known. -/
def heldApp10 (ats : Array TypeId) (ty : TypeId) (args : Array Value) : Sem Value := Builtin.append_ ats ty args
theorem held10 (ats : Array TypeId) (ty : TypeId) (cs : Array Bool) (args : Array Value) : builtin .append ats ty cs args = (do pure (.value (← heldApp10 ats ty args))) := rfl

theorem infoI10 : (Tryd.prog.info? 3).map (fun i => (i.zero, i.size, i.bytes)) = some (some (.int .i64 0), 1, 8) := by kernel_rfl
/-- The runner's row of states lies apart from the runner. -/
theorem RnAt.apart {W : World} {rb B : Nat} {cs : ByteArray} {r : R10} {tv v : Value} {zs : List Int} (h : RnAt W rb cs r tv) (hI : IRow W B v zs) : v.ownBlock ≠ some rb := by
  unfold RnAt at h
  unfold IRow at hI
  exact Lib.ownBlock_ne hI h (by decide)
theorem tr_app {W : World} {rb B : Nat} {cs : ByteArray} {r : R10} {tv : Value} (h : RnAt W rb cs r tv) (hI : IRow W B tv r.tr) (hn : r.tr.length ≤ 1000000) (hB : B ≤ W.heap.size) (s : Nat) :
    ∃ v' w1, (heldApp10 #[25, 25] 25 #[tv, .slice (some ⟨W.heap.size, 0, none⟩) 1 1]).run Tryd.prog (W.alloc (.cells #[.int .i64 (s : Int)] 3)) = .ok v' w1 ∧
      RnAt w1 rb cs r tv ∧
      RnAt (w1.setCell ⟨rb, 5, none⟩ v') rb cs ⟨r.pos, r.st, r.err, r.stuck, r.tr ++ [(s : Int)]⟩ v' ∧ IRow (w1.setCell ⟨rb, 5, none⟩ v') B v' (r.tr ++ [(s : Int)]) ∧ Foot rb tv.ownBlock v'.ownBlock W (w1.setCell ⟨rb, 5, none⟩ v') := by
  obtain ⟨i0, hi, hz0, hz1, hz2⟩ := info_parts infoI10
  have hne := h.apart hI
  have hA : Below W.heap.size W (W.alloc (.cells #[.int .i64 (s : Int)] 3)) := (Below.refl _ W).alloc (Nat.le_refl _) _
  have hI1 := hI.below hA
  have h1 := h.kept hA
  obtain ⟨v', w1, hr, hown, hg, _, h5⟩ := run_append_own_at (P := Tryd.prog) (w := W.alloc (.cells #[.int .i64 (s : Int)] 3)) B 25 25 3 i0 (.int .i64 0) 1 8 Tryd.underlying25 hi hz0 hz1 hz2 rfl (by decide) tv r.tr.length (r.tr.map (Value.int .i64)) hI1 ⟨W.heap.size, 0, none⟩ 1 1 [.int .i64 (s : Int)] rfl (cell_one_new _ _ _) (by simp [Value.oneCell']) (by unfold maxLen; omega) (by omega) (by simp; omega)
  have hR1 : RnAt w1 rb cs r tv := (hg.block rb h1.lt (fun e => hne e.symm)).trans h1
  have hR : IRow w1 B v' (r.tr ++ [(s : Int)]) := by
    unfold IRow
    rw [List.length_append, List.map_append]
    exact hown
  have hne2 := hR1.apart hR
  have hrow : IRow (w1.setCell ⟨rb, 5, none⟩ v') B v' (r.tr ++ [(s : Int)]) := hR.kept (row := some rb) ⟨rfl, rfl, rfl, by simp [World.setCell], fun k _ hk => Below.heap_setCell _ _ _ _ (fun e => hk (by simp [e]))⟩ (.inr hne2)
  refine ⟨v', w1, hr, hR1, hR1.set5 v' _, hrow, ?_⟩
  have F1 : Foot rb tv.ownBlock v'.ownBlock W w1 := by
    refine ⟨hg.os, hg.tape, hg.output, Nat.le_trans (by simp) hg.size, fun k hk h8 h9 => ?_, ?_⟩
    · exact (hg.block k (by simp; omega) h9).trans (Below.heap_alloc _ _ _ hk)
    · rcases h5 with e | e
      · exact .inl e
      · exact .inr ⟨_, e, by simp⟩
  exact F1.trans (foot_set rb 5 _ w1 v')
end Go.Proofs.YtfoifcbpognjaaaDoor

