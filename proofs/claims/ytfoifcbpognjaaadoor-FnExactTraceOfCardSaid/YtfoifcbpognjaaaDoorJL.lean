/- Chapter 10, the model: RunWith, ChoicesRight, TraceOf. -/
import Derived.Test.YtfoifcbpognjaaaDoorJK
namespace Go.Proofs.YtfoifcbpognjaaaDoor
open Go.ChangeShapes Go.WideShapes Go.ChangeAt Go.RowKit Go.Shelf
attribute [local go_sem] Oper.semAt_some
set_option maxRecDepth 100000

def exO (o : Option R10) : Int := match o with | none => 0 | some r => errI r.err
def stO (o : Option R10) : Int := match o with | none => 0 | some r => (r.st : Int)
def trO (o : Option R10) : List Int := match o with | none => [] | some r => r.tr
set_option maxHeartbeats 2000000 in
theorem mrunwith (t c : ByteArray) (ht : t.size ≤ 9000000) (s : Int) (w : World) :
    Calls Tryd.prog 6 #[.string t, .int .i64 s, .string c] w fun e w' => e = .returned (.tuple #[.int .i64 (exO (run10 t s c)), .int .i64 (stO (run10 t s c)), .bool (run10 t s c).isSome]) ∧ Below w.heap.size w w' := by
  have hr := ml10 t c ht s w
  unfold MRun at hr
  cases hc : run10 t s c with
  | none =>
    rw [hc] at hr
    clear hc
    go_enter Tryd.func6, Tryd.ntmps6
    go_wp2_with (go_at_call 15; refine hr.mono ?_; rintro e W1 ⟨hb1, v, rfl⟩)
    go_ret3
    exact ⟨rfl, hb1⟩
  | some r =>
    rw [hc] at hr
    clear hc
    go_enter Tryd.func6, Tryd.ntmps6
    go_wp2_with (go_at_call 15; refine hr.mono ?_; rintro e W1 ⟨hb1, rb, tv, rfl, hR, hI⟩; obtain ⟨c0, c1, c2, c3, c4, c5⟩ := hR.cells)
    go_quiet (fail)
    go_wp2_with fail
    go_ret3
    exact ⟨rfl, below_drewN hb1 _⟩
set_option maxHeartbeats 2000000 in
theorem mright (t c : ByteArray) (ht : t.size ≤ 9000000) (s : Int) (w : World) :
    Calls Tryd.prog 8 #[.string t, .int .i64 s, .string c] w fun e w' => e = .returned (.bool (run10 t s c).isSome) ∧ Below w.heap.size w w' := by
  have hr := ml10 t c ht s w
  unfold MRun at hr
  cases hc : run10 t s c with
  | none =>
    rw [hc] at hr
    clear hc
    go_enter Tryd.func8, Tryd.ntmps8
    go_wp2_with (go_at_call 15; refine hr.mono ?_; rintro e W1 ⟨hb1, v, rfl⟩)
    go_ret
    exact ⟨rfl, hb1⟩
  | some r =>
    rw [hc] at hr
    clear hc
    go_enter Tryd.func8, Tryd.ntmps8
    go_wp2_with (go_at_call 15; refine hr.mono ?_; rintro e W1 ⟨hb1, rb, tv, rfl, hR, hI⟩)
    go_ret
    exact ⟨rfl, hb1⟩
set_option maxHeartbeats 2000000 in
theorem mtrace (t c : ByteArray) (ht : t.size ≤ 9000000) (s : Int) (w : World) :
    Calls Tryd.prog 10 #[.string t, .int .i64 s, .string c] w fun e w' => ∃ v, e = .returned (.tuple #[v, .bool (run10 t s c).isSome]) ∧ IRow w' w.heap.size v (trO (run10 t s c)) ∧ Below w.heap.size w w' := by
  have hr := ml10 t c ht s w
  unfold MRun at hr
  cases hc : run10 t s c with
  | none =>
    rw [hc] at hr
    clear hc
    go_enter Tryd.func10, Tryd.ntmps10
    go_wp2_with (go_at_call 15; refine hr.mono ?_; rintro e W1 ⟨hb1, v, rfl⟩)
    go_ret2
    exact ⟨_, rfl, irow_zero W1 _ hb1.size, hb1.alloc hb1.size _⟩
  | some r =>
    rw [hc] at hr
    clear hc
    go_enter Tryd.func10, Tryd.ntmps10
    go_wp2_with (go_at_call 15; refine hr.mono ?_; rintro e W1 ⟨hb1, rb, tv, rfl, hR, hI⟩; obtain ⟨c0, c1, c2, c3, c4, c5⟩ := hR.cells; obtain ⟨aa, cc, rfl⟩ := hI.sl)
    go_ret2
    exact ⟨_, rfl, hI, hb1⟩
end Go.Proofs.YtfoifcbpognjaaaDoor

