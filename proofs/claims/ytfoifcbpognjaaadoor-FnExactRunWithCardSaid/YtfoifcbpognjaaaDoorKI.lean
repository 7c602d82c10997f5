/- Chapter 10, the program: RunWith, ChoicesRight, TraceOf. -/
import Derived.Test.YtfoifcbpognjaaaDoorKH
namespace Go.Proofs.YtfoifcbpognjaaaDoor
open Go.ChangeShapes Go.WideShapes Go.ChangeAt Go.RowKit Go.Shelf
attribute [local go_sem] Oper.semAt_some
set_option maxRecDepth 100000

theorem pby (t c : ByteArray) (s : Int) (w : World) {N : Nat} (hL : Laid3 N w) (hE : NotRight N w) :
    Calls Tryd.prog 16 #[.string t, .int .i64 s, .string c] w (PRunBy t s c w) := by
  cases hP : readP t.toList with
  | none => exact by_none t c hP s w hL
  | some nd =>
    cases hs : isSt s with
    | false => exact by_st t c hP s hs w hL
    | true =>
      by_cases hc : c.size ≤ 40
      · exact by_run t c hP s hs hc w hL hE
      · exact by_long t c hP s hs (by omega) w hL
set_option maxHeartbeats 2000000 in
theorem prunwith (t c : ByteArray) (s : Int) (w : World) {N : Nat} (hL : Laid3 N w) (hE : NotRight N w) :
    Calls Tryd.prog 7 #[.string t, .int .i64 s, .string c] w fun e w' => e = .returned (.tuple #[.int .i64 (exO (run10 t s c)), .int .i64 (stO (run10 t s c)), .bool (run10 t s c).isSome]) ∧ Below w.heap.size w w' := by
  have hr := pby t c s w hL hE
  unfold PRunBy at hr
  generalize exO (run10 t s c) = x at *
  generalize stO (run10 t s c) = y at *
  generalize (run10 t s c).isSome = k at *
  clear hL hE
  go_enter Tryd.func7, Tryd.ntmps7
  go_wp2_with (go_at_call 16; refine hr.mono ?_; rintro e W1 ⟨hb1, v, rfl, hI⟩; obtain ⟨aa, cc, rfl⟩ := hI.sl)
  have hL := heap_alloc_new W1 (.cells #[.int .i64 x, .int .i64 y, .slice aa (trO (run10 t s c)).length cc] 36)
  have hb2 := hb1.alloc hb1.size (.cells #[.int .i64 x, .int .i64 y, .slice aa (trO (run10 t s c)).length cc] 36)
  have s0 : (W1.alloc (.cells #[.int .i64 x, .int .i64 y, .slice aa (trO (run10 t s c)).length cc] 36)).cell? ⟨W1.heap.size, 0, none⟩ = some (.int .i64 x) := by rw [cell_of_row _ W1.heap.size 0 _ 36 (0, 0) hL]; rfl
  have s1 : (W1.alloc (.cells #[.int .i64 x, .int .i64 y, .slice aa (trO (run10 t s c)).length cc] 36)).cell? ⟨W1.heap.size, 1, none⟩ = some (.int .i64 y) := by rw [cell_of_row _ W1.heap.size 1 _ 36 (0, 0) hL]; rfl
  generalize W1.alloc (.cells #[.int .i64 x, .int .i64 y, .slice aa (trO (run10 t s c)).length cc] 36) = V at *
  clear hL
  go_quiet (fail)
  go_wp2_with fail
  go_ret3
  exact ⟨rfl, below_drewN hb2 _⟩
set_option maxHeartbeats 2000000 in
theorem pright (t c : ByteArray) (s : Int) (w : World) {N : Nat} (hL : Laid3 N w) (hE : NotRight N w) :
    Calls Tryd.prog 9 #[.string t, .int .i64 s, .string c] w fun e w' => e = .returned (.bool (run10 t s c).isSome) ∧ Below w.heap.size w w' := by
  have hr := pby t c s w hL hE
  unfold PRunBy at hr
  generalize (run10 t s c).isSome = k at *
  clear hL hE
  go_enter Tryd.func9, Tryd.ntmps9
  go_wp2_with (go_at_call 16; refine hr.mono ?_; rintro e W1 ⟨hb1, v, rfl, hI⟩; obtain ⟨aa, cc, rfl⟩ := hI.sl)
  go_ret
  exact ⟨rfl, hb1.alloc hb1.size _⟩
set_option maxHeartbeats 2000000 in
theorem ptrace (t c : ByteArray) (s : Int) (w : World) {N : Nat} (hL : Laid3 N w) (hE : NotRight N w) :
    Calls Tryd.prog 11 #[.string t, .int .i64 s, .string c] w fun e w' => ∃ v, e = .returned (.tuple #[v, .bool (run10 t s c).isSome]) ∧ IRow w' w.heap.size v (trO (run10 t s c)) ∧ Below w.heap.size w w' := by
  have hr := pby t c s w hL hE
  unfold PRunBy at hr
  generalize trO (run10 t s c) = y at *
  generalize (run10 t s c).isSome = k at *
  clear hL hE
  go_enter Tryd.func11, Tryd.ntmps11
  go_wp2_with (go_at_call 16; refine hr.mono ?_; rintro e W1 ⟨hb1, v, rfl, hI⟩; obtain ⟨aa, cc, rfl⟩ := hI.sl)
  go_ret2
  exact ⟨_, rfl, hI.below ((Below.refl _ _).alloc (Nat.le_refl _) _), hb1.alloc hb1.size _⟩
end Go.Proofs.YtfoifcbpognjaaaDoor

