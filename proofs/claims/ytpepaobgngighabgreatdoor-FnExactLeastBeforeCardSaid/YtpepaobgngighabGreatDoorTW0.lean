/- The laws' own helpers on triples: copied, weighed, compared. -/
import Derived.Test.YtpepaobgngighabGreatDoorTE
import Derived.Maps.OwnOps
namespace Go.Proofs.YtpepaobgngighabGreatDoor
open Go.ChangeShapes Go.WideShapes Go.ChangeAt Go.RowKit Go.Shelf Go.Maps
attribute [local go_sem] Oper.semAt_some
set_option maxRecDepth 100000

set_option maxHeartbeats 1000000 in
theorem to14 (b : Int) (p : ByteArray) (x r : Int) (w : World) :
    Calls Tryz.prog 7 #[.agg #[.int .i64 b, .string p, .int .i64 x, .int .i64 r]] w fun e w' => e = .returned (.agg #[.int .i64 b, .string p, .int .i64 x, .int .i64 r]) ∧ Below w.heap.size w w' := by
  go_enter Tryz.func7, Tryz.ntmps7
  go_wp2
  refine bodyPost_ret (v := .agg #[.int .i64 b, .string p, .int .i64 x, .int .i64 r]) (by simp [results, Tryz.results7, go_sem]) rfl ⟨rfl, ?_⟩
  exact ((((Below.refl _ w).alloc (Nat.le_refl _) _).alloc (by simp) _).alloc (by simp; omega) _)
set_option maxHeartbeats 1000000 in
theorem sz12 (b : Int) (p : ByteArray) (x r L : Int) (w : World) (h0 : 0 ≤ L) (h1 : L ≤ 1048576) (hp : p.size ≤ 9223372036854775807) :
    Calls Tryz.prog 5 #[.agg #[.int .i64 b, .string p, .int .i64 x, .int .i64 r], .int .i64 L] w fun e w' => e = .returned (.int .i64 (if (p.size : Int) ≤ L then L - p.size else -1)) ∧ Below w.heap.size w w' := by
  have hA : Below w.heap.size w (w.alloc (.cells #[.int .i64 b, .string p, .int .i64 x, .int .i64 r] 23)) := (Below.refl _ w).alloc (Nat.le_refl _) _
  have hpi : (p.size : Int) ≤ 9223372036854775807 := by omega
  have hp0 : (0 : Int) ≤ (p.size : Int) := by omega
  by_cases h : (p.size : Int) ≤ L
  · rw [if_pos h]
    have hn : ¬ (L - (p.size : Int) < 0) := by omega
    go_enter Tryz.func5, Tryz.ntmps5
    go_wp2
    go_ret
    exact ⟨rfl, hA⟩
  · rw [if_neg h]
    have hn : L - (p.size : Int) < 0 := by omega
    go_enter Tryz.func5, Tryz.ntmps5
    go_wp2
    go_ret
    exact ⟨rfl, hA⟩
set_option maxHeartbeats 1000000 in
theorem eq20 (b : Int) (p : ByteArray) (x r : Int) (w : World) :
    Calls Tryz.prog 9 #[.agg #[.int .i64 b, .string p, .int .i64 x, .int .i64 r], .agg #[.int .i64 b, .string p, .int .i64 x, .int .i64 r]] w fun e w' => e = .returned (.bool true) ∧ Below w.heap.size w w' := by
  go_enter Tryz.func9, Tryz.ntmps9
  go_wp2
  go_ret
  exact ⟨rfl, ((Below.refl _ w).alloc (Nat.le_refl _) _).alloc (by simp) _⟩

end Go.Proofs.YtpepaobgngighabGreatDoor

