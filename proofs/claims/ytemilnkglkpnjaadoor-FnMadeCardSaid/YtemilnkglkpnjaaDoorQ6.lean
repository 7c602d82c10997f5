/- The model's reader of programs: a part, and two programs with a sign between them. -/
import Derived.Test.YtemilnkglkpnjaaDoorQ5
namespace Go.Proofs.YtemilnkglkpnjaaDoor
open Go.ChangeShapes Go.WideShapes Go.ChangeAt Go.RowKit Go.Shelf
attribute [local go_sem] Oper.semAt_some
set_option maxRecDepth 100000

theorem ret_part {Z : World} {a : Act} {k : Int} {s : ByteArray} {ad : Option Addr} {m cap g : Nat} {R : Ending → World → Prop} (hv : Var Z g k s ad m cap) (ha : a.tmps[2]?.getD undef = .pointer (some ⟨g, 0, none⟩)) (hdf : a.defers = [])
    (h : R (.returned (.agg #[.int .u8 k, .string s, .slice ad m cap])) Z) : bodyPost Tryd.prog Tryd.f60 R Exit.ret a Z := by
  obtain ⟨c0, c1, c2, _⟩ := hv.cells
  refine bodyPost_ret (v := .agg #[.int .u8 k, .string s, .slice ad m cap]) ?_ hdf h
  simp [results, Tryd.results60, go_sem, ha, c0, c1, c2]

set_option maxHeartbeats 1000000 in
theorem part_bad (t : ByteArray) (rb i : Nat) (W : World) (hr : Rdr W rb t i true) :
    Calls Tryd.prog 60 #[.pointer (some ⟨rb, 0, none⟩)] W fun e W' => (∃ k s ad m cap, e = .returned (.agg #[.int .u8 k, .string s, .slice ad m cap])) ∧ Rdr W' rb t i true ∧ W.grownBy W' (some rb) := by
  have hlt := hr.lt
  have hA := World.grownBy_alloc W (.cells #[.int .u8 0, .string ⟨#[]⟩, .slice none 0 0] 55) none
  have hra := hr.grown hA (by simp)
  have hva := Var.new W 0 ⟨#[]⟩ none 0 0
  obtain ⟨c0, c1, c2, f1, f2⟩ := hra.cells
  obtain ⟨x0, x1, x2, y0, y1, y2⟩ := hva.cells
  go_enter Tryd.func60, Tryd.ntmps60
  go_wp2_with fail
  refine ret_part hva rfl rfl ?_
  exact ⟨⟨_, _, _, _, _, rfl⟩, hra, World.grownBy_alloc W _ _⟩

set_option maxHeartbeats 1000000 in
theorem part_read (t : ByteArray) (rb n i : Nat) (IH : Reads t rb n) (W : World) (hi : i ≤ t.size) (hn : (t.toList.drop i).length ≤ n) (hr : Rdr W rb t i false) :
    Calls Tryd.prog 60 #[.pointer (some ⟨rb, 0, none⟩)] W (ReadTo t rb n i W) := by
  have hlt := hr.lt
  have hA := World.grownBy_alloc W (.cells #[.int .u8 0, .string ⟨#[]⟩, .slice none 0 0] 55) none
  have hra := hr.grown hA (by simp)
  obtain ⟨c0, c1, c2, f1, f2⟩ := hra.cells
  go_enter Tryd.func60, Tryd.ntmps60
  go_wp2_with fail
  go_at_call 75
  refine (IH i _ hi hn hra).mono ?_
  rintro e W1 ⟨k, s, ad, m, cap, rfl, hg1, hm⟩
  have hva := (Var.new W 0 ⟨#[]⟩ none 0 0).grown hg1 (by simp; omega)
  obtain ⟨x0, x1, x2, y0, y1, y2⟩ := hva.cells
  have hG := grown_trans2 (World.grownBy_alloc W _ (some rb)) hg1
  have s1 := hg1.size
  have sa : (W.alloc (.cells #[.int .u8 0, .string ⟨#[]⟩, .slice none 0 0] 55)).heap.size = W.heap.size + 1 := by simp
  go_wp2_with fail
  refine ret_part (set3_var hva _ _ _ _ _) rfl rfl ?_
  refine ⟨_, _, _, _, _, rfl, set3_grown hG (Nat.le_refl _) _ _ _ _ _, ?_⟩
  cases hrn : rd n (t.toList.drop i) with
  | none =>
    rw [hrn] at hm
    obtain ⟨j, hj, h2⟩ := hm
    exact ⟨j, hj, set3_rdr h2 (by omega) _ _ _ _ _⟩
  | some x =>
    rw [hrn] at hm
    obtain ⟨j, hj, hjd, h2, hnd⟩ := hm
    have hsz := set3_size W1 W.heap.size k s ad m cap
    unfold set3 at hsz
    exact ⟨j, hj, hjd, set3_rdr h2 (by omega) _ _ _ _ _, (hnd.same (same_of (grown_refl W1 (some rb)) (by omega) (by omega) _ _ _ _ _)).wide (by omega) (by omega)⟩
end Go.Proofs.YtemilnkglkpnjaaDoor

