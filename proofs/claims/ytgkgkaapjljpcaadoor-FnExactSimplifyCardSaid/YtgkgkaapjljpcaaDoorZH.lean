/- Chapter 11, the program: the first rule that fits; a program's top (wip/tools/mkZH.py). -/
import Derived.Test.YtgkgkaapjljpcaaDoorZG
namespace Go.Proofs.YtgkgkaapjljpcaaDoor
open Go.ChangeShapes Go.WideShapes Go.ChangeAt Go.RowKit Go.Shelf
attribute [local go_sem] Oper.semAt_some
set_option maxRecDepth 100000

/-- What the first of some rules that fits answers. -/
def TopIs (r : Option Node) (W : World) (e : Ending) (W' : World) : Prop := Below W.heap.size W W' ∧
  e = .returned (.tuple #[match r with | some n => nodeV n | none => .nilIface, .bool r.isSome])

set_option maxHeartbeats 4000000 in
theorem fit_choice (r0 : Option Node) (x y : Value) (T U : TypeId) (W : World) (g : Nat) (hg : g < W.heap.size)
    (hc0 : W.cell? ⟨g, 0, none⟩ = some (.func (.func 77) #[] #[]))
    (hr0 : ∀ w, Below W.heap.size W w → Calls Tryd.prog 77 #[.agg #[.iface T x, .iface U y]] w (Fits r0 w)) :
    Calls Tryd.prog 76 #[.agg #[.iface T x, .iface U y], .slice (some ⟨g, 0, none⟩) 1 1] W (TopIs r0 W) := by
  obtain ⟨V, hV⟩ : ∃ V, V = W.alloc (.cells #[.iface T x, .iface U y] 112) := ⟨_, rfl⟩
  obtain ⟨c0, c1⟩ := @two_new T U x y W 112
  have hA : Below W.heap.size W V := by rw [hV]; exact (Below.refl _ _).alloc (Nat.le_refl _) _
  have hsz : W.heap.size < V.heap.size := by rw [hV]; simp
  rw [← hV] at c0 c1
  have hgV : g < V.heap.size := by omega
  obtain ⟨g0, hg0⟩ : ∃ g0, g0 = W.heap.size := ⟨_, rfl⟩
  rw [← hg0] at c0 c1 hsz
  have d0 := (hA.cell (p := ⟨g, 0, none⟩) hg).trans hc0
  go_enter Tryd.func76, Tryd.ntmps76
  go_wp2_with fail
  rw [← hV, ← hg0]
  have HV := Lib.hid hV
  have HA := Lib.hid hA
  have HG := Lib.hid hg0
  clear hV hA hg0
  go_loopw [12] (fun i wr => ((i = .int .i64 0) ∨ (i = .int .i64 1 ∧ r0 = none)) ∧ Below V.heap.size V wr) (fun i _ => 1 - (intOf i).toNat)
  case atStart => exact ⟨.inl rfl, Below.refl _ _⟩
  case round =>
    obtain ⟨hor, hB⟩ := hrel
    have e1 := (hB.cell (p := ⟨g0, 0, none⟩) hsz).trans c0
    have e2 := (hB.cell (p := ⟨g0, 1, none⟩) hsz).trans c1
    have hW0 := HA.out.trans (hB.mono HA.out.size)
    rcases hor with rfl | ⟨rfl, q0⟩
    · have e0 := (hB.cell (p := ⟨g, 0, none⟩) hgV).trans d0
      have HR := hr0 wr hW0
      have HW0 := Lib.hid hW0
      clear hW0
      cases r0 with
      | none =>
        go_wp2_with (go_at_call 77; refine HR.mono ?_; rintro e W1 ⟨hb1, z, rfl⟩)
        go_roundw
        case rel => exact ⟨.inr (⟨by go_num, by first | rfl | trivial⟩), hB.trans (hb1.mono hB.size)⟩
        case measure => simp [intOf]
      | some n =>
        go_wp2_with (go_at_call 77; refine HR.mono ?_; rintro e W1 ⟨hb1, rfl⟩)
        go_ret2
        exact ⟨HW0.out.trans (hb1.mono HW0.out.size), rfl⟩
    · subst q0
      go_wp2
      go_ret2
      exact ⟨hW0, rfl⟩

set_option maxHeartbeats 4000000 in
theorem fit_loop (r0 r1 : Option Node) (x : Value) (T : TypeId) (W : World) (g : Nat) (hg : g < W.heap.size)
    (hc0 : W.cell? ⟨g, 0, none⟩ = some (.func (.func 79) #[] #[]))
    (hc1 : W.cell? ⟨g, 1, none⟩ = some (.func (.func 80) #[] #[]))
    (hr0 : ∀ w, Below W.heap.size W w → Calls Tryd.prog 79 #[.agg #[.iface T x]] w (Fits r0 w))
    (hr1 : ∀ w, Below W.heap.size W w → Calls Tryd.prog 80 #[.agg #[.iface T x]] w (Fits r1 w)) :
    Calls Tryd.prog 78 #[.agg #[.iface T x], .slice (some ⟨g, 0, none⟩) 2 2] W (TopIs (orN r0 r1) W) := by
  obtain ⟨V, hV⟩ : ∃ V, V = W.alloc (.cells #[.iface T x] 117) := ⟨_, rfl⟩
  have c0 := @one_new T x W 117
  have hA : Below W.heap.size W V := by rw [hV]; exact (Below.refl _ _).alloc (Nat.le_refl _) _
  have hsz : W.heap.size < V.heap.size := by rw [hV]; simp
  rw [← hV] at c0
  have hgV : g < V.heap.size := by omega
  obtain ⟨g0, hg0⟩ : ∃ g0, g0 = W.heap.size := ⟨_, rfl⟩
  rw [← hg0] at c0 hsz
  have d0 := (hA.cell (p := ⟨g, 0, none⟩) hg).trans hc0
  have d1 := (hA.cell (p := ⟨g, 1, none⟩) hg).trans hc1
  go_enter Tryd.func78, Tryd.ntmps78
  go_wp2_with fail
  rw [← hV, ← hg0]
  have HV := Lib.hid hV
  have HA := Lib.hid hA
  have HG := Lib.hid hg0
  clear hV hA hg0
  go_loopw [12] (fun i wr => ((i = .int .i64 0) ∨ (i = .int .i64 1 ∧ r0 = none) ∨ (i = .int .i64 2 ∧ r0 = none ∧ r1 = none)) ∧ Below V.heap.size V wr) (fun i _ => 2 - (intOf i).toNat)
  case atStart => exact ⟨.inl rfl, Below.refl _ _⟩
  case round =>
    obtain ⟨hor, hB⟩ := hrel
    have e1 := (hB.cell (p := ⟨g0, 0, none⟩) hsz).trans c0
    have hW0 := HA.out.trans (hB.mono HA.out.size)
    rcases hor with rfl | ⟨rfl, q0⟩ | ⟨rfl, q0, q1⟩
    · have e0 := (hB.cell (p := ⟨g, 0, none⟩) hgV).trans d0
      have HR := hr0 wr hW0
      have HW0 := Lib.hid hW0
      clear hW0
      cases r0 with
      | none =>
        go_wp2_with (go_at_call 79; refine HR.mono ?_; rintro e W1 ⟨hb1, z, rfl⟩)
        go_roundw
        case rel => exact ⟨.inr (.inl ⟨by go_num, by first | rfl | trivial⟩), hB.trans (hb1.mono hB.size)⟩
        case measure => simp [intOf]
      | some n =>
        go_wp2_with (go_at_call 79; refine HR.mono ?_; rintro e W1 ⟨hb1, rfl⟩)
        go_ret2
        exact ⟨HW0.out.trans (hb1.mono HW0.out.size), rfl⟩
    · subst q0
      have e0 := (hB.cell (p := ⟨g, 1, none⟩) hgV).trans d1
      have HR := hr1 wr hW0
      have HW0 := Lib.hid hW0
      clear hW0
      cases r1 with
      | none =>
        go_wp2_with (go_at_call 80; refine HR.mono ?_; rintro e W1 ⟨hb1, z, rfl⟩)
        go_roundw
        case rel => exact ⟨.inr (.inr (⟨by go_num, by first | rfl | trivial, by first | rfl | trivial⟩)), hB.trans (hb1.mono hB.size)⟩
        case measure => simp [intOf]
      | some n =>
        go_wp2_with (go_at_call 80; refine HR.mono ?_; rintro e W1 ⟨hb1, rfl⟩)
        go_ret2
        exact ⟨HW0.out.trans (hb1.mono HW0.out.size), rfl⟩
    · subst q0
      subst q1
      go_wp2
      go_ret2
      exact ⟨hW0, rfl⟩

set_option maxHeartbeats 4000000 in
theorem fit_seq (r0 r1 r2 r3 r4 : Option Node) (x y : Value) (T U : TypeId) (W : World) (g : Nat) (hg : g < W.heap.size)
    (hc0 : W.cell? ⟨g, 0, none⟩ = some (.func (.func 71) #[] #[]))
    (hc1 : W.cell? ⟨g, 1, none⟩ = some (.func (.func 72) #[] #[]))
    (hc2 : W.cell? ⟨g, 2, none⟩ = some (.func (.func 73) #[] #[]))
    (hc3 : W.cell? ⟨g, 3, none⟩ = some (.func (.func 74) #[] #[]))
    (hc4 : W.cell? ⟨g, 4, none⟩ = some (.func (.func 75) #[] #[]))
    (hr0 : ∀ w, Below W.heap.size W w → Calls Tryd.prog 71 #[.agg #[.iface T x, .iface U y]] w (Fits r0 w))
    (hr1 : ∀ w, Below W.heap.size W w → Calls Tryd.prog 72 #[.agg #[.iface T x, .iface U y]] w (Fits r1 w))
    (hr2 : ∀ w, Below W.heap.size W w → Calls Tryd.prog 73 #[.agg #[.iface T x, .iface U y]] w (Fits r2 w))
    (hr3 : ∀ w, Below W.heap.size W w → Calls Tryd.prog 74 #[.agg #[.iface T x, .iface U y]] w (Fits r3 w))
    (hr4 : ∀ w, Below W.heap.size W w → Calls Tryd.prog 75 #[.agg #[.iface T x, .iface U y]] w (Fits r4 w)) :
    Calls Tryd.prog 70 #[.agg #[.iface T x, .iface U y], .slice (some ⟨g, 0, none⟩) 5 5] W (TopIs (orN r0 (orN r1 (orN r2 (orN r3 r4)))) W) := by
  obtain ⟨V, hV⟩ : ∃ V, V = W.alloc (.cells #[.iface T x, .iface U y] 107) := ⟨_, rfl⟩
  obtain ⟨c0, c1⟩ := @two_new T U x y W 107
  have hA : Below W.heap.size W V := by rw [hV]; exact (Below.refl _ _).alloc (Nat.le_refl _) _
  have hsz : W.heap.size < V.heap.size := by rw [hV]; simp
  rw [← hV] at c0 c1
  have hgV : g < V.heap.size := by omega
  obtain ⟨g0, hg0⟩ : ∃ g0, g0 = W.heap.size := ⟨_, rfl⟩
  rw [← hg0] at c0 c1 hsz
  have d0 := (hA.cell (p := ⟨g, 0, none⟩) hg).trans hc0
  have d1 := (hA.cell (p := ⟨g, 1, none⟩) hg).trans hc1
  have d2 := (hA.cell (p := ⟨g, 2, none⟩) hg).trans hc2
  have d3 := (hA.cell (p := ⟨g, 3, none⟩) hg).trans hc3
  have d4 := (hA.cell (p := ⟨g, 4, none⟩) hg).trans hc4
  go_enter Tryd.func70, Tryd.ntmps70
  go_wp2_with fail
  rw [← hV, ← hg0]
  have HV := Lib.hid hV
  have HA := Lib.hid hA
  have HG := Lib.hid hg0
  clear hV hA hg0
  go_loopw [12] (fun i wr => ((i = .int .i64 0) ∨ (i = .int .i64 1 ∧ r0 = none) ∨ (i = .int .i64 2 ∧ r0 = none ∧ r1 = none) ∨ (i = .int .i64 3 ∧ r0 = none ∧ r1 = none ∧ r2 = none) ∨ (i = .int .i64 4 ∧ r0 = none ∧ r1 = none ∧ r2 = none ∧ r3 = none) ∨ (i = .int .i64 5 ∧ r0 = none ∧ r1 = none ∧ r2 = none ∧ r3 = none ∧ r4 = none)) ∧ Below V.heap.size V wr) (fun i _ => 5 - (intOf i).toNat)
  case atStart => exact ⟨.inl rfl, Below.refl _ _⟩
  case round =>
    obtain ⟨hor, hB⟩ := hrel
    have e1 := (hB.cell (p := ⟨g0, 0, none⟩) hsz).trans c0
    have e2 := (hB.cell (p := ⟨g0, 1, none⟩) hsz).trans c1
    have hW0 := HA.out.trans (hB.mono HA.out.size)
    rcases hor with rfl | ⟨rfl, q0⟩ | ⟨rfl, q0, q1⟩ | ⟨rfl, q0, q1, q2⟩ | ⟨rfl, q0, q1, q2, q3⟩ | ⟨rfl, q0, q1, q2, q3, q4⟩
    · have e0 := (hB.cell (p := ⟨g, 0, none⟩) hgV).trans d0
      have HR := hr0 wr hW0
      have HW0 := Lib.hid hW0
      clear hW0
      cases r0 with
      | none =>
        go_wp2_with (go_at_call 71; refine HR.mono ?_; rintro e W1 ⟨hb1, z, rfl⟩)
        go_roundw
        case rel => exact ⟨.inr (.inl ⟨by go_num, by first | rfl | trivial⟩), hB.trans (hb1.mono hB.size)⟩
        case measure => simp [intOf]
      | some n =>
        go_wp2_with (go_at_call 71; refine HR.mono ?_; rintro e W1 ⟨hb1, rfl⟩)
        go_ret2
        exact ⟨HW0.out.trans (hb1.mono HW0.out.size), rfl⟩
    · subst q0
      have e0 := (hB.cell (p := ⟨g, 1, none⟩) hgV).trans d1
      have HR := hr1 wr hW0
      have HW0 := Lib.hid hW0
      clear hW0
      cases r1 with
      | none =>
        go_wp2_with (go_at_call 72; refine HR.mono ?_; rintro e W1 ⟨hb1, z, rfl⟩)
        go_roundw
        case rel => exact ⟨.inr (.inr (.inl ⟨by go_num, by first | rfl | trivial, by first | rfl | trivial⟩)), hB.trans (hb1.mono hB.size)⟩
        case measure => simp [intOf]
      | some n =>
        go_wp2_with (go_at_call 72; refine HR.mono ?_; rintro e W1 ⟨hb1, rfl⟩)
        go_ret2
        exact ⟨HW0.out.trans (hb1.mono HW0.out.size), rfl⟩
    · subst q0
      subst q1
      have e0 := (hB.cell (p := ⟨g, 2, none⟩) hgV).trans d2
      have HR := hr2 wr hW0
      have HW0 := Lib.hid hW0
      clear hW0
      cases r2 with
      | none =>
        go_wp2_with (go_at_call 73; refine HR.mono ?_; rintro e W1 ⟨hb1, z, rfl⟩)
        go_roundw
        case rel => exact ⟨.inr (.inr (.inr (.inl ⟨by go_num, by first | rfl | trivial, by first | rfl | trivial, by first | rfl | trivial⟩))), hB.trans (hb1.mono hB.size)⟩
        case measure => simp [intOf]
      | some n =>
        go_wp2_with (go_at_call 73; refine HR.mono ?_; rintro e W1 ⟨hb1, rfl⟩)
        go_ret2
        exact ⟨HW0.out.trans (hb1.mono HW0.out.size), rfl⟩
    · subst q0
      subst q1
      subst q2
      have e0 := (hB.cell (p := ⟨g, 3, none⟩) hgV).trans d3
      have HR := hr3 wr hW0
      have HW0 := Lib.hid hW0
      clear hW0
      cases r3 with
      | none =>
        go_wp2_with (go_at_call 74; refine HR.mono ?_; rintro e W1 ⟨hb1, z, rfl⟩)
        go_roundw
        case rel => exact ⟨.inr (.inr (.inr (.inr (.inl ⟨by go_num, by first | rfl | trivial, by first | rfl | trivial, by first | rfl | trivial, by first | rfl | trivial⟩)))), hB.trans (hb1.mono hB.size)⟩
        case measure => simp [intOf]
      | some n =>
        go_wp2_with (go_at_call 74; refine HR.mono ?_; rintro e W1 ⟨hb1, rfl⟩)
        go_ret2
        exact ⟨HW0.out.trans (hb1.mono HW0.out.size), rfl⟩
    · subst q0
      subst q1
      subst q2
      subst q3
      have e0 := (hB.cell (p := ⟨g, 4, none⟩) hgV).trans d4
      have HR := hr4 wr hW0
      have HW0 := Lib.hid hW0
      clear hW0
      cases r4 with
      | none =>
        go_wp2_with (go_at_call 75; refine HR.mono ?_; rintro e W1 ⟨hb1, z, rfl⟩)
        go_roundw
        case rel => exact ⟨.inr (.inr (.inr (.inr (.inr (⟨by go_num, by first | rfl | trivial, by first | rfl | trivial, by first | rfl | trivial, by first | rfl | trivial, by first | rfl | trivial⟩))))), hB.trans (hb1.mono hB.size)⟩
        case measure => simp [intOf]
      | some n =>
        go_wp2_with (go_at_call 75; refine HR.mono ?_; rintro e W1 ⟨hb1, rfl⟩)
        go_ret2
        exact ⟨HW0.out.trans (hb1.mono HW0.out.size), rfl⟩
    · subst q0
      subst q1
      subst q2
      subst q3
      subst q4
      go_wp2
      go_ret2
      exact ⟨hW0, rfl⟩
end Go.Proofs.YtgkgkaapjljpcaaDoor

