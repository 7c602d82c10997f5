/- The program's nodes as values: how many loops lie within each other. -/
import Derived.Test.YtemilnkglkpnjaaDoorN3

namespace Go.Proofs.YtemilnkglkpnjaaDoor
open Go.ChangeShapes Go.WideShapes Go.ChangeAt Go.RowKit Go.Shelf
attribute [local go_sem] Oper.semAt_some
set_option maxRecDepth 100000


set_option maxHeartbeats 2000000 in
theorem ploops46 : ∀ (nd : Node), nd.ok → nd.loops ≤ 1000 → ∀ (w : World), Calls Tryd.prog 46 #[nodeV nd] w fun e w' => e = .returned (.int .i64 (nd.loops : Int)) ∧ Below w.heap.size w w'
  | .atom a, hok, _, w => by
    have hkd := pkind41 (.atom a) hok
    have hane : (a == [123]) = false := by
      simp only [beq_eq_false_iff_ne, ne_eq]
      rintro rfl
      rcases hok with h | h | h | ⟨t, _, h⟩
      · cases h
      · cases h
      · revert h; decide
      · cases h
    clear hok
    unfold nodeV at hkd ⊢
    have hm : ∀ W : World, (method 248 93 (.string ⟨a.toArray⟩) "loop.example/surelywrong/impl.parts").run Tryd.prog W = .ok (128, .string ⟨a.toArray⟩) W := fun _ => by kernel_rfl
    go_enter Tryd.func46, Tryd.ntmps46
    go_wp2_with (go_at_call 128; refine (parts128 _ _).mono ?_; rintro e W1 ⟨rfl, rfl⟩)
    go_loopw [3, 9] (fun o i wr => o = .int .i64 0 ∧ i = .int .i64 0 ∧ wr = w) (fun _ _ _ => 0)
    case atStart => exact ⟨rfl, rfl, rfl⟩
    case round =>
      obtain ⟨rfl, rfl, rfl⟩ := hrel
      go_wp2_with (go_at_call 41; refine (hkd _).mono ?_; rintro e W2 ⟨rfl, hb2⟩)
      go_ret
      exact ⟨rfl, hb2⟩
  | .loop p, hok, hs, w => by
    have hpl : (p.loops : Int) ≤ 1000 := by simp [Node.loops] at hs; omega
    have IH := ploops46 p hok (by omega)
    have hkd := pkind41 (.loop p) hok
    obtain ⟨T, x, hv⟩ := nodeV_iface p
    unfold nodeV at hkd ⊢
    rw [hv] at IH hkd ⊢
    have hp0 : (0 : Int) ≤ (p.loops : Int) := by omega
    have hm : ∀ W : World, (method 248 81 (.agg #[.iface T x]) "loop.example/surelywrong/impl.parts").run Tryd.prog W = .ok (121, .agg #[.iface T x]) W := fun _ => by kernel_rfl
    go_enter Tryd.func46, Tryd.ntmps46
    go_wp2_with (go_at_call 121; refine (parts121 T x _).mono ?_; rintro e W1 ⟨g, rfl, hg, c0, hb1⟩)
    go_loopw [3, 9] (fun o i wr => ((o = .int .i64 0 ∧ i = .int .i64 0) ∨ (o = .int .i64 (p.loops : Int) ∧ i = .int .i64 1)) ∧ Below W1.heap.size W1 wr) (fun _ i _ => 1 - (intOf i).toNat)
    case atStart => exact ⟨.inl ⟨rfl, rfl⟩, Below.refl _ _⟩
    case round =>
      obtain ⟨hor, hB⟩ := hrel
      rcases hor with ⟨rfl, rfl⟩ | ⟨rfl, rfl⟩
      · have e0 := (hB.cell (p := ⟨g, 0, none⟩) hg).trans c0
        go_wp2_with (go_at_call 46; refine (IH _).mono ?_; rintro e W2 ⟨rfl, hb2⟩)
        go_roundw
        case rel => exact ⟨.inr ⟨by go_num, rfl⟩, hB.trans (hb2.mono hB.size)⟩
        case measure => simp [intOf]
      · go_wp2_with (go_at_call 41; refine (hkd _).mono ?_; rintro e W2 ⟨rfl, hb2⟩)
        go_ret
        exact ⟨rfl, (hb1.trans (hB.mono hb1.size)).trans (hb2.mono (Nat.le_trans hb1.size hB.size))⟩
  | .pair k p q, hok, hs, w => by
    have hpl1 : (p.loops : Int) ≤ 1000 := by simp [Node.loops] at hs; omega
    have hql1 : (q.loops : Int) ≤ 1000 := by simp [Node.loops] at hs; omega
    have IH1 := ploops46 p hok.2.1 (by omega)
    have IH2 := ploops46 q hok.2.2 (by omega)
    have hp0 : (0 : Int) ≤ (p.loops : Int) := by omega
    have hq0 : (0 : Int) ≤ (q.loops : Int) := by omega
    obtain ⟨T, x, hv⟩ := nodeV_iface p
    obtain ⟨U, y, hv2⟩ := nodeV_iface q
    obtain ⟨hk, h1, h2⟩ := hok
    rcases hk with rfl | rfl
    · have hnd : (.pair 59 p q : Node).ok := ⟨by simp, h1, h2⟩
      have hkd := pkind41 (.pair 59 p q) hnd
      rw [nodeV_seq] at hkd ⊢
      rw [hv] at IH1 hkd ⊢
      rw [hv2] at IH2 hkd ⊢
      clear hnd h1 h2 hv hv2
      have hm : ∀ W : World, (method 248 77 (.agg #[.iface T x, .iface U y]) "loop.example/surelywrong/impl.parts").run Tryd.prog W = .ok (117, .agg #[.iface T x, .iface U y]) W := fun _ => by kernel_rfl
      go_enter Tryd.func46, Tryd.ntmps46
      go_wp2_with (go_at_call 117; refine (parts117 T U x y _).mono ?_; rintro e W1 ⟨g, rfl, hg, c0, c1, hb1⟩)
      go_loopw [3, 9] (fun o i wr => ((o = .int .i64 0 ∧ i = .int .i64 0) ∨ (o = .int .i64 (p.loops : Int) ∧ i = .int .i64 1) ∨ (o = .int .i64 (max p.loops q.loops : Nat) ∧ i = .int .i64 2)) ∧ Below W1.heap.size W1 wr) (fun _ i _ => 2 - (intOf i).toNat)
      case atStart => exact ⟨.inl ⟨rfl, rfl⟩, Below.refl _ _⟩
      case round =>
        obtain ⟨hor, hB⟩ := hrel
        rcases hor with ⟨rfl, rfl⟩ | ⟨rfl, rfl⟩ | ⟨rfl, rfl⟩
        · have e0 := (hB.cell (p := ⟨g, 0, none⟩) hg).trans c0
          go_wp2_with (go_at_call 46; refine (IH1 _).mono ?_; rintro e W2 ⟨rfl, hb2⟩)
          go_roundw
          case rel => exact ⟨.inr (.inl ⟨by go_num, rfl⟩), hB.trans (hb2.mono hB.size)⟩
          case measure => simp [intOf]
        · have e0 := (hB.cell (p := ⟨g, 1, none⟩) hg).trans c1
          go_wp2_with (go_at_call 46; refine (IH2 _).mono ?_; rintro e W2 ⟨rfl, hb2⟩)
          go_roundw
          case rel => exact ⟨.inr (.inr ⟨by go_num, rfl⟩), hB.trans (hb2.mono hB.size)⟩
          case measure => simp [intOf]
        · go_wp2_with (go_at_call 41; refine (hkd _).mono ?_; rintro e W2 ⟨rfl, hb2⟩)
          go_ret
          exact ⟨rfl, (hb1.trans (hB.mono hb1.size)).trans (hb2.mono (Nat.le_trans hb1.size hB.size))⟩
    · have hnd : (.pair 124 p q : Node).ok := ⟨by simp, h1, h2⟩
      have hkd := pkind41 (.pair 124 p q) hnd
      rw [nodeV_choice] at hkd ⊢
      rw [hv] at IH1 hkd ⊢
      rw [hv2] at IH2 hkd ⊢
      clear hnd h1 h2 hv hv2
      have hm : ∀ W : World, (method 248 79 (.agg #[.iface T x, .iface U y]) "loop.example/surelywrong/impl.parts").run Tryd.prog W = .ok (119, .agg #[.iface T x, .iface U y]) W := fun _ => by kernel_rfl
      go_enter Tryd.func46, Tryd.ntmps46
      go_wp2_with (go_at_call 119; refine (parts119 T U x y _).mono ?_; rintro e W1 ⟨g, rfl, hg, c0, c1, hb1⟩)
      go_loopw [3, 9] (fun o i wr => ((o = .int .i64 0 ∧ i = .int .i64 0) ∨ (o = .int .i64 (p.loops : Int) ∧ i = .int .i64 1) ∨ (o = .int .i64 (max p.loops q.loops : Nat) ∧ i = .int .i64 2)) ∧ Below W1.heap.size W1 wr) (fun _ i _ => 2 - (intOf i).toNat)
      case atStart => exact ⟨.inl ⟨rfl, rfl⟩, Below.refl _ _⟩
      case round =>
        obtain ⟨hor, hB⟩ := hrel
        rcases hor with ⟨rfl, rfl⟩ | ⟨rfl, rfl⟩ | ⟨rfl, rfl⟩
        · have e0 := (hB.cell (p := ⟨g, 0, none⟩) hg).trans c0
          go_wp2_with (go_at_call 46; refine (IH1 _).mono ?_; rintro e W2 ⟨rfl, hb2⟩)
          go_roundw
          case rel => exact ⟨.inr (.inl ⟨by go_num, rfl⟩), hB.trans (hb2.mono hB.size)⟩
          case measure => simp [intOf]
        · have e0 := (hB.cell (p := ⟨g, 1, none⟩) hg).trans c1
          go_wp2_with (go_at_call 46; refine (IH2 _).mono ?_; rintro e W2 ⟨rfl, hb2⟩)
          go_roundw
          case rel => exact ⟨.inr (.inr ⟨by go_num, rfl⟩), hB.trans (hb2.mono hB.size)⟩
          case measure => simp [intOf]
        · go_wp2_with (go_at_call 41; refine (hkd _).mono ?_; rintro e W2 ⟨rfl, hb2⟩)
          go_ret
          exact ⟨rfl, (hb1.trans (hB.mono hb1.size)).trans (hb2.mono (Nat.le_trans hb1.size hB.size))⟩
end Go.Proofs.YtemilnkglkpnjaaDoor
