/- The program's nodes as values: their parts, how many programs and loops they have, their kinds and texts. -/
import Derived.Test.YtemilnkglkpnjaaDoorTree
import Derived.LoopTactic

namespace Go.Proofs.YtemilnkglkpnjaaDoor
open Go.ChangeShapes Go.WideShapes Go.ChangeAt Go.RowKit Go.Shelf
attribute [local go_sem] Oper.semAt_some
set_option maxRecDepth 100000

/-- The value of a program. -/
def nodeV : Node → Value
  | .atom a => .iface 93 (.string ⟨a.toArray⟩)
  | .loop p => .iface 81 (.agg #[nodeV p])
  | .pair k p q => if k = 59 then .iface 77 (.agg #[nodeV p, nodeV q]) else .iface 79 (.agg #[nodeV p, nodeV q])
theorem nodeV_seq (p q : Node) : nodeV (.pair 59 p q) = .iface 77 (.agg #[nodeV p, nodeV q]) := rfl
theorem nodeV_choice (p q : Node) : nodeV (.pair 124 p q) = .iface 79 (.agg #[nodeV p, nodeV q]) := rfl

theorem nodeV_iface : ∀ nd : Node, ∃ T x, nodeV nd = .iface T x
  | .atom _ => ⟨_, _, rfl⟩
  | .loop _ => ⟨_, _, rfl⟩
  | .pair k _ _ => by unfold nodeV; split <;> exact ⟨_, _, rfl⟩

theorem parts128 (s : ByteArray) (w : World) : Calls Tryd.prog 128 #[.string s] w fun e w' => e = .returned (.slice none 0 0) ∧ w = w' := by
  go_enter Tryd.func128, Tryd.ntmps128
  go_wp2
  go_ret
  exact ⟨rfl, rfl⟩
theorem parts121 (T : TypeId) (x : Value) (w : World) : Calls Tryd.prog 121 #[.agg #[.iface T x]] w fun e w' => ∃ g, e = .returned (.slice (some ⟨g, 0, none⟩) 1 1) ∧ g < w'.heap.size ∧ w'.cell? ⟨g, 0, none⟩ = some (.iface T x) ∧ Below w.heap.size w w' := by
  go_enter Tryd.func121, Tryd.ntmps121
  go_wp2
  go_ret
  have hc := heap_alloc_new (w.alloc (.cells #[.iface T x] 81)) (.cells #[.iface T x] 44)
  rw [World.size_alloc] at hc
  exact ⟨_, rfl, by simp, by rw [cell_of_row _ (w.heap.size + 1) 0 _ 44 (0, 0) hc]; rfl, ((Below.refl _ _).alloc (Nat.le_refl _) _).alloc (by simp) _⟩
theorem parts117 (T U : TypeId) (x y : Value) (w : World) : Calls Tryd.prog 117 #[.agg #[.iface T x, .iface U y]] w fun e w' => ∃ g, e = .returned (.slice (some ⟨g, 0, none⟩) 2 2) ∧ g < w'.heap.size ∧ w'.cell? ⟨g, 0, none⟩ = some (.iface T x) ∧ w'.cell? ⟨g, 1, none⟩ = some (.iface U y) ∧ Below w.heap.size w w' := by
  go_enter Tryd.func117, Tryd.ntmps117
  go_wp2
  go_ret
  have hc := heap_alloc_new (w.alloc (.cells #[.iface T x, .iface U y] 77)) (.cells #[.iface T x, .iface U y] 44)
  rw [World.size_alloc] at hc
  exact ⟨_, rfl, by simp, by rw [cell_of_row _ (w.heap.size + 1) 0 _ 44 (0, 0) hc]; rfl, by rw [cell_of_row _ (w.heap.size + 1) 1 _ 44 (0, 0) hc]; rfl, ((Below.refl _ _).alloc (Nat.le_refl _) _).alloc (by simp) _⟩
theorem parts119 (T U : TypeId) (x y : Value) (w : World) : Calls Tryd.prog 119 #[.agg #[.iface T x, .iface U y]] w fun e w' => ∃ g, e = .returned (.slice (some ⟨g, 0, none⟩) 2 2) ∧ g < w'.heap.size ∧ w'.cell? ⟨g, 0, none⟩ = some (.iface T x) ∧ w'.cell? ⟨g, 1, none⟩ = some (.iface U y) ∧ Below w.heap.size w w' := by
  go_enter Tryd.func119, Tryd.ntmps119
  go_wp2
  go_ret
  have hc := heap_alloc_new (w.alloc (.cells #[.iface T x, .iface U y] 79)) (.cells #[.iface T x, .iface U y] 44)
  rw [World.size_alloc] at hc
  exact ⟨_, rfl, by simp, by rw [cell_of_row _ (w.heap.size + 1) 0 _ 44 (0, 0) hc]; rfl, by rw [cell_of_row _ (w.heap.size + 1) 1 _ 44 (0, 0) hc]; rfl, ((Below.refl _ _).alloc (Nat.le_refl _) _).alloc (by simp) _⟩

theorem size_pos : ∀ nd : Node, 1 ≤ nd.size
  | .atom _ => Nat.le_refl _
  | .loop _ => by simp [Node.size]
  | .pair _ _ _ => by simp [Node.size]; omega

set_option maxHeartbeats 2000000 in
theorem psize44 : ∀ (nd : Node), nd.ok → nd.size ≤ 1000 → ∀ (w : World), Calls Tryd.prog 44 #[nodeV nd] w fun e w' => e = .returned (.int .i64 (nd.size : Int)) ∧ Below w.heap.size w w'
  | .atom a, _, _, w => by
    unfold nodeV
    have hm : ∀ W : World, (method 248 93 (.string ⟨a.toArray⟩) "loop.example/surelywrong/impl.parts").run Tryd.prog W = .ok (128, .string ⟨a.toArray⟩) W := fun _ => by kernel_rfl
    go_enter Tryd.func44, Tryd.ntmps44
    go_wp2_with (go_at_call 128; refine (parts128 _ _).mono ?_; rintro e W1 ⟨rfl, rfl⟩)
    go_loopw [3, 9] (fun o i wr => o = .int .i64 1 ∧ i = .int .i64 0 ∧ wr = w) (fun _ _ _ => 0)
    case atStart => exact ⟨rfl, rfl, rfl⟩
    case round =>
      obtain ⟨rfl, rfl, rfl⟩ := hrel
      go_wp2
      go_ret
      exact ⟨rfl, Below.refl _ _⟩
  | .loop p, hok, hs, w => by
    have hpl : (p.size : Int) ≤ 1000 := by simp [Node.size] at hs; omega
    have IH := psize44 p hok (by omega)
    obtain ⟨T, x, hv⟩ := nodeV_iface p
    unfold nodeV
    rw [hv] at IH ⊢
    have hm : ∀ W : World, (method 248 81 (.agg #[.iface T x]) "loop.example/surelywrong/impl.parts").run Tryd.prog W = .ok (121, .agg #[.iface T x]) W := fun _ => by kernel_rfl
    go_enter Tryd.func44, Tryd.ntmps44
    go_wp2_with (go_at_call 121; refine (parts121 T x _).mono ?_; rintro e W1 ⟨g, rfl, hg, c0, hb1⟩)
    go_loopw [3, 9] (fun o i wr => ((o = .int .i64 1 ∧ i = .int .i64 0) ∨ (o = .int .i64 (1 + (p.size : Int)) ∧ i = .int .i64 1)) ∧ Below W1.heap.size W1 wr) (fun _ i _ => 1 - (intOf i).toNat)
    case atStart => exact ⟨.inl ⟨rfl, rfl⟩, Below.refl _ _⟩
    case round =>
      obtain ⟨hor, hB⟩ := hrel
      rcases hor with ⟨rfl, rfl⟩ | ⟨rfl, rfl⟩
      · have e0 := (hB.cell (p := ⟨g, 0, none⟩) hg).trans c0
        go_wp2_with fail
        go_at_call 44
        refine (IH _).mono ?_
        rintro e W2 ⟨rfl, hb2⟩
        go_wp2_with fail
        go_roundw
        case rel => exact ⟨.inr ⟨by go_num, rfl⟩, hB.trans (hb2.mono hB.size)⟩
        case measure => simp [intOf]
      · go_wp2
        go_ret
        exact ⟨rfl, hb1.trans (hB.mono hb1.size)⟩
  | .pair k p q, hok, hs, w => by
    have hpl : (p.size : Int) + (q.size : Int) ≤ 1000 := by simp [Node.size] at hs; omega
    have hp0 := size_pos p
    have hq0 := size_pos q
    have hpl1 : (p.size : Int) ≤ 1000 := by omega
    have hql1 : (q.size : Int) ≤ 1000 := by omega
    have IH1 := psize44 p hok.2.1 (by omega)
    have IH2 := psize44 q hok.2.2 (by omega)
    obtain ⟨T, x, hv⟩ := nodeV_iface p
    obtain ⟨U, y, hv2⟩ := nodeV_iface q
    obtain ⟨hk, -, -⟩ := hok
    rcases hk with rfl | rfl
    · rw [nodeV_seq]
      rw [hv] at IH1 ⊢
      rw [hv2] at IH2 ⊢
      clear hp0 hq0
      have hm : ∀ W : World, (method 248 77 (.agg #[.iface T x, .iface U y]) "loop.example/surelywrong/impl.parts").run Tryd.prog W = .ok (117, .agg #[.iface T x, .iface U y]) W := fun _ => by kernel_rfl
      go_enter Tryd.func44, Tryd.ntmps44
      go_wp2_with (go_at_call 117; refine (parts117 T U x y _).mono ?_; rintro e W1 ⟨g, rfl, hg, c0, c1, hb1⟩)
      go_loopw [3, 9] (fun o i wr => ((o = .int .i64 1 ∧ i = .int .i64 0) ∨ (o = .int .i64 (1 + (p.size : Int)) ∧ i = .int .i64 1) ∨ (o = .int .i64 (1 + (p.size : Int) + (q.size : Int)) ∧ i = .int .i64 2)) ∧ Below W1.heap.size W1 wr) (fun _ i _ => 2 - (intOf i).toNat)
      case atStart => exact ⟨.inl ⟨rfl, rfl⟩, Below.refl _ _⟩
      case round =>
        obtain ⟨hor, hB⟩ := hrel
        rcases hor with ⟨rfl, rfl⟩ | ⟨rfl, rfl⟩ | ⟨rfl, rfl⟩
        · have e0 := (hB.cell (p := ⟨g, 0, none⟩) hg).trans c0
          go_wp2_with fail
          go_at_call 44
          refine (IH1 _).mono ?_
          rintro e W2 ⟨rfl, hb2⟩
          go_wp2_with fail
          go_roundw
          case rel => exact ⟨.inr (.inl ⟨by go_num, rfl⟩), hB.trans (hb2.mono hB.size)⟩
          case measure => simp [intOf]
        · have e0 := (hB.cell (p := ⟨g, 1, none⟩) hg).trans c1
          go_wp2_with fail
          go_at_call 44
          refine (IH2 _).mono ?_
          rintro e W2 ⟨rfl, hb2⟩
          go_wp2_with fail
          go_roundw
          case rel => exact ⟨.inr (.inr ⟨by go_num, rfl⟩), hB.trans (hb2.mono hB.size)⟩
          case measure => simp [intOf]
        · go_wp2
          go_ret
          exact ⟨rfl, hb1.trans (hB.mono hb1.size)⟩
    · rw [nodeV_choice]
      rw [hv] at IH1 ⊢
      rw [hv2] at IH2 ⊢
      clear hp0 hq0
      have hm : ∀ W : World, (method 248 79 (.agg #[.iface T x, .iface U y]) "loop.example/surelywrong/impl.parts").run Tryd.prog W = .ok (119, .agg #[.iface T x, .iface U y]) W := fun _ => by kernel_rfl
      go_enter Tryd.func44, Tryd.ntmps44
      go_wp2_with (go_at_call 119; refine (parts119 T U x y _).mono ?_; rintro e W1 ⟨g, rfl, hg, c0, c1, hb1⟩)
      go_loopw [3, 9] (fun o i wr => ((o = .int .i64 1 ∧ i = .int .i64 0) ∨ (o = .int .i64 (1 + (p.size : Int)) ∧ i = .int .i64 1) ∨ (o = .int .i64 (1 + (p.size : Int) + (q.size : Int)) ∧ i = .int .i64 2)) ∧ Below W1.heap.size W1 wr) (fun _ i _ => 2 - (intOf i).toNat)
      case atStart => exact ⟨.inl ⟨rfl, rfl⟩, Below.refl _ _⟩
      case round =>
        obtain ⟨hor, hB⟩ := hrel
        rcases hor with ⟨rfl, rfl⟩ | ⟨rfl, rfl⟩ | ⟨rfl, rfl⟩
        · have e0 := (hB.cell (p := ⟨g, 0, none⟩) hg).trans c0
          go_wp2_with fail
          go_at_call 44
          refine (IH1 _).mono ?_
          rintro e W2 ⟨rfl, hb2⟩
          go_wp2_with fail
          go_roundw
          case rel => exact ⟨.inr (.inl ⟨by go_num, rfl⟩), hB.trans (hb2.mono hB.size)⟩
          case measure => simp [intOf]
        · have e0 := (hB.cell (p := ⟨g, 1, none⟩) hg).trans c1
          go_wp2_with fail
          go_at_call 44
          refine (IH2 _).mono ?_
          rintro e W2 ⟨rfl, hb2⟩
          go_wp2_with fail
          go_roundw
          case rel => exact ⟨.inr (.inr ⟨by go_num, rfl⟩), hB.trans (hb2.mono hB.size)⟩
          case measure => simp [intOf]
        · go_wp2
          go_ret
          exact ⟨rfl, hb1.trans (hB.mono hb1.size)⟩
end Go.Proofs.YtemilnkglkpnjaaDoor
