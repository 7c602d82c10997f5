/- The model's programs in memory: how many loops, how many programs. -/
import Derived.Test.YtemilnkglkpnjaaDoorQ2
namespace Go.Proofs.YtemilnkglkpnjaaDoor
open Go.ChangeShapes Go.WideShapes Go.ChangeAt Go.RowKit Go.Shelf
attribute [local go_sem] Oper.semAt_some
set_option maxRecDepth 100000

theorem NodeIs.kind {W : World} {lo hi : Nat} {nd : Node} {k : Int} {s : ByteArray} {ad : Option Addr} {n cap : Nat} (h : NodeIs W lo hi nd k s ad n cap) : 0 ≤ k ∧ k ≤ 255 := by
  cases nd with
  | atom a => obtain ⟨rfl, _⟩ := h; omega
  | loop p => obtain ⟨rfl, _⟩ := h; omega
  | pair k0 p q => obtain ⟨rfl, _⟩ := h; have := k0.toNat_lt; omega
theorem NodeIs.below {W W' : World} {lo hi : Nat} {nd : Node} {k : Int} {s : ByteArray} {ad : Option Addr} {n cap : Nat} (h : NodeIs W lo hi nd k s ad n cap) (hb : Below W.heap.size W W') (hhi : hi ≤ W.heap.size) : NodeIs W' lo hi nd k s ad n cap :=
  h.same (fun b _ h2 => hb.block b (Nat.lt_of_lt_of_le h2 hhi))

theorem Var.stay {W W' : World} {g : Nat} {k : Int} {s : ByteArray} {ad : Option Addr} {m cap : Nat} (h : Var W g k s ad m cap) (hb : Below (g + 1) W W') : Var W' g k s ad m cap := by
  unfold Var at *
  rw [hb.block g (Nat.lt_succ_self _)]
  exact h

set_option maxHeartbeats 2000000 in
theorem loops47 : ∀ (nd : Node) (W : World) (lo hi : Nat) (k : Int) (s : ByteArray) (ad : Option Addr) (n cap : Nat), NodeIs W lo hi nd k s ad n cap → hi ≤ W.heap.size → nd.ok → nd.loops ≤ 9000000 →
    Calls Tryd.prog 47 #[.agg #[.int .u8 k, .string s, .slice ad n cap]] W fun e w' => e = .returned (.int .i64 (nd.loops : Int)) ∧ Below W.heap.size W w'
  | .atom a, W, lo, hi, k, s, ad, n, cap, h, hhi, hok, hl => by
    obtain ⟨rfl, rfl, rfl⟩ := h
    have hA : Below W.heap.size W (W.alloc (.cells #[.int .u8 97, .string ⟨a.toArray⟩, .slice ad 0 cap] 55)) := (Below.refl _ _).alloc (Nat.le_refl _) _
    obtain ⟨x0, x1, x2, _⟩ := (Var.new W 97 ⟨a.toArray⟩ ad 0 cap).cells
    go_enter Tryd.func47, Tryd.ntmps47
    go_wp2_with fail
    go_loopw [3, 9] (fun o i wr => o = .int .i64 0 ∧ i = .int .i64 0 ∧ wr = W.alloc (.cells #[.int .u8 97, .string ⟨a.toArray⟩, .slice ad 0 cap] 55)) (fun _ _ _ => 0)
    case atStart => exact ⟨rfl, rfl, rfl⟩
    case round =>
      obtain ⟨rfl, rfl, rfl⟩ := hrel
      go_wp2
      go_ret
      exact ⟨rfl, hA⟩
  | .loop p, W, lo, hi, k, s, ad, n, cap, h, hhi, hok, hl => by
    obtain ⟨rfl, rfl, rfl, g, rfl, hg1, hg2, k1, s1, ad1, n1, cap1, c0, c1, c2, hp⟩ := h
    have hpl : p.loops ≤ 8999999 := by simp [Node.loops] at hl; omega
    have hpl1 : (p.loops : Int) ≤ 8999999 := by omega
    have hA : Below W.heap.size W (W.alloc (.cells #[.int .u8 123, .string ⟨#[]⟩, .slice (some ⟨g, 0, none⟩) 1 cap] 55)) := (Below.refl _ _).alloc (Nat.le_refl _) _
    have hv := Var.new W 123 ⟨#[]⟩ (some ⟨g, 0, none⟩) 1 cap
    go_enter Tryd.func47, Tryd.ntmps47
    obtain ⟨x0, x1, x2, _⟩ := hv.cells
    go_wp2_with fail
    clear x0 x1 x2
    go_loopw [3, 9] (fun o i wr => ((o = .int .i64 0 ∧ i = .int .i64 0) ∨ (o = .int .i64 (p.loops : Int) ∧ i = .int .i64 1)) ∧ Below (W.heap.size + 1) (W.alloc (.cells #[.int .u8 123, .string ⟨#[]⟩, .slice (some ⟨g, 0, none⟩) 1 cap] 55)) wr) (fun _ i _ => 1 - (intOf i).toNat)
    case atStart => exact ⟨.inl ⟨rfl, rfl⟩, Below.refl _ _⟩
    case round =>
      obtain ⟨hor, hB⟩ := hrel
      rcases hor with ⟨rfl, rfl⟩ | ⟨rfl, rfl⟩
      · have hBW : Below W.heap.size W wr := hA.trans (hB.mono (Nat.le_succ _))
        have e0 := (hBW.cell (p := ⟨g, 0, none⟩) (Nat.lt_of_lt_of_le hg2 hhi)).trans c0
        have e1 := (hBW.cell (p := ⟨g, 1, none⟩) (Nat.lt_of_lt_of_le hg2 hhi)).trans c1
        have e2 := (hBW.cell (p := ⟨g, 2, none⟩) (Nat.lt_of_lt_of_le hg2 hhi)).trans c2
        have hpw := hp.below hBW hhi
        go_wp2_with fail
        go_at_call 47
        refine (loops47 p _ lo hi k1 s1 ad1 n1 cap1 (hpw.below ((Below.refl _ _).alloc (Nat.le_refl _) _) (Nat.le_trans hhi hBW.size)) (by have := hBW.size; simp; omega) hok (by omega)).mono ?_
        rintro e W2 ⟨rfl, hb2⟩
        have hB2 : Below (W.heap.size + 1) (W.alloc (.cells #[.int .u8 123, .string ⟨#[]⟩, .slice (some ⟨g, 0, none⟩) 1 cap] 55)) W2 := by
          have s1 := hB.size
          rw [World.size_alloc] at s1
          exact (hB.alloc s1 _).trans (hb2.mono (by simp; omega))
        go_wp2_with fail
        go_roundw
        case rel => exact ⟨.inr ⟨by congr 1; split <;> omega, rfl⟩, hB2⟩
        case measure => simp [intOf]
      · obtain ⟨y0, y1, y2, _⟩ := (hv.stay hB).cells
        go_wp2
        go_ret
        exact ⟨rfl, hA.trans (hB.mono (Nat.le_succ _))⟩
  | .pair k0 p q, W, lo, hi, k, s, ad, n, cap, h, hhi, hok, hl => by
    obtain ⟨rfl, rfl, rfl, g, rfl, hg1, hg2, k1, s1, ad1, n1, cap1, k2, s2, ad2, n2, cap2, ⟨c0, c1, c2⟩, ⟨c3, c4, c5⟩, hp, hq⟩ := h
    obtain ⟨hk0, hokp, hokq⟩ := hok
    have hpl : p.loops ≤ 9000000 ∧ q.loops ≤ 9000000 := by simp [Node.loops] at hl; omega
    have hpl1 : (p.loops : Int) ≤ 9000000 := by omega
    have hql1 : (q.loops : Int) ≤ 9000000 := by omega
    have hA : Below W.heap.size W (W.alloc (.cells #[.int .u8 (k0.toNat : Int), .string ⟨#[]⟩, .slice (some ⟨g, 0, none⟩) 2 cap] 55)) := (Below.refl _ _).alloc (Nat.le_refl _) _
    have hv := Var.new W (k0.toNat : Int) ⟨#[]⟩ (some ⟨g, 0, none⟩) 2 cap
    have hne : ((k0.toNat : Int) == 123) = false := by rcases hk0 with rfl | rfl <;> decide
    go_enter Tryd.func47, Tryd.ntmps47
    obtain ⟨x0, x1, x2, _⟩ := hv.cells
    go_wp2_with fail
    clear x0 x1 x2
    go_loopw [3, 9] (fun o i wr => ((o = .int .i64 0 ∧ i = .int .i64 0) ∨ (o = .int .i64 (p.loops : Int) ∧ i = .int .i64 1) ∨ (o = .int .i64 ((max p.loops q.loops : Nat) : Int) ∧ i = .int .i64 2)) ∧ Below (W.heap.size + 1) (W.alloc (.cells #[.int .u8 (k0.toNat : Int), .string ⟨#[]⟩, .slice (some ⟨g, 0, none⟩) 2 cap] 55)) wr) (fun _ i _ => 2 - (intOf i).toNat)
    case atStart => exact ⟨.inl ⟨rfl, rfl⟩, Below.refl _ _⟩
    case round =>
      obtain ⟨hor, hB⟩ := hrel
      have hBW : Below W.heap.size W wr := hA.trans (hB.mono (Nat.le_succ _))
      rcases hor with ⟨rfl, rfl⟩ | ⟨rfl, rfl⟩ | ⟨rfl, rfl⟩
      · have e0 := (hBW.cell (p := ⟨g, 0, none⟩) (Nat.lt_of_lt_of_le hg2 hhi)).trans c0
        have e1 := (hBW.cell (p := ⟨g, 1, none⟩) (Nat.lt_of_lt_of_le hg2 hhi)).trans c1
        have e2 := (hBW.cell (p := ⟨g, 2, none⟩) (Nat.lt_of_lt_of_le hg2 hhi)).trans c2
        have hpw := hp.below hBW hhi
        go_wp2_with fail
        go_at_call 47
        refine (loops47 p _ lo hi k1 s1 ad1 n1 cap1 (hpw.below ((Below.refl _ _).alloc (Nat.le_refl _) _) (Nat.le_trans hhi hBW.size)) (by have := hBW.size; simp; omega) hokp hpl.1).mono ?_
        rintro e W2 ⟨rfl, hb2⟩
        have hB2 : Below (W.heap.size + 1) (W.alloc (.cells #[.int .u8 (k0.toNat : Int), .string ⟨#[]⟩, .slice (some ⟨g, 0, none⟩) 2 cap] 55)) W2 := by
          have s1 := hB.size
          rw [World.size_alloc] at s1
          exact (hB.alloc s1 _).trans (hb2.mono (by simp; omega))
        go_wp2_with fail
        go_roundw
        case rel => exact ⟨.inr (.inl ⟨by congr 1; split <;> omega, rfl⟩), hB2⟩
        case measure => simp [intOf]
      · have e0 := (hBW.cell (p := ⟨g, 3, none⟩) (Nat.lt_of_lt_of_le hg2 hhi)).trans c3
        have e1 := (hBW.cell (p := ⟨g, 4, none⟩) (Nat.lt_of_lt_of_le hg2 hhi)).trans c4
        have e2 := (hBW.cell (p := ⟨g, 5, none⟩) (Nat.lt_of_lt_of_le hg2 hhi)).trans c5
        have hqw := hq.below hBW hhi
        go_wp2_with fail
        go_at_call 47
        refine (loops47 q _ lo hi k2 s2 ad2 n2 cap2 (hqw.below ((Below.refl _ _).alloc (Nat.le_refl _) _) (Nat.le_trans hhi hBW.size)) (by have := hBW.size; simp; omega) hokq hpl.2).mono ?_
        rintro e W2 ⟨rfl, hb2⟩
        have hB2 : Below (W.heap.size + 1) (W.alloc (.cells #[.int .u8 (k0.toNat : Int), .string ⟨#[]⟩, .slice (some ⟨g, 0, none⟩) 2 cap] 55)) W2 := by
          have s1 := hB.size
          rw [World.size_alloc] at s1
          exact (hB.alloc s1 _).trans (hb2.mono (by simp; omega))
        go_wp2_with fail
        go_roundw
        case rel => exact ⟨.inr (.inr ⟨by congr 1; split <;> omega, rfl⟩), hB2⟩
        case measure => simp [intOf]
      · obtain ⟨y0, y1, y2, _⟩ := (hv.stay hB).cells
        go_wp2
        go_ret
        exact ⟨rfl, hBW⟩
end Go.Proofs.YtemilnkglkpnjaaDoor

