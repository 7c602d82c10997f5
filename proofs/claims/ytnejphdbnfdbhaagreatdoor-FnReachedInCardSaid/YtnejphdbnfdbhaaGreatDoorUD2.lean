/- The visitor's sequences, choices; what is visited. -/
import Derived.Test.YtnejphdbnfdbhaaGreatDoorUD0
namespace Go.Proofs.YtnejphdbnfdbhaaGreatDoor
open Go.ChangeShapes Go.WideShapes Go.ChangeAt Go.RowKit Go.Shelf
attribute [local go_sem] Oper.semAt_some
set_option maxRecDepth 100000

set_option maxHeartbeats 4000000 in
theorem b_seq (T : Nat) (p q : Node) (hp : p.ok) (hq : q.ok) (HP : Visits T p) (HQ : Visits T q) (b : Nat) (x : Nat × Nat) (W : World) (hx : Small x) (hB : Box W b T x) :
    Calls Tryz.prog 161 #[.pointer (some ⟨b, 0, none⟩), .agg #[.iface (nodeT p) (nodeX p), .iface (nodeT q) (nodeX q)]] W (Left W b T (aft T (.pair 59 p q) x)) := by
  have hy := aft_small (T := T) hp hx
  rw [aft_seq]
  have H1 := HP b x
  have H2 := HQ b (aft T p x)
  generalize aft T q (aft T p x) = z at H2 ⊢
  generalize aft T p x = y at H1 H2 hy
  rw [nodeV_eq p hp] at H1
  rw [nodeV_eq q hq] at H2
  have L0 := Lies.new W #[.iface (nodeT p) (nodeX p), .iface (nodeT q) (nodeX q)] 119
  have hB1 := hB.alloc (.cells #[.iface (nodeT p) (nodeX p), .iface (nodeT q) (nodeX q)] 119)
  have G1 := left_none (b := b) (World.grownBy_alloc W (.cells #[.iface (nodeT p) (nodeX p), .iface (nodeT q) (nodeX q)] 119) none)
  have hne : b ≠ W.heap.size := Nat.ne_of_lt hB.lt
  go_enter Tryz.func161, Tryz.ntmps161
  go_wp2_with fail
  refine (H1 _ hx hB1).mono ?_
  rintro e W1 ⟨rfl, hB2, G2⟩
  have L1 := L0.kept G2 (by simp; exact fun h => hne h.symm)
  obtain ⟨_, c1, _, _⟩ := L1.cells
  go_wp2_with fail
  refine (H2 _ hy hB2).mono ?_
  rintro e W2 ⟨rfl, hB3, G3⟩
  go_wp2_with fail
  go_end0
  exact ⟨rfl, hB3, left_trans (left_trans G1 G2) G3⟩
set_option maxHeartbeats 4000000 in
theorem bvis_seq (T : Nat) (p q : Node) (hp : p.ok) (hq : q.ok) (HP : Visits T p) (HQ : Visits T q) : Visits T (.pair 59 p q) := by
  intro b x W hx hB
  have hB1 := hB.alloc (.cells #[.iface (nodeT p) (nodeX p), .iface (nodeT q) (nodeX q)] 119)
  have G1 := left_none (b := b) (World.grownBy_alloc W (.cells #[.iface (nodeT p) (nodeX p), .iface (nodeT q) (nodeX q)] 119) none)
  have hw := b_seq T p q hp hq HP HQ b x _ hx hB1
  rw [nodeV_seq, nodeV_eq p hp, nodeV_eq q hq]
  obtain ⟨m1, m2, m3, m4⟩ := bm b (W.alloc (.cells #[.iface (nodeT p) (nodeX p), .iface (nodeT q) (nodeX q)] 119))
  have hcf : ∀ v W, (callFunc 161 #[.pointer (some ⟨b, 0, none⟩), v]).run Tryz.prog W = .ok (.enter 161 #[.pointer (some ⟨b, 0, none⟩), v]) W := fun v W => by kernel_rfl
  have t1 := va_sa (.iface (nodeT p) (nodeX p)) (.iface (nodeT q) (nodeX q))
  have t2 := va_ss (.iface (nodeT p) (nodeX p)) (.iface (nodeT q) (nodeX q))
  go_enter Tryz.func52, Tryz.ntmps52
  go_wp2_with fail
  refine hw.mono ?_
  rintro e W2 ⟨rfl, h2, G2⟩
  go_wp2_with fail
  go_end0
  exact ⟨rfl, h2, left_trans G1 G2⟩
set_option maxHeartbeats 4000000 in
theorem bvis_choice (T : Nat) (p q : Node) (hp : p.ok) (hq : q.ok)
    (hc : ∀ (b : Nat) (x : Nat × Nat) (W : World), Small x → Box W b T x → Calls Tryz.prog 159 #[.pointer (some ⟨b, 0, none⟩), .agg #[.iface (nodeT p) (nodeX p), .iface (nodeT q) (nodeX q)]] W (Left W b T (aft T (.pair 124 p q) x))) : Visits T (.pair 124 p q) := by
  intro b x W hx hB
  have hB1 := hB.alloc (.cells #[.iface (nodeT p) (nodeX p), .iface (nodeT q) (nodeX q)] 122)
  have G1 := left_none (b := b) (World.grownBy_alloc W (.cells #[.iface (nodeT p) (nodeX p), .iface (nodeT q) (nodeX q)] 122) none)
  have hw := hc b x _ hx hB1
  rw [nodeV_choice, nodeV_eq p hp, nodeV_eq q hq]
  obtain ⟨m1, m2, m3, m4⟩ := bm b (W.alloc (.cells #[.iface (nodeT p) (nodeX p), .iface (nodeT q) (nodeX q)] 122))
  have hcf : ∀ v W, (callFunc 159 #[.pointer (some ⟨b, 0, none⟩), v]).run Tryz.prog W = .ok (.enter 159 #[.pointer (some ⟨b, 0, none⟩), v]) W := fun v W => by kernel_rfl
  have t1 := va_ca (.iface (nodeT p) (nodeX p)) (.iface (nodeT q) (nodeX q))
  have t2 := va_cs (.iface (nodeT p) (nodeX p)) (.iface (nodeT q) (nodeX q))
  have t3 := va_cc (.iface (nodeT p) (nodeX p)) (.iface (nodeT q) (nodeX q))
  go_enter Tryz.func52, Tryz.ntmps52
  go_wp2_with fail
  refine hw.mono ?_
  rintro e W2 ⟨rfl, h2, G2⟩
  go_wp2_with fail
  go_end0
  exact ⟨rfl, h2, left_trans G1 G2⟩
set_option maxHeartbeats 4000000 in
theorem bvis_loop (T : Nat) (p : Node) (hp : p.ok)
    (hc : ∀ (b : Nat) (x : Nat × Nat) (W : World), Small x → Box W b T x → Calls Tryz.prog 160 #[.pointer (some ⟨b, 0, none⟩), .agg #[.iface (nodeT p) (nodeX p)]] W (Left W b T (aft T (.loop p) x))) : Visits T (.loop p) := by
  intro b x W hx hB
  have hB1 := hB.alloc (.cells #[.iface (nodeT p) (nodeX p)] 124)
  have G1 := left_none (b := b) (World.grownBy_alloc W (.cells #[.iface (nodeT p) (nodeX p)] 124) none)
  have hw := hc b x _ hx hB1
  unfold nodeV
  rw [nodeV_eq p hp]
  obtain ⟨m1, m2, m3, m4⟩ := bm b (W.alloc (.cells #[.iface (nodeT p) (nodeX p)] 124))
  have hcf : ∀ v W, (callFunc 160 #[.pointer (some ⟨b, 0, none⟩), v]).run Tryz.prog W = .ok (.enter 160 #[.pointer (some ⟨b, 0, none⟩), v]) W := fun v W => by kernel_rfl
  have t1 := va_la (.iface (nodeT p) (nodeX p))
  have t2 := va_ls (.iface (nodeT p) (nodeX p))
  have t3 := va_lc (.iface (nodeT p) (nodeX p))
  have t4 := va_ll (.iface (nodeT p) (nodeX p))
  go_enter Tryz.func52, Tryz.ntmps52
  go_wp2_with fail
  refine hw.mono ?_
  rintro e W2 ⟨rfl, h2, G2⟩
  go_wp2_with fail
  go_end0
  exact ⟨rfl, h2, left_trans G1 G2⟩
set_option maxHeartbeats 4000000 in
theorem bvis_atom (T : Nat) (a : List UInt8)
    (hc : ∀ (b : Nat) (x : Nat × Nat) (W : World), Small x → Box W b T x → Calls Tryz.prog 158 #[.pointer (some ⟨b, 0, none⟩), .string ⟨a.toArray⟩] W (Left W b T (aft T (.atom a) x))) : Visits T (.atom a) := by
  intro b x W hx hB
  have hw := hc b x _ hx hB
  have t1 := va_aa ⟨a.toArray⟩
  obtain ⟨m1, m2, m3, m4⟩ := bm b W
  have hcf : ∀ v W, (callFunc 158 #[.pointer (some ⟨b, 0, none⟩), v]).run Tryz.prog W = .ok (.enter 158 #[.pointer (some ⟨b, 0, none⟩), v]) W := fun v W => by kernel_rfl
  unfold nodeV
  go_enter Tryz.func52, Tryz.ntmps52
  go_wp2_with fail
  refine hw.mono ?_
  rintro e W2 ⟨rfl, h2, G2⟩
  go_wp2_with fail
  go_end0
  exact ⟨rfl, h2, G2⟩
end Go.Proofs.YtnejphdbnfdbhaaGreatDoor

