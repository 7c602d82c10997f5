/- Two equal lists of texts are told to be the same by the laws' own comparison. -/
import Derived.Test.YtemilnkglkpnjaaDoorG2
namespace Go.Proofs.YtemilnkglkpnjaaDoor
open Go.ChangeShapes Go.WideShapes Go.ChangeAt Go.RowKit Go.Shelf
attribute [local go_sem] Oper.semAt_some
set_option maxRecDepth 100000

theorem sw17nil (W : World) (a b : Option Addr) (c d : Nat) :
    Calls Tryd.prog 17 #[.slice a 0 c, .slice b 0 d] W fun e w' => e = .returned (.bool true) ∧ Below W.heap.size W w' := by
  go_enter Tryd.func17, Tryd.ntmps17
  go_wp2
  go_loop [11] (fun i => i = .int .i64 0) (fun _ => 0)
  case atStart => rfl
  case round =>
    obtain rfl := hrel
    go_wp2
    go_ret
    exact ⟨rfl, Below.refl _ _⟩

set_option maxHeartbeats 1000000 in
theorem sw17row (W : World) (g h c d : Nat) (ws : List (List UInt8)) (hm : ws.length ≤ maxLen)
    (hx : ∀ i, i < ws.length → W.cell? ⟨g, i, none⟩ = some (.string ⟨(ws[i]?.getD []).toArray⟩)) (hy : ∀ i, i < ws.length → W.cell? ⟨h, i, none⟩ = some (.string ⟨(ws[i]?.getD []).toArray⟩)) :
    Calls Tryd.prog 17 #[.slice (some ⟨g, 0, none⟩) ws.length c, .slice (some ⟨h, 0, none⟩) ws.length d] W fun e w' => e = .returned (.bool true) ∧ Below W.heap.size W w' := by
  unfold maxLen at hm
  have HX := Lib.hid hx
  have HY := Lib.hid hy
  clear hx hy
  go_enter Tryd.func17, Tryd.ntmps17
  go_wp2
  go_loopw [11] (fun i wr => ∃ k : Nat, k ≤ ws.length ∧ i = .int .i64 k ∧ Below W.heap.size W wr ∧ ∀ a, wr.cell? a = W.cell? a) (fun i _ => ws.length - (intOf i).toNat)
  case atStart => exact ⟨0, by omega, rfl, Below.refl _ _, fun _ => rfl⟩
  case round =>
    obtain ⟨k, hk, rfl, hB, hs⟩ := hrel
    by_cases hlt : k < ws.length
    · obtain ⟨p, hp⟩ : ∃ p, p = ws[k]?.getD [] := ⟨_, rfl⟩
      have c1 : wr.cell? ⟨g, k, none⟩ = some (.string ⟨p.toArray⟩) := by rw [hs, HX.out k hlt, hp]
      have c2 : wr.cell? ⟨h, k, none⟩ = some (.string ⟨p.toArray⟩) := by rw [hs, HY.out k hlt, hp]
      have HS := Lib.hid hs
      clear hs hp
      go_wp2
      go_quiet (fail)
      go_wp2
      go_roundw
      case rel => exact ⟨k + 1, by omega, by go_num, below_drewN hB _, fun a => HS.out a⟩
      case measure => simp [intOf]; omega
    · have e : k = ws.length := by omega
      clear hlt hk
      subst e
      go_wp2
      go_ret
      exact ⟨rfl, hB⟩

theorem sw17 {W : World} {B1 B2 : Nat} {v1 v2 : Value} {ws : List (List UInt8)} (h1 : TRow W B1 v1 ws) (h2 : TRow W B2 v2 ws) :
    Calls Tryd.prog 17 #[v1, v2] W fun e w' => e = .returned (.bool true) ∧ Below W.heap.size W w' := by
  rcases h1.cases with ⟨rfl, h0⟩ | ⟨g, cap, rfl, _, _, hm⟩
  · subst h0
    rcases h2.cases with ⟨rfl, _⟩ | ⟨g', cap', rfl, _, _, hm⟩
    · exact sw17nil W _ _ _ _
    · exact sw17nil W _ _ _ _
  · rcases h2.cases with ⟨rfl, h0⟩ | ⟨g', cap', rfl, _, _, _⟩
    · subst h0
      exact sw17nil W _ _ _ _
    · exact sw17row W g g' cap cap' ws hm (h1.cell rfl) (h2.cell rfl)
end Go.Proofs.YtemilnkglkpnjaaDoor
