/- Chapter 7, the program: how many times a loop is gone through. -/
import Derived.Test.YtngcdgnijfiocaaGreatDoorPA
import Derived.Test.YtngcdgnijfiocaaGreatDoorM7
namespace Go.Proofs.YtngcdgnijfiocaaGreatDoor
open Go.ChangeShapes Go.WideShapes Go.ChangeAt Go.RowKit Go.Shelf
attribute [local go_sem] Oper.semAt_some
set_option maxRecDepth 100000

theorem fieldOk (a b : Int) (W : World) : (Instr.field 77 (.agg #[.int .i64 a, .int .i64 b]) 0).run Tryz.prog W = .ok (.int .i64 a) W := by kernel_rfl
theorem fieldErr (a b : Int) (W : World) : (Instr.field 77 (.agg #[.int .i64 a, .int .i64 b]) 1).run Tryz.prog W = .ok (.int .i64 b) W := by kernel_rfl
theorem eqAt_def (p : Node) (x : Int) (m t : Nat) : eqAt p x m t = decide (exitN x (upP p m t) = exitN x (runR (.loop p) m)) := rfl
theorem box_new2 (W : World) (v : Value) (t : TypeId) (cs : Array Value) (t2 : TypeId) : Lies ((W.alloc (.cells #[v] t)).alloc (.cells cs t2)) W.heap.size #[v] t := (Lies.new W #[v] t).alloc _
theorem Lies.first {W : World} {b : Nat} {v : Value} {t : TypeId} (h : Lies W b #[v] t) : W.cell? ⟨b, 0, none⟩ = some v := by
  unfold Lies at h
  simp [World.cell?, h]
set_option maxHeartbeats 4000000 in
theorem up45 (p : Node) (hok : p.ok) (t : Nat) (ht : t ≤ 1000) (m : Nat) (hm : m < 512) (W : World) :
    Calls Tryz.prog 72 #[.agg #[nodeV p], .int .i64 (t : Int), .int .i64 (m : Int)] W fun e W' => e = .returned (.agg #[.int .i64 ((upP p m t).1 : Int), .int .i64 ((upP p m t).2 : Int)]) ∧ Below W.heap.size W W' := by
  have hF0 := fieldOk
  have hF1 := fieldErr
  have HR := fun (X : World) q hq => prun27 p hok q hq X
  rw [nodeV_eq p hok] at HR ⊢
  have ht2 : (t : Int) ≤ 1000 := by omega
  have hL := box_new2 W (.iface (nodeT p) (nodeX p)) 66 #[.int .i64 0, .int .i64 0] 77
  have hO := lies_new2 W (.cells #[.iface (nodeT p) (nodeX p)] 66) #[.int .i64 0, .int .i64 0] 77
  have hA : Below W.heap.size W ((W.alloc (.cells #[.iface (nodeT p) (nodeX p)] 66)).alloc (.cells #[.int .i64 0, .int .i64 0] 77)) := ((Below.refl _ W).alloc (Nat.le_refl _) _).alloc (by simp) _
  have hs2 : ((W.alloc (.cells #[.iface (nodeT p) (nodeX p)] 66)).alloc (.cells #[.int .i64 0, .int .i64 0] 77)).heap.size = W.heap.size + 1 + 1 := by simp
  have hu : upP p m t = (fP p m t, (runR p (fP p m t)).2) := rfl
  have HUP := Lib.hid hu
  clear hu
  generalize upP p m t = y at HUP ⊢
  go_enter Tryz.func72, Tryz.ntmps72
  go_wp2_with fail
  generalize (W.alloc (.cells #[.iface (nodeT p) (nodeX p)] 66)).alloc (.cells #[.int .i64 0, .int .i64 0] 77) = W0 at hL hO hA hs2 ⊢
  go_loopw [2, 8] (fun f i wr => ∃ j : Nat, j ≤ t ∧ i = .int .i64 (j : Int) ∧ f = .int .i64 ((fP p m j : Nat) : Int) ∧ Below W0.heap.size W0 wr) (fun _ i _ => t - (intOf i).toNat)
  case atStart => exact ⟨0, by omega, rfl, rfl, Below.refl _ _⟩
  case round =>
    obtain ⟨j, hj, rfl, rfl, hB⟩ := hrel
    have hL1 := hL.below hB
    have hO1 := hO.below hB
    have hc := hL1.first
    have hBW := hA.trans (hB.mono hA.size)
    have hf := fP_lt hok hm j
    have hI := HR wr (fP p m j) hf
    have hs := run_lt p hok _ hf
    by_cases hlt : j < t
    · have hlt2 : (j : Int) < (t : Int) := by omega
      have hor := or_nat (fP p m j) (runR p (fP p m j)).1 (by omega) (by omega)
      have hn : fP p m (j + 1) = fP p m j ||| (runR p (fP p m j)).1 := rfl
      have HN := Lib.hid hn
      clear hn HR
      generalize runR p (fP p m j) = o at hI hs hor HN
      generalize fP p m j = q at hf hI hor HN
      go_wp2_with fail
      go_at_call 43
      refine hI.mono ?_
      rintro e W2 ⟨rfl, b2⟩
      go_wp2_with fail
      go_roundw
      case rel => exact ⟨j + 1, by omega, by go_num, by rw [HN.out], hB.trans (b2.mono hB.size)⟩
      case measure => simp [intOf]; omega
    · have hjt : j = t := by omega
      subst hjt
      have hy := HUP.out
      clear HUP
      subst hy
      clear HR
      have hge : ¬ ((j : Int) < (j : Int)) := by omega
      go_wp2_with fail
      go_at_call 43
      refine hI.mono ?_
      rintro e W2 ⟨rfl, b2⟩
      have L := hO1.below b2
      obtain ⟨q0, q1, q2, q3⟩ := L.cells
      go_wp2_with fail
      have RS := (L.set0 (.int .i64 (fP p m j : Int))).set1 (.int .i64 ((runR p (fP p m j)).2 : Int))
      obtain ⟨s0, s1, _, _⟩ := RS.cells
      have RB := ((hBW.trans (b2.mono hBW.size)).setCell (p := ⟨W.heap.size + 1, 0, none⟩) (Nat.le_succ _) (.int .i64 (fP p m j : Int))).setCell (p := ⟨W.heap.size + 1, 1, none⟩) (Nat.le_succ _) (.int .i64 ((runR p (fP p m j)).2 : Int))
      clear q0 q1 q2 q3 L
      exact bodyPost_ret (v := .agg #[.int .i64 (fP p m j : Int), .int .i64 ((runR p (fP p m j)).2 : Int)]) (by simp [results, Tryz.results72, go_sem, s0, s1]) rfl ⟨rfl, RB⟩
set_option maxHeartbeats 4000000 in
theorem times20 (p : Node) (hok : p.ok) (m : Nat) (hm : m < 512) (x : Int) (hx : x = 0 ∨ x = 1) (W : World) :
    Calls Tryz.prog 40 #[.agg #[nodeV p], .int .i64 (m : Int), .int .i64 x] W fun e W' => e = .returned (.int .i64 ((timesN p x m : Nat) : Int)) ∧ Below W.heap.size W W' := by
  have HU := fun (X : World) t ht => up45 p hok t ht m hm X
  have HR := fun (X : World) => prun27 (.loop p) hok m hm X
  have HE := fun a b X => at28x a b x hx X
  have HT := Lib.hid (fun t ht h3 h4 => times_at (p := p) (x := x) (m := m) (t := t) ht h3 h4)
  have HZ := Lib.hid (times_end hok x hm)
  generalize timesN p x m = res at HT ⊢
  have hv0 : nodeV (.loop p) = .iface 66 (.agg #[nodeV p]) := rfl
  rw [hv0] at HR
  clear hv0
  rw [nodeV_eq p hok] at HU HR ⊢
  have hL := Lies.new W #[.iface (nodeT p) (nodeX p)] 66
  have hc := hL.first
  have hA : Below W.heap.size W (W.alloc (.cells #[.iface (nodeT p) (nodeX p)] 66)) := (Below.refl _ W).alloc (Nat.le_refl _) _
  have HR1 := fun X => (HR X)
  have HE1 := fun X => HE (runR (.loop p) m).1 (runR (.loop p) m).2 X
  change ∀ X, Calls _ _ _ X fun e w' => e = .returned (.int .i64 ((exitN x (runR (.loop p) m) : Nat) : Int)) ∧ Below X.heap.size X w' at HE1
  clear HR1
  go_enter Tryz.func40, Tryz.ntmps40
  go_wp2_with fail
  go_at_call 43
  refine (HR _).mono ?_
  rintro e W1 ⟨rfl, b1⟩
  have B1 := hA.trans (b1.mono hA.size)
  have hL1 := hL.below b1
  clear hc
  go_wp2_with fail
  go_at_call 44
  refine (HE1 _).mono ?_
  rintro e W2 ⟨rfl, b2⟩
  have B2 := B1.trans (b2.mono B1.size)
  have hL2 := hL1.below b2
  clear hL hL1 b1 b2 B1 HE1 HR hA
  go_wp2_with fail
  go_loopw [8] (fun i wr => ∃ j : Nat, j ≤ 18 ∧ i = .int .i64 (j : Int) ∧ (∀ j', j' < j → eqAt p x m j' = false) ∧ Below W2.heap.size W2 wr) (fun i _ => 19 - (intOf i).toNat)
  case atStart => exact ⟨0, by omega, rfl, fun j hj => by omega, Below.refl _ _⟩
  case round =>
    obtain ⟨j, hj, rfl, hno, hB⟩ := hrel
    have hc := (hL2.below hB).first
    have hBW := B2.trans (hB.mono B2.size)
    have hI := HU wr j (by omega)
    have hEj := fun X => HE (upP p m j).1 (upP p m j).2 X
    change ∀ X, Calls _ _ _ X fun e w' => e = .returned (.int .i64 ((exitN x (upP p m j) : Nat) : Int)) ∧ Below X.heap.size X w' at hEj
    have q9 := eqAt_def p x m j
    generalize exitN x (upP p m j) = a at q9 hEj
    generalize upP p m j = y at hI hEj
    by_cases hq : (a : Int) = ((exitN x (runR (.loop p) m) : Nat) : Int)
    · have hyes : eqAt p x m j = true := by rw [q9]; exact decide_eq_true (by omega)
      have hres := HT.out j hj hno hyes
      subst hres
      clear HT hno q9 hyes HZ HU HE
      go_wp2_with fail
      go_at_call 72
      refine hI.mono ?_
      rintro e W3 ⟨rfl, b3⟩
      go_wp2_with fail
      go_at_call 44
      refine (hEj _).mono ?_
      rintro e W4 ⟨rfl, b4⟩
      go_wp2_with fail
      go_ret
      exact ⟨rfl, (hBW.trans (b3.mono hBW.size)).trans (b4.mono (hBW.trans (b3.mono hBW.size)).size)⟩
    · have hnot : eqAt p x m j = false := by rw [q9]; exact decide_eq_false (by omega)
      have hj17 : j ≤ 17 := by
        by_cases h18 : j = 18
        · subst h18; have := HZ.out; rw [this] at hnot; cases hnot
        · omega
      have hno2 : ∀ j', j' < j + 1 → eqAt p x m j' = false := fun j' hj' => by
        by_cases he : j' = j
        · rw [he]; exact hnot
        · exact hno j' (by omega)
      have HNO := Lib.hid hno2
      clear hno hno2 q9 hnot HZ HT HU HE
      go_wp2_with fail
      go_at_call 72
      refine hI.mono ?_
      rintro e W3 ⟨rfl, b3⟩
      go_wp2_with fail
      go_at_call 44
      refine (hEj _).mono ?_
      rintro e W4 ⟨rfl, b4⟩
      go_wp2_with fail
      go_roundw
      case rel => exact ⟨j + 1, by omega, by go_num, HNO.out, (hB.trans (b3.mono hB.size)).trans (b4.mono (hB.trans (b3.mono hB.size)).size)⟩
      case measure => simp [intOf]; omega
end Go.Proofs.YtngcdgnijfiocaaGreatDoor

