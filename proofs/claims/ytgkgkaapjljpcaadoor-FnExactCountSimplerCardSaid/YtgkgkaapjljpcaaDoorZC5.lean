/- Chapter 11, the program: every program made simpler, and the faces. -/
import Derived.Test.YtgkgkaapjljpcaaDoorZC2
import Derived.Test.YtgkgkaapjljpcaaDoorZC3
import Derived.Test.YtgkgkaapjljpcaaDoorZC4
import Derived.Test.YtgkgkaapjljpcaaDoorQC
namespace Go.Proofs.YtgkgkaapjljpcaaDoor
open Go.ChangeShapes Go.WideShapes Go.ChangeAt Go.RowKit Go.Shelf
attribute [local go_sem] Oper.semAt_some
set_option maxRecDepth 100000

theorem psim_all {nd o : Node} {k c : Nat} (h : Sim nd o k c) : nd.ok → nd.text.length ≤ 60 → c ≤ 8000000 → PSim nd o k c := by
  induction h with
  | atom a =>
    intro hok h60 hc W B n N hL hN hM hn
    have hS := Sim.atom a
    rcases hM.find hok h60 hS with hh | hh
    · exact simp_hit _ _ hok h60 0 1 W B n hM hh
    · exact simp_stop _ _ hok h60 hok h60 rfl 0 0 hS (parts_atom a) W B n N hL hN hM hn hh
  | @loopStop p p' k c h ht ih =>
    intro hok h60 hc W B n N hL hN hM hn
    have hS := Sim.loopStop h ht
    have lp : p.text.length ≤ 60 := by simp [Node.text] at h60; omega
    obtain ⟨ok1, ln1, _⟩ := sim_keeps h hok
    have h60' : (Node.loop p').text.length ≤ 60 := by simp [Node.text] at h60 ⊢; omega
    rcases hM.find hok h60 hS with hh | hh
    · exact simp_hit _ _ hok h60 k (c + 1) W B n hM hh
    · exact simp_stop (.loop p) (.loop p') hok h60 ok1 h60' ht k c hS (parts_loop p p' k c (ih hok lp (by omega))) W B n N hL hN hM hn hh
  | @loopGo p p' nn o k c k2 c2 h ht hn2 ih ihn =>
    intro hok h60 hc W B n N hL hN hM hn
    have hS := Sim.loopGo h ht hn2
    have lp : p.text.length ≤ 60 := by simp [Node.text] at h60; omega
    obtain ⟨ok1, ln1, _⟩ := sim_keeps h hok
    have h60' : (Node.loop p').text.length ≤ 60 := by simp [Node.text] at h60 ⊢; omega
    have hnl := top_len ht
    have e1 := sim_le h
    have e2 := sim_le hn2
    rcases hM.find hok h60 hS with hh | hh
    · exact simp_hit _ _ hok h60 (k + 1 + k2) (c + c2 + 1) W B n hM hh
    · exact simp_go (.loop p) (.loop p') nn o hok h60 ok1 h60' ht k c k2 c2 (by omega) (by omega) hS (parts_loop p p' k c (ih hok lp (by omega))) (ihn (top_ok ht ok1) (by omega) (by omega)) W B n N hL hN hM hn hh
  | @pairStop s p p' q q' k1 c1 k2 c2 h1 h2 ht ih1 ih2 =>
    intro hok h60 hc W B n N hL hN hM hn
    have hS := Sim.pairStop h1 h2 ht
    have lp : p.text.length ≤ 60 := by simp [Node.text] at h60; omega
    have lq : q.text.length ≤ 60 := by simp [Node.text] at h60; omega
    obtain ⟨ok1, ln1, _⟩ := sim_keeps h1 hok.2.1
    obtain ⟨ok2, ln2, _⟩ := sim_keeps h2 hok.2.2
    have h60' : (Node.pair s p' q').text.length ≤ 60 := by simp [Node.text] at h60 ⊢; omega
    have e1 := sim_le h1
    have e2 := sim_le h2
    have i1 := ih1 hok.2.1 lp (by omega)
    have i2 := ih2 hok.2.2 lq (by omega)
    have hP : PParts (.pair s p q) (.pair s p' q') (k1 + k2) (c1 + c2) := by
      rcases hok.1 with rfl | rfl
      · exact parts_seq p p' q q' k1 c1 k2 c2 (by omega) i1 i2
      · exact parts_choice p p' q q' k1 c1 k2 c2 (by omega) i1 i2
    rcases hM.find hok h60 hS with hh | hh
    · exact simp_hit _ _ hok h60 (k1 + k2) (c1 + c2 + 1) W B n hM hh
    · exact simp_stop (.pair s p q) (.pair s p' q') hok h60 ⟨hok.1, ok1, ok2⟩ h60' ht (k1 + k2) (c1 + c2) hS hP W B n N hL hN hM hn hh
  | @pairGo s p p' q q' nn o k1 c1 k2 c2 k3 c3 h1 h2 ht hn3 ih1 ih2 ihn =>
    intro hok h60 hc W B n N hL hN hM hn
    have hS := Sim.pairGo h1 h2 ht hn3
    have lp : p.text.length ≤ 60 := by simp [Node.text] at h60; omega
    have lq : q.text.length ≤ 60 := by simp [Node.text] at h60; omega
    obtain ⟨ok1, ln1, _⟩ := sim_keeps h1 hok.2.1
    obtain ⟨ok2, ln2, _⟩ := sim_keeps h2 hok.2.2
    have okm : (Node.pair s p' q').ok := ⟨hok.1, ok1, ok2⟩
    have h60' : (Node.pair s p' q').text.length ≤ 60 := by simp [Node.text] at h60 ⊢; omega
    have hnl := top_len ht
    have e1 := sim_le h1
    have e2 := sim_le h2
    have e3 := sim_le hn3
    have i1 := ih1 hok.2.1 lp (by omega)
    have i2 := ih2 hok.2.2 lq (by omega)
    have hP : PParts (.pair s p q) (.pair s p' q') (k1 + k2) (c1 + c2) := by
      rcases hok.1 with rfl | rfl
      · exact parts_seq p p' q q' k1 c1 k2 c2 (by omega) i1 i2
      · exact parts_choice p p' q q' k1 c1 k2 c2 (by omega) i1 i2
    rcases hM.find hok h60 hS with hh | hh
    · exact simp_hit _ _ hok h60 (k1 + k2 + 1 + k3) (c1 + c2 + c3 + 1) W B n hM hh
    · exact simp_go (.pair s p q) (.pair s p' q') nn o hok h60 okm h60' ht (k1 + k2) (c1 + c2) k3 c3 (by omega) (by omega) hS hP (ihn (top_ok ht okm) (by omega) (by omega)) W B n N hL hN hM hn hh

theorem ret_simO {Z : World} {a : Act} {v x : Value} {k : Int} {g : Nat} {R : Ending → World → Prop} (hv : Lies Z g #[v, .int .i64 k] 73) (ha : a.tmps[2]?.getD undef = .pointer (some ⟨g, 0, none⟩)) (hx : a.tmps[3]?.getD undef = x) (hdf : a.defers = [])
    (h : R (.returned (.tuple #[.agg #[v, .int .i64 k], x])) Z) : bodyPost Tryd.prog Tryd.f48 R Exit.ret a Z := by
  obtain ⟨c0, c1, _, _⟩ := hv.cells
  refine bodyPost_ret (v := .tuple #[.agg #[v, .int .i64 k], x]) ?_ hdf h
  simp [results, Tryd.results48, go_sem, ha, hx, c0, c1]
set_option maxHeartbeats 2000000 in
theorem psimof_none (p : ByteArray) (w : World) {N : Nat} (hL : Laid3 N w) (hP : readP p.toList = none) :
    Calls Tryd.prog 48 #[.string p] w fun e w' => (∃ T u, e = .returned (.tuple #[.agg #[.nilIface, .int .i64 0], .iface T u])) ∧ Below w.heap.size w w' := by
  have hbA : Below w.heap.size w (w.alloc (.cells #[.nilIface, .int .i64 0] 73)) := (Below.refl _ w).alloc (Nat.le_refl _) _
  have hr := pread40 p.toList (w.alloc (.cells #[.nilIface, .int .i64 0] 73)) (hL.below hbA hL.lt)
  rw [bytes_eta] at hr
  go_enter Tryd.func48, Tryd.ntmps48
  go_wp2_with fail
  go_at_call 50
  refine hr.mono ?_
  rintro e W1 ⟨hb1, hm⟩
  rw [hP] at hm
  obtain ⟨T, u, rfl⟩ := hm
  have r1 := (Lies.new w #[.nilIface, .int .i64 0] 73).below hb1
  have hB := hbA.trans (hb1.mono hbA.size)
  obtain ⟨c0, c1, f0, f1⟩ := r1.cells
  have s1 := set_grownC W1 w.heap.size 0 1 .nilIface (.int .i64 0)
  clear hP hr hb1
  go_wp2_with fail
  exact ret_simO ((r1.set0 _).set1 _) rfl rfl rfl ⟨⟨T, u, rfl⟩, hB.grown s1 hB.size (fun i e => by cases e; exact Nat.le_refl _)⟩
set_option maxHeartbeats 2000000 in
theorem psimof_some (p : ByteArray) (w : World) {N : Nat} (hL : Laid3 N w) {nd o : Node} {k c : Nat} (hP : readP p.toList = some nd) (hs : Sim nd o k c) (hc : c ≤ 8000000) :
    Calls Tryd.prog 48 #[.string p] w fun e w' => e = .returned (.tuple #[simV o k, .nilIface]) ∧ Below w.heap.size w w' := by
  obtain ⟨hok, hpt, h60, _⟩ := readP_iff.1 hP
  have h60' : nd.text.length ≤ 60 := by rw [← hpt]; exact h60
  have hbA : Below w.heap.size w (w.alloc (.cells #[.nilIface, .int .i64 0] 73)) := (Below.refl _ w).alloc (Nat.le_refl _) _
  have hr := pread40 p.toList (w.alloc (.cells #[.nilIface, .int .i64 0] 73)) (hL.below hbA hL.lt)
  have hps := psim_all hs hok h60' hc
  have hmm := @run_makeMap Tryd.prog
  rw [bytes_eta] at hr
  obtain ⟨T1, x1, hv1⟩ := nodeV_iface o
  go_enter Tryd.func48, Tryd.ntmps48
  go_wp2_with fail
  go_at_call 50
  refine hr.mono ?_
  rintro e W1 ⟨hb1, hm⟩
  rw [hP] at hm
  dsimp only at hm
  subst hm
  have r1 := (Lies.new w #[.nilIface, .int .i64 0] 73).below hb1
  have hB := hbA.trans (hb1.mono hbA.size)
  have hL2 : Laid3 N (W1.alloc (.map #[] 0)) := hL.below (hB.alloc hB.size _) hL.lt
  have IH := hps (W1.alloc (.map #[] 0)) W1.heap.size 0 N hL2 (Nat.le_trans hL.lt hB.size) (Memo.made W1) (by omega)
  obtain ⟨T, x, hv⟩ := nodeV_iface nd
  rw [hv] at IH ⊢
  clear hP hr hb1 hps hL2 hL
  go_wp2_with fail
  go_at_call 64
  refine IH.mono ?_
  rintro e W2 ⟨rfl, g2, n2, hn2, hM2⟩
  have r2 := (r1.alloc (.map #[] 0)).kept g2 (by intro e; have := Option.some.inj e; have := r1.lt; omega)
  have hB2 : Below w.heap.size w W2 := (hB.alloc hB.size (.map #[] 0)).grown g2 (by simp; have := hB.size; omega) (fun i e => by cases e; exact hB.size)
  unfold simV
  rw [hv1]
  obtain ⟨c0, c1, f0, f1⟩ := r2.cells
  have s1 := set_grownC W2 w.heap.size 0 1 (.iface T1 x1) (.int .i64 (k : Int))
  clear IH hM2 g2 r1 hB
  go_wp2_with fail
  exact ret_simO ((r2.set0 _).set1 _) rfl rfl rfl ⟨by unfold simV; rw [hv1]; rfl, hB2.grown s1 hB2.size (fun i e => by cases e; exact Nat.le_refl _)⟩
set_option maxHeartbeats 2000000 in
theorem psimplify_none (p : ByteArray) (w : World) {N : Nat} (hL : Laid3 N w) (hP : readP p.toList = none) :
    Calls Tryd.prog 25 #[.string p] w fun e w' => e = .returned (.tuple #[.string ⟨#[]⟩, .bool false]) ∧ Below w.heap.size w w' := by
  have hr := psimof_none p w hL hP
  go_enter Tryd.func25, Tryd.ntmps25
  go_wp2_with (go_at_call 48; refine hr.mono ?_; rintro e W1 ⟨⟨T, u, rfl⟩, hb1⟩)
  go_ret2
  exact ⟨rfl, hb1.alloc hb1.size _⟩
set_option maxHeartbeats 2000000 in
theorem psimplify_some (p : ByteArray) (w : World) {N : Nat} (hL : Laid3 N w) {nd o : Node} {k c : Nat} (hP : readP p.toList = some nd) (hs : Sim nd o k c) (hc : c ≤ 8000000) :
    Calls Tryd.prog 25 #[.string p] w fun e w' => e = .returned (.tuple #[.string ⟨o.text.toArray⟩, .bool true]) ∧ Below w.heap.size w w' := by
  have hr := psimof_some p w hL hP hs hc
  obtain ⟨hok, hpt, h60, _⟩ := readP_iff.1 hP
  obtain ⟨hoo, hol, _⟩ := sim_keeps hs hok
  have hx := ptext o hoo (by rw [← hpt] at hol; omega)
  have hmt := meth_text o hoo
  have hcf := call_text o hoo
  unfold simV at hr
  rw [nodeV_eq o hoo] at hr
  clear hP hs hc hpt hol
  go_enter Tryd.func25, Tryd.ntmps25
  go_wp2_with fail
  go_at_call 48
  refine hr.mono ?_
  rintro e W1 ⟨rfl, hb1⟩
  have hB := hb1.alloc hb1.size (.cells #[.iface (nodeT o) (nodeX o), .int .i64 (k : Int)] 73)
  go_wp2_with (refine (hx _).mono ?_; rintro e W3 ⟨rfl, hb3⟩)
  go_ret2
  exact ⟨rfl, hB.trans (hb3.mono hB.size)⟩
set_option maxHeartbeats 2000000 in
theorem pcount_none (p : ByteArray) (w : World) {N : Nat} (hL : Laid3 N w) (hP : readP p.toList = none) :
    Calls Tryd.prog 29 #[.string p] w fun e w' => e = .returned (.int .i64 (-1)) ∧ Below w.heap.size w w' := by
  have hr := psimof_none p w hL hP
  go_enter Tryd.func29, Tryd.ntmps29
  go_wp2_with (go_at_call 48; refine hr.mono ?_; rintro e W1 ⟨⟨T, u, rfl⟩, hb1⟩)
  go_ret
  exact ⟨rfl, hb1.alloc hb1.size _⟩
set_option maxHeartbeats 2000000 in
theorem pcount_some (p : ByteArray) (w : World) {N : Nat} (hL : Laid3 N w) {nd o : Node} {k c : Nat} (hP : readP p.toList = some nd) (hs : Sim nd o k c) (hc : c ≤ 8000000) :
    Calls Tryd.prog 29 #[.string p] w fun e w' => e = .returned (.int .i64 (k : Int)) ∧ Below w.heap.size w w' := by
  have hr := psimof_some p w hL hP hs hc
  obtain ⟨T, x, hv⟩ := nodeV_iface o
  unfold simV at hr
  rw [hv] at hr
  clear hP hs hc
  go_enter Tryd.func29, Tryd.ntmps29
  go_wp2_with (go_at_call 48; refine hr.mono ?_; rintro e W1 ⟨rfl, hb1⟩)
  go_ret
  exact ⟨rfl, hb1.alloc hb1.size _⟩
/-- The number that counting answers. -/
theorem pplain (p : ByteArray) (w : World) (z : Int) (H : Calls Tryd.prog 29 #[.string p] w fun e w' => e = .returned (.int .i64 z) ∧ Below w.heap.size w w') :
    Calls Tryd.prog 31 #[.string p] w fun e w' => e = .returned (.bool (z == 0)) ∧ Below w.heap.size w w' := by
  go_enter Tryd.func31, Tryd.ntmps31
  go_wp2_with (go_at_call 29; refine H.mono ?_; rintro e W1 ⟨rfl, hb1⟩)
  go_ret
  exact ⟨rfl, hb1⟩
end Go.Proofs.YtgkgkaapjljpcaaDoor

