/- The program's reading of a whole text: a program, or its own error. -/
import Derived.Test.YtemilnkglkpnjaaDoorN6
import Derived.Test.YtemilnkglkpnjaaDoorN7
import Derived.Recover

namespace Go.Proofs.YtemilnkglkpnjaaDoor
open Go.ChangeShapes Go.WideShapes Go.ChangeAt Go.RowKit Go.Shelf
attribute [local go_sem] Oper.semAt_some
set_option maxRecDepth 100000

theorem catch_idle (p q : Addr) (w : World) :
    CallsD Tryd.prog 58 #[.pointer (some p), .pointer (some q)] .returning w fun e u' w' => e = .returned (.tuple #[]) ∧ u' = .returning ∧ w' = w := by
  refine callsD_of_wpS Tryd.func58 rfl fun c₀ cs hu => ?_
  apply wpS_seq
  apply wpS_region
  simp [wpOpsS, go_sem, recoverD, hu, Tryd.ntmps58, Exit.thenS]
  refine wpS_cond (t := false) (by simp [Act.eval, Array.replicate]) ?_
  simp only [Bool.false_eq_true, if_false]
  refine wpS_of_wp (wp_skip ?_)
  cases c₀
  simp_all [bodyPostS, results, Tryd.results58]

theorem catch_panicking (b b' : Nat) (hbb : b ≠ b') (x y : Value) (T : TypeId) (v : Value) (u : TypeId) (pv : Value) (older : List PanicEntry) (w : World) (hp : w.cell? ⟨b, 0, none⟩ = some x) (hq : w.cell? ⟨b', 0, none⟩ = some y) (fp : w.frozen? ⟨b, 0, none⟩ = false) (fq : w.frozen? ⟨b', 0, none⟩ = false) (he : w.cell? ⟨0, 0, none⟩ = some (.iface T v)) :
    CallsD Tryd.prog 58 #[.pointer (some ⟨b, 0, none⟩), .pointer (some ⟨b', 0, none⟩)] (.panicking ({ v := .iface u pv, recovered := false } :: older)) w fun e u' w' =>
      e = .returned (.tuple #[]) ∧ u' = .panicking ({ v := .iface u pv, recovered := true } :: older) ∧ w' = (w.setCell ⟨b, 0, none⟩ .nilIface).setCell ⟨b', 0, none⟩ (.iface T v) := by
  have hq1 : (w.setCell ⟨b, 0, none⟩ .nilIface).cell? ⟨b', 0, none⟩ = some y := by
    rw [World.cell?_setCell_other _ _ _ _ (by simp)]
    exact hq
  have fq1 : (w.setCell ⟨b, 0, none⟩ .nilIface).frozen? ⟨b', 0, none⟩ = false := by simp [fq]
  refine callsD_of_wpS Tryd.func58 rfl fun c₀ cs hu => ?_
  apply wpS_seq
  apply wpS_region
  simp [wpOpsS, go_sem, recoverD, hu, Tryd.ntmps58, Exit.thenS]
  refine wpS_cond (t := true) (by simp [Act.eval, Array.replicate]) ?_
  simp only [if_true]
  apply wpS_region
  simp [wpOpsS, go_sem, he, hp, fp, hq1, fq1, bodyPostS, results, Tryd.results58]

/-- The two named results lie in blocks b and b + 1. -/
def Two (W : World) (b : Nat) (x y : Value) : Prop := W.heap[b]? = some (.cells #[x] 44 (0, 0)) ∧ W.heap[b + 1]? = some (.cells #[y] 46 (0, 0))
theorem Two.cells {W : World} {b : Nat} {x y : Value} (h : Two W b x y) : W.cell? ⟨b, 0, none⟩ = some x ∧ W.cell? ⟨b + 1, 0, none⟩ = some y ∧ W.frozen? ⟨b, 0, none⟩ = false ∧ W.frozen? ⟨b + 1, 0, none⟩ = false := by
  obtain ⟨h1, h2⟩ := h
  exact ⟨by rw [cell_of_row _ b 0 _ 44 (0, 0) h1]; rfl, by rw [cell_of_row _ (b + 1) 0 _ 46 (0, 0) h2]; rfl, by simp [World.frozen?, h1], by simp [World.frozen?, h2]⟩
theorem Two.new (w : World) : Two ((w.alloc (.cells #[.nilIface] 44)).alloc (.cells #[.nilIface] 46)) w.heap.size .nilIface .nilIface := by
  refine ⟨?_, ?_⟩
  · have := heap_alloc_new w (.cells #[.nilIface] 44)
    exact ((World.grownBy_alloc (w.alloc (.cells #[.nilIface] 44)) (.cells #[.nilIface] 46) none).block w.heap.size (by simp) (by simp)).trans this
  · have := heap_alloc_new (w.alloc (.cells #[.nilIface] 44)) (.cells #[.nilIface] 46)
    rw [World.size_alloc] at this
    exact this
theorem Two.lt {W : World} {b : Nat} {x y : Value} (h : Two W b x y) : b + 1 < W.heap.size := (Array.getElem?_eq_some_iff.1 h.2).1
theorem Two.grown {W W' : World} {b : Nat} {x y : Value} (h : Two W b x y) {row : Option Nat} (hg : W.grownBy W' row) (h1 : some b ≠ row) (h2 : some (b + 1) ≠ row) : Two W' b x y :=
  ⟨(hg.block b (by have := h.lt; omega) h1).trans h.1, (hg.block (b + 1) h.lt h2).trans h.2⟩
theorem Two.set1 {W : World} {b : Nat} {x y : Value} (h : Two W b x y) (z : Value) : Two (W.setCell ⟨b, 0, none⟩ z) b z y := by
  refine ⟨?_, ?_⟩
  · rw [heap_setCell_same W b 0 _ 44 _ h.1]; rfl
  · rw [heap_setCell_other W ⟨b, 0, none⟩ (b + 1) _ (by simp)]; exact h.2
theorem Two.set2 {W : World} {b : Nat} {x y : Value} (h : Two W b x y) (z : Value) : Two (W.setCell ⟨b + 1, 0, none⟩ z) b x z := by
  refine ⟨?_, ?_⟩
  · rw [heap_setCell_other W ⟨b + 1, 0, none⟩ b _ (by simp)]; exact h.1
  · rw [heap_setCell_same W (b + 1) 0 _ 46 _ h.2]; rfl

theorem ret40 {Z : World} {tm : Array Value} {x y : Value} {b : Nat} {R : Ending → World → Prop} (t2 : tm[2]?.getD undef = .pointer (some ⟨b, 0, none⟩)) (t3 : tm[3]?.getD undef = .pointer (some ⟨b + 1, 0, none⟩))
    (h2 : Two Z b x y) (h : R (.returned (.tuple #[x, y])) Z) : Leaves Tryd.prog Tryd.f40 tm R [] .returning Z := by
  obtain ⟨c1, c2, _, _⟩ := h2.cells
  exact ⟨.tuple #[x, y], by simp [results, Tryd.results40, go_sem, t2, t3, c1, c2], h⟩

/-- What reading a whole text leaves. -/
def PWhole (l : List UInt8) (w : World) (e : Ending) (w' : World) : Prop := Below w.heap.size w w' ∧
  match readP l with
  | some nd => e = .returned (.tuple #[nodeV nd, .nilIface])
  | none => ∃ T v, e = .returned (.tuple #[.nilIface, .iface T v])
theorem pwhole_none {l : List UInt8} (h : readP l = none) {w w' : World} {e : Ending} (hb : Below w.heap.size w w') (he : ∃ T v, e = .returned (.tuple #[.nilIface, .iface T v])) : PWhole l w e w' := by
  refine ⟨hb, ?_⟩
  rw [h]
  exact he
theorem pwhole_some {l : List UInt8} {nd : Node} (h : readP l = some nd) {w w' : World} {e : Ending} (hb : Below w.heap.size w w') (he : e = .returned (.tuple #[nodeV nd, .nilIface])) : PWhole l w e w' := by
  refine ⟨hb, ?_⟩
  rw [h]
  exact he

theorem read_long (l : List UInt8) (h : (60 : Int) < (l.length : Int)) (w : World) {N : Nat} (hE : Laid3 N w) :
    Calls Tryd.prog 40 #[.string ⟨l.toArray⟩] w (PWhole l w) := by
  have hmf : ∀ (fn : Fn) (first cap : Array Value) (w : World), (Instr.makeFunc fn first cap).run Tryd.prog w = .ok (.func fn first cap) w := fun _ _ _ _ => rfl
  have hP : readP l = none := by
    unfold readP
    split
    · rw [if_neg (by omega)]
    · rfl
  have h2 := Two.new w
  obtain ⟨V, hV⟩ : ∃ V, V = (w.alloc (.cells #[.nilIface] 44)).alloc (.cells #[.nilIface] 46) := ⟨_, rfl⟩
  rw [← hV] at h2
  have hA : Below w.heap.size w V := by rw [hV]; exact ((Below.refl _ _).alloc (Nat.le_refl _) _).alloc (by simp) _
  have hEV := hE.below hA hE.lt
  obtain ⟨T, v, ce⟩ := hEV.err
  have hz := hE.lt
  have h0 := hE.2.2.2
  obtain ⟨b, hb⟩ : ∃ b, b = w.heap.size := ⟨_, rfl⟩
  rw [← hb] at h2
  obtain ⟨c1, c2, f1, f2⟩ := h2.cells
  have n0 : ¬ b = 0 := by omega
  have n1 : ¬ 0 = b := by omega
  go_enter_defers Tryd.func40, Tryd.ntmps40
  go_wp2_with fail
  rw [← hV, ← hb]
  have HV := Lib.hid hV
  have HB := Lib.hid hb
  have HA := Lib.hid hA
  have HP := Lib.hid hP
  have H2 := Lib.hid h2
  clear hV hb hA h2 hz h0 hE hEV hP
  go_region
  go_wp2_with fail
  have hbw := HB.out
  exact ret40 (Z := ((V.setCell ⟨b, 0, none⟩ .nilIface).setCell ⟨b + 1, 0, none⟩ (.iface T v)).drew) rfl rfl ((H2.out.set1 _).set2 _) (pwhole_none HP.out (((HA.out.setCell (by simp; omega) _).setCell (by simp; omega) _).drew) ⟨T, v, rfl⟩)

theorem door_died {w Z : World} {tm : Array Value} {l : List UInt8} {x y : Value} {b N : Nat} {T : TypeId} {v : Value} (t2 : tm[2]?.getD undef = .pointer (some ⟨b, 0, none⟩)) (t3 : tm[3]?.getD undef = .pointer (some ⟨b + 1, 0, none⟩))
    (h2 : Two Z b x y) (hE : Laid3 N Z) (hb : b = w.heap.size) (hB : Below w.heap.size w Z) (hP : readP l = none) :
    Leaves Tryd.prog Tryd.f40 tm (PWhole l w) [{ target := Target.fn (Fn.func 58) #[.pointer (some ⟨b, 0, none⟩), .pointer (some ⟨b + 1, 0, none⟩)], args := #[] }] (.panicking [{ v := .iface T v, recovered := false }]) Z := by
  obtain ⟨c1, c2, f1, f2⟩ := h2.cells
  obtain ⟨T', v', ce⟩ := hE.err
  refine leaves_cons (f := 58) (args := #[.pointer (some ⟨b, 0, none⟩), .pointer (some ⟨b + 1, 0, none⟩)]) (by simp) (by simp [go_sem]) ?_
  refine (catch_panicking b (b + 1) (by omega) x y T' v' T v [] Z c1 c2 f1 f2 ce).mono ?_
  rintro e u' w'' ⟨rfl, rfl, rfl⟩
  exact ret40 t2 t3 ((h2.set1 _).set2 _) (pwhole_none hP ((hB.setCell (by simp; omega) _).setCell (by simp; omega) _) ⟨T', v', rfl⟩)
theorem door_fine {w Z : World} {tm : Array Value} {l : List UInt8} {nd : Node} {b : Nat} (t2 : tm[2]?.getD undef = .pointer (some ⟨b, 0, none⟩)) (t3 : tm[3]?.getD undef = .pointer (some ⟨b + 1, 0, none⟩))
    (h2 : Two Z b (nodeV nd) .nilIface) (hB : Below w.heap.size w Z) (hP : readP l = some nd) :
    Leaves Tryd.prog Tryd.f40 tm (PWhole l w) [{ target := Target.fn (Fn.func 58) #[.pointer (some ⟨b, 0, none⟩), .pointer (some ⟨b + 1, 0, none⟩)], args := #[] }] .returning Z := by
  refine leaves_cons (f := 58) (args := #[.pointer (some ⟨b, 0, none⟩), .pointer (some ⟨b + 1, 0, none⟩)]) (by simp) (by simp [go_sem]) ?_
  refine (catch_idle ⟨b, 0, none⟩ ⟨b + 1, 0, none⟩ Z).mono ?_
  rintro e u' w'' ⟨rfl, rfl, rfl⟩
  exact ret40 t2 t3 h2 (pwhole_some hP hB rfl)

theorem ploops_le : ∀ nd : Node, nd.loops ≤ nd.text.length
  | .atom _ => Nat.zero_le _
  | .loop p => by have := ploops_le p; simp [Node.loops, Node.text]; omega
  | .pair k p q => by have := ploops_le p; have := ploops_le q; simp [Node.loops, Node.text]; omega

set_option maxHeartbeats 4000000 in
theorem read_short (l : List UInt8) (h : (l.length : Int) ≤ 60) (w : World) {N : Nat} (hE : Laid3 N w) :
    Calls Tryd.prog 40 #[.string ⟨l.toArray⟩] w (PWhole l w) := by
  have hmf : ∀ (fn : Fn) (first cap : Array Value) (w : World), (Instr.makeFunc fn first cap).run Tryd.prog w = .ok (.func fn first cap) w := fun _ _ _ _ => rfl
  have h2 := Two.new w
  obtain ⟨V, hV⟩ : ∃ V, V = (w.alloc (.cells #[.nilIface] 44)).alloc (.cells #[.nilIface] 46) := ⟨_, rfl⟩
  rw [← hV] at h2
  have hA : Below w.heap.size w V := by rw [hV]; exact ((Below.refl _ _).alloc (Nat.le_refl _) _).alloc (by simp) _
  have sV : V.heap.size = w.heap.size + 1 + 1 := by rw [hV]; simp
  have hEV := hE.below hA hE.lt
  have hz := hE.lt
  obtain ⟨b, hb⟩ : ∃ b, b = w.heap.size := ⟨_, rfl⟩
  rw [← hb] at h2 sV
  obtain ⟨rb, hrb⟩ : ∃ rb, rb = b + 1 + 1 := ⟨_, rfl⟩
  obtain ⟨VR, hVR⟩ : ∃ VR, VR = V.alloc (.cells #[.string ⟨l.toArray⟩] 74) := ⟨_, rfl⟩
  have hr : Rst VR rb l := by
    rw [hVR, hrb, ← sV]
    exact heap_alloc_new V _
  have hAR : Below w.heap.size w VR := by rw [hVR]; exact hA.alloc (by omega) _
  have h2R : Two VR b .nilIface .nilIface := by rw [hVR]; exact h2.grown (World.grownBy_alloc V _ none) (by simp) (by simp)
  have hER := hE.below hAR hE.lt
  go_enter_defers Tryd.func40, Tryd.ntmps40
  go_wp2_with fail
  rw [← hV, ← hb, ← hrb, ← hVR]
  go_at_call 59
  refine (preads_all rb N (by omega) l.length l VR (Nat.le_refl _) hr hER).mono ?_
  rintro e W2 ⟨hg2, hm⟩
  have h22 := h2R.grown hg2 (by simp; omega) (by simp; omega)
  have hE2 := hER.grown hg2 (by omega)
  have hA2 : Below w.heap.size w W2 := hAR.grown hg2 (by have := hAR.size; omega) (fun k e => by cases e; omega)
  cases hrn : rd l.length l with
  | none =>
    rw [hrn] at hm
    obtain ⟨T, v, rfl⟩ := hm
    have hP : readP l = none := by unfold readP; rw [hrn]
    exact door_died rfl rfl h22 hE2 hb hA2 hP
  | some z =>
    obtain ⟨nd, r⟩ := z
    rw [hrn] at hm
    obtain ⟨rfl, hr2⟩ := hm
    have h23 := h22.set1 (nodeV nd)
    obtain ⟨T0, x0, hv⟩ := nodeV_iface nd
    have hr3 : Rst (W2.setCell ⟨b, 0, none⟩ (nodeV nd)) rb r := by
      unfold Rst at *
      rw [heap_setCell_other W2 ⟨b, 0, none⟩ rb _ (by simp; omega)]
      exact hr2
    have hA3 : Below w.heap.size w (W2.setCell ⟨b, 0, none⟩ (nodeV nd)) := hA2.setCell (by simp; omega) _
    have hE3 := hE.below hA3 hE.lt
    obtain ⟨c1, c2, f1, f2⟩ := h22.cells
    have HV := Lib.hid hV
    have HVR := Lib.hid hVR
    have HB := Lib.hid hb
    have HRB := Lib.hid hrb
    rw [hv] at h23 hr3 hA3 hE3 ⊢
    have HVv := Lib.hid hv
    obtain ⟨e1, _⟩ := hr2.cells
    have n1 : ¬ b = rb := by omega
    have n2 : ¬ rb = b := by omega
    have hnd := (rd_text _ _ _ _ hrn)
    clear hV hVR hb hrb hr hAR h2R hER hg2 h22 hE2 hA2 hr2 hz hEV hA h2 sV hv
    cases r with
    | cons d r =>
      have hP : readP l = none := by unfold readP; rw [hrn]
      have HP := Lib.hid hP
      have HN := Lib.hid hnd
      have HN2 := Lib.hid hrn
      obtain ⟨T, v, ce⟩ := hE3.err
      have HE3 := Lib.hid hE3
      have H23 := Lib.hid h23
      have HA3 := Lib.hid hA3
      have HR3 := Lib.hid hr3
      clear hP hnd hrn hE3 h23 hA3 hr3 hE
      go_wp2_with fail
      exact door_died rfl rfl H23.out HE3.out HB.out HA3.out HP.out
    | nil =>
      have hlen : l.length = nd.text.length := by rw [hnd.1]; simp
      have hle := ploops_le nd
      have hlp := ploops46 nd hnd.2 (by omega)
      rw [HVv.out] at hlp
      have hl1000 : (nd.loops : Int) ≤ 1000 := by omega
      have HE3 := Lib.hid hE3
      have H23 := Lib.hid h23
      have HA3 := Lib.hid hA3
      have hEN := Lib.hid hE.lt
      by_cases h6 : nd.loops ≤ 6
      · have hP : readP l = some nd := by unfold readP; rw [hrn]; dsimp only; rw [if_pos ⟨by omega, h6⟩]
        have h6i : (nd.loops : Int) ≤ 6 := by omega
        have HP := Lib.hid hP
        clear hP hnd hrn hE3 h23 hA3 hr3 hE hlen hle h6
        go_wp2_with (go_at_call 46; refine (hlp _).mono ?_; rintro e W4 ⟨rfl, hb4⟩; have h24 := H23.out.grown (below_grown hb4 none) (by simp) (by simp); obtain ⟨d1, d2, g1, g2⟩ := h24.cells; have H24 := Lib.hid h24; clear h24)
        have hA4 := HA3.out.trans (hb4.mono HA3.out.size)
        have hbw := HB.out
        exact door_fine (nd := nd) rfl rfl (by rw [HVv.out]; exact (H24.out.set1 _).set2 _) ((hA4.setCell (by simp; omega) _).setCell (by simp; omega) _) HP.out
      · have hP : readP l = none := by unfold readP; rw [hrn]; dsimp only; rw [if_neg (fun h => h6 h.2)]
        have h6i : (6 : Int) < (nd.loops : Int) := by omega
        have HP := Lib.hid hP
        clear hP hnd hrn hE3 h23 hA3 hr3 hE hlen hle h6
        go_wp2_with (go_at_call 46; refine (hlp _).mono ?_; rintro e W4 ⟨rfl, hb4⟩; have hA4 := HA3.out.trans (hb4.mono HA3.out.size); have hE4 := HE3.out.below hb4 HE3.out.lt; obtain ⟨T, v, ce⟩ := hE4.err; have h24 := H23.out.grown (below_grown hb4 none) (by simp) (by simp))
        exact door_died rfl rfl h24 hE4 HB.out hA4 HP.out

theorem pread40 (l : List UInt8) (w : World) {N : Nat} (hE : Laid3 N w) : Calls Tryd.prog 40 #[.string ⟨l.toArray⟩] w (PWhole l w) := by
  by_cases h : (l.length : Int) ≤ 60
  · exact read_short l h w hE
  · exact read_long l (by omega) w hE
theorem bytes_eta (t : ByteArray) : (⟨t.toList.toArray⟩ : ByteArray) = t := by
  rw [Lib.toList_data]

theorem pvalid20 (t : ByteArray) (w : World) {N : Nat} (hE : Laid3 N w) :
    Calls Tryd.prog 20 #[.string t] w fun e w' => e = .returned (.bool (isP t.toList)) ∧ Below w.heap.size w w' := by
  have hr := pread40 t.toList w hE
  rw [bytes_eta] at hr
  cases hP : readP t.toList with
  | none =>
    have HP := Lib.hid hP
    have hi : isP t.toList = false := by unfold isP; rw [hP]; rfl
    rw [hi]
    clear hP hi
    go_enter Tryd.func20, Tryd.ntmps20
    go_wp2_with (go_at_call 40; refine hr.mono ?_; rintro e W1 ⟨hb, hm⟩; rw [HP.out] at hm; obtain ⟨T, v, rfl⟩ := hm)
    go_ret
    exact ⟨rfl, hb⟩
  | some nd =>
    have HP := Lib.hid hP
    have hi : isP t.toList = true := by unfold isP; rw [hP]; rfl
    obtain ⟨T0, x0, hv⟩ := nodeV_iface nd
    have HV := Lib.hid hv
    rw [hi]
    clear hP hi hv
    go_enter Tryd.func20, Tryd.ntmps20
    go_wp2_with (go_at_call 40; refine hr.mono ?_; rintro e W1 ⟨hb, hm⟩; rw [HP.out] at hm; obtain rfl := hm; rw [HV.out])
    go_ret
    exact ⟨rfl, hb⟩
end Go.Proofs.YtemilnkglkpnjaaDoor
