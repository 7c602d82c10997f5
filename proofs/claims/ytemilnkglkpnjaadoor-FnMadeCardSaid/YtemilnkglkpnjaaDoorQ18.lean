/- The model's PartsOf. -/
import Derived.Test.YtemilnkglkpnjaaDoorQ14
import Derived.Test.YtemilnkglkpnjaaDoorN9
namespace Go.Proofs.YtemilnkglkpnjaaDoor
open Go.ChangeShapes Go.WideShapes Go.ChangeAt Go.RowKit Go.Shelf
attribute [local go_sem] Oper.semAt_some
set_option maxRecDepth 100000

theorem own_empty (w : World) : (w.alloc (.cells #[] 9)).ownsRow w.heap.size 9 1 (.slice (some ⟨w.heap.size, 0, none⟩) 0 0) 0 (texts []) :=
  ⟨by simp [texts], .inr ⟨w.heap.size, 0, #[], rfl, Nat.le_refl _, heap_alloc_new w _, Nat.le_refl _, Nat.zero_le _, rfl, rfl⟩⟩

set_option maxHeartbeats 2000000 in
theorem mparts_none (t : ByteArray) (ht : t.size ≤ 9000000) (w : World) (hP : readP t.toList = none) :
    Calls Tryd.prog 18 #[.string t] w fun e w' => ∃ v, e = .returned v ∧ w'.ownsRow w.heap.size 9 1 v 0 (texts []) ∧ Below w.heap.size w w' := by
  have hr := fun (X : World) => read42 t ht X
  have HP := Lib.hid hP
  have hA : Below w.heap.size w (w.alloc (.cells #[] 9)) := (Below.refl _ _).alloc (Nat.le_refl _) _
  have HO := Lib.hid (own_empty w)
  clear hP
  go_enter Tryd.func18, Tryd.ntmps18
  go_wp2_with (go_at_call 42; refine (hr _).mono ?_; rintro e W1 ⟨hb, hm⟩; rw [HP.out] at hm; obtain rfl := hm)
  have HW := Lib.hid (own_below HO.out hb)
  have hB0 := hA.trans (hb.mono (by simp))
  go_loopw [3, 17] (fun o i wr => i = .int .i64 0 ∧ o = .slice (some ⟨w.heap.size, 0, none⟩) 0 0 ∧ wr.ownsRow w.heap.size 9 1 o 0 (texts []) ∧ Below w.heap.size w wr) (fun _ _ _ => 0)
  case atStart => exact ⟨rfl, rfl, HW.out.alloc _, hB0.alloc hB0.size _⟩
  case round =>
    obtain ⟨rfl, rfl, hown, hB⟩ := hrel
    go_wp2
    go_ret
    exact ⟨_, rfl, hown, hB⟩

set_option maxHeartbeats 2000000 in
theorem mparts_atom (t : ByteArray) (ht : t.size ≤ 9000000) (w : World) {a : List UInt8} (hP : readP t.toList = some (.atom a)) :
    Calls Tryd.prog 18 #[.string t] w fun e w' => ∃ v, e = .returned v ∧ w'.ownsRow w.heap.size 9 1 v 0 (texts []) ∧ Below w.heap.size w w' := by
  have hr := fun (X : World) => read42 t ht X
  have HP := Lib.hid hP
  have hA : Below w.heap.size w (w.alloc (.cells #[] 9)) := (Below.refl _ _).alloc (Nat.le_refl _) _
  have HO := Lib.hid (own_empty w)
  clear hP
  go_enter Tryd.func18, Tryd.ntmps18
  go_wp2_with (go_at_call 42; refine (hr _).mono ?_; rintro e W1 ⟨hb, hm⟩; rw [HP.out] at hm; obtain ⟨k, s, ad, m, cap, rfl, rfl, rfl, rfl⟩ := hm; obtain ⟨v0, v1, v2, _⟩ := (Var.new W1 97 ⟨a.toArray⟩ ad 0 cap).cells)
  have HW := Lib.hid (own_below HO.out hb)
  have hB0 := hA.trans (hb.mono (by simp))
  go_loopw [3, 17] (fun o i wr => i = .int .i64 0 ∧ o = .slice (some ⟨w.heap.size, 0, none⟩) 0 0 ∧ wr.ownsRow w.heap.size 9 1 o 0 (texts []) ∧ Below w.heap.size w wr) (fun _ _ _ => 0)
  case atStart => exact ⟨rfl, rfl, HW.out.alloc _, hB0.alloc hB0.size _⟩
  case round =>
    obtain ⟨rfl, rfl, hown, hB⟩ := hrel
    go_wp2
    go_ret
    exact ⟨_, rfl, hown, hB⟩

set_option maxHeartbeats 4000000 in
theorem mparts_loop (t : ByteArray) (ht : t.size ≤ 9000000) (w : World) {p : Node} (hP : readP t.toList = some (.loop p)) :
    Calls Tryd.prog 18 #[.string t] w fun e w' => ∃ v, e = .returned v ∧ w'.ownsRow w.heap.size 9 1 v 1 (texts [p.text]) ∧ Below w.heap.size w w' := by
  have hr := fun (X : World) => read42 t ht X
  obtain ⟨hok, htx, h60, h6⟩ := readP_iff.1 hP
  have hok1 : p.ok := hok
  have hpl : p.text.length ≤ 1000 := by rw [htx] at h60; simp [Node.text] at h60; omega
  have HP := Lib.hid hP
  obtain ⟨i0, hi, hz0, hz1, hz2⟩ := info_parts Tryd.info9
  have hA : Below w.heap.size w (w.alloc (.cells #[] 9)) := (Below.refl _ _).alloc (Nat.le_refl _) _
  have HO := Lib.hid (own_empty w)
  clear hP htx h60 h6
  go_enter Tryd.func18, Tryd.ntmps18
  go_wp2_with (go_at_call 42; refine (hr _).mono ?_; rintro e W1 ⟨hb, hm⟩; rw [HP.out] at hm; obtain ⟨k, s, ad, m, cap, rfl, rfl, rfl, rfl, g, rfl, hg1, hg2, k1, s1, ad1, n1, cap1, c0, c1, c2, hN1⟩ := hm; obtain ⟨v0, v1, v2, _⟩ := (Var.new W1 123 ⟨#[]⟩ (some ⟨g, 0, none⟩) 1 cap).cells)
  have HW := Lib.hid (own_below HO.out hb)
  have hB0 := hA.trans (hb.mono (by simp))
  go_loopw [3, 17] (fun o i wr => (i = .int .i64 0 ∧ o = .slice (some ⟨w.heap.size, 0, none⟩) 0 0 ∧ wr.ownsRow w.heap.size 9 1 o 0 (texts []) ∧ Below w.heap.size w wr ∧ Below W1.heap.size W1 wr) ∨ (i = .int .i64 1 ∧ wr.ownsRow w.heap.size 9 1 o 1 (texts [p.text]) ∧ Below w.heap.size w wr)) (fun _ i _ => 1 - (intOf i).toNat)
  case atStart => exact .inl ⟨rfl, rfl, HW.out.alloc _, hB0.alloc hB0.size _, (Below.refl _ _).alloc (Nat.le_refl _) _⟩
  case round =>
    rcases hrel with ⟨rfl, rfl, hown, hB, hC⟩ | ⟨rfl, hown, hB⟩
    · have hcell := fun (o : Nat) => hC.cell (p := ⟨g, o, none⟩) hg2
      have e0 := (hcell 0).trans c0
      have e1 := (hcell 1).trans c1
      have e2 := (hcell 2).trans c2
      have hNr := hN1.below hC (Nat.le_refl _)
      obtain ⟨x0, x1, x2, _⟩ := (Var.new wr k1 s1 ad1 n1 cap1).cells
      have hVb : Below wr.heap.size wr (wr.alloc (.cells #[.int .u8 k1, .string s1, .slice ad1 n1 cap1] 55)) := (Below.refl _ _).alloc (Nat.le_refl _) _
      have hNv := hNr.below hVb hC.size
      have hownv := own_below hown hVb
      have hBv := hB.trans (hVb.mono hB.size)
      go_wp2_with (first
        | (go_at_call 43; refine (text43 p _ _ _ _ _ _ _ _ hNv (Nat.le_trans hC.size hVb.size) hok1 (by omega)).mono ?_; rintro e W3 ⟨rfl, hb3⟩; have hB3 := hBv.trans (hb3.mono hBv.size); have hown3 := own_below hownv hb3)
        | (at_builtin; refine wpList_append_own _ rfl _ _ 24 rfl w.heap.size 9 i0 (.string ⟨#[]⟩) 1 16 Tryd.underlying24 hi hz0 hz1 hz2 rfl (by decide) _ 0 (texts []) rfl (hown3.alloc _) ⟨W3.heap.size, 0, none⟩ 1 1 [.string ⟨p.text.toArray⟩] rfl (by rfl) (cell_one_new _ _ _) (by simp [Value.oneCell']) (by unfold maxLen; omega) (by omega) (by have := hB3.size; simp; omega) ?_; intro v' w1 hown' hgrow _; have hE4 := (hB3.alloc hB3.size _).grown hgrow (by have := hB3.size; simp; omega) (fun i e => (hown3.lt i e).1); clear hgrow))
      go_roundw
      case rel => exact .inr ⟨rfl, hown', hE4⟩
      case measure => simp [intOf]
    · go_wp2
      go_ret
      exact ⟨_, rfl, hown, hB⟩

set_option maxHeartbeats 4000000 in
theorem mparts_pair (t : ByteArray) (ht : t.size ≤ 9000000) (w : World) {k0 : UInt8} {p q : Node} (hP : readP t.toList = some (.pair k0 p q)) :
    Calls Tryd.prog 18 #[.string t] w fun e w' => ∃ v, e = .returned v ∧ w'.ownsRow w.heap.size 9 1 v 2 (texts [p.text, q.text]) ∧ Below w.heap.size w w' := by
  have hr := fun (X : World) => read42 t ht X
  obtain ⟨hok, htx, h60, h6⟩ := readP_iff.1 hP
  obtain ⟨_, hok1, hok2⟩ := hok
  have hpl : p.text.length ≤ 1000 ∧ q.text.length ≤ 1000 := by rw [htx] at h60; simp [Node.text] at h60; omega
  have HP := Lib.hid hP
  obtain ⟨i0, hi, hz0, hz1, hz2⟩ := info_parts Tryd.info9
  have hA : Below w.heap.size w (w.alloc (.cells #[] 9)) := (Below.refl _ _).alloc (Nat.le_refl _) _
  have HO := Lib.hid (own_empty w)
  clear hP htx h60 h6
  go_enter Tryd.func18, Tryd.ntmps18
  go_wp2_with (go_at_call 42; refine (hr _).mono ?_; rintro e W1 ⟨hb, hm⟩; rw [HP.out] at hm; obtain ⟨k, s, ad, m, cap, rfl, rfl, rfl, rfl, g, rfl, hg1, hg2, k1, s1, ad1, n1, cap1, k2, s2, ad2, n2, cap2, ⟨c0, c1, c2⟩, ⟨c3, c4, c5⟩, hN1, hN2⟩ := hm; obtain ⟨v0, v1, v2, _⟩ := (Var.new W1 (k0.toNat : Int) ⟨#[]⟩ (some ⟨g, 0, none⟩) 2 cap).cells)
  have HW := Lib.hid (own_below HO.out hb)
  have hB0 := hA.trans (hb.mono (by simp))
  have hg1' : w.heap.size + 1 ≤ g := by simpa using hg1
  go_loopw [3, 17] (fun o i wr => (i = .int .i64 0 ∧ o = .slice (some ⟨w.heap.size, 0, none⟩) 0 0 ∧ wr.ownsRow w.heap.size 9 1 o 0 (texts []) ∧ Below w.heap.size w wr ∧ Below W1.heap.size W1 wr) ∨ (i = .int .i64 1 ∧ wr.ownsRow w.heap.size 9 1 o 1 (texts [p.text]) ∧ Below w.heap.size w wr ∧ Same (w.heap.size + 1) W1.heap.size W1 wr ∧ W1.heap.size ≤ wr.heap.size) ∨ (i = .int .i64 2 ∧ wr.ownsRow w.heap.size 9 1 o 2 (texts [p.text, q.text]) ∧ Below w.heap.size w wr)) (fun _ i _ => 2 - (intOf i).toNat)
  case atStart => exact .inl ⟨rfl, rfl, HW.out.alloc _, hB0.alloc hB0.size _, (Below.refl _ _).alloc (Nat.le_refl _) _⟩
  case round =>
    rcases hrel with ⟨rfl, rfl, hown, hB, hC⟩ | ⟨rfl, hown, hB, hS, hsz⟩ | ⟨rfl, hown, hB⟩
    · have hcell := fun (o : Nat) => hC.cell (p := ⟨g, o, none⟩) hg2
      have e0 := (hcell 0).trans c0
      have e1 := (hcell 1).trans c1
      have e2 := (hcell 2).trans c2
      have hNr := hN1.below hC (Nat.le_refl _)
      obtain ⟨x0, x1, x2, _⟩ := (Var.new wr k1 s1 ad1 n1 cap1).cells
      have hVb : Below wr.heap.size wr (wr.alloc (.cells #[.int .u8 k1, .string s1, .slice ad1 n1 cap1] 55)) := (Below.refl _ _).alloc (Nat.le_refl _) _
      have hNv := hNr.below hVb hC.size
      have hownv := own_below hown hVb
      have hBv := hB.trans (hVb.mono hB.size)
      go_wp2_with (first
        | (go_at_call 43; refine (text43 p _ _ _ _ _ _ _ _ hNv (Nat.le_trans hC.size hVb.size) hok1 (by omega)).mono ?_; rintro e W3 ⟨rfl, hb3⟩; have hB3 := hBv.trans (hb3.mono hBv.size); have hown3 := own_below hownv hb3)
        | (at_builtin; refine wpList_append_own _ rfl _ _ 24 rfl w.heap.size 9 i0 (.string ⟨#[]⟩) 1 16 Tryd.underlying24 hi hz0 hz1 hz2 rfl (by decide) _ 0 (texts []) rfl (hown3.alloc _) ⟨W3.heap.size, 0, none⟩ 1 1 [.string ⟨p.text.toArray⟩] rfl (by rfl) (cell_one_new _ _ _) (by simp [Value.oneCell']) (by unfold maxLen; omega) (by omega) (by have := hB3.size; simp; omega) ?_; intro v' w1 hown' hgrow _; have hE4 := (hB3.alloc hB3.size _).grown hgrow (by have := hB3.size; simp; omega) (fun i e => (hown3.lt i e).1); have hC3 := (hC.trans (hVb.mono hC.size)).trans (hb3.mono (Nat.le_trans hC.size hVb.size)); have hS4 : Same (w.heap.size + 1) W1.heap.size W1 w1 := (fun b hb1 hb2 => (hgrow.block b (Nat.lt_of_lt_of_le hb2 (hC3.alloc hC3.size _).size) (by show some b ≠ some w.heap.size; intro e; cases e; omega)).trans ((hC3.alloc hC3.size _).block b hb2)); have hsz4 := Nat.le_trans (hC3.alloc hC3.size _).size hgrow.size; clear hgrow))
      go_roundw
      case rel => exact .inr (.inl ⟨rfl, hown', hE4, hS4, hsz4⟩)
      case measure => simp [intOf]
    · have hcell := fun (o : Nat) => cell_same hS hg1' hg2 o
      have hlo : w.heap.size + 1 ≤ (w.alloc (.cells #[] 9)).heap.size := by simp
      have e0 := (hcell 3).trans c3
      have e1 := (hcell 4).trans c4
      have e2 := (hcell 5).trans c5
      have hNr := (hN2.wide hlo (Nat.le_refl _)).same hS
      obtain ⟨x0, x1, x2, _⟩ := (Var.new wr k2 s2 ad2 n2 cap2).cells
      have hVb : Below wr.heap.size wr (wr.alloc (.cells #[.int .u8 k2, .string s2, .slice ad2 n2 cap2] 55)) := (Below.refl _ _).alloc (Nat.le_refl _) _
      have hNv := hNr.below hVb hsz
      have hownv := own_below hown hVb
      have hBv := hB.trans (hVb.mono hB.size)
      go_wp2_with (first
        | (go_at_call 43; refine (text43 q _ _ _ _ _ _ _ _ hNv (Nat.le_trans hsz hVb.size) hok2 (by omega)).mono ?_; rintro e W3 ⟨rfl, hb3⟩; have hB3 := hBv.trans (hb3.mono hBv.size); have hown3 := own_below hownv hb3)
        | (at_builtin; refine wpList_append_own _ rfl _ _ 24 rfl w.heap.size 9 i0 (.string ⟨#[]⟩) 1 16 Tryd.underlying24 hi hz0 hz1 hz2 rfl (by decide) _ 1 (texts [p.text]) rfl (hown3.alloc _) ⟨W3.heap.size, 0, none⟩ 1 1 [.string ⟨q.text.toArray⟩] rfl (by rfl) (cell_one_new _ _ _) (by simp [Value.oneCell']) (by unfold maxLen; omega) (by omega) (by have := hB3.size; simp; omega) ?_; intro v' w1 hown' hgrow _; have hE4 := (hB3.alloc hB3.size _).grown hgrow (by have := hB3.size; simp; omega) (fun i e => (hown3.lt i e).1); clear hgrow))
      go_roundw
      case rel => exact .inr (.inr ⟨rfl, hown', hE4⟩)
      case measure => simp [intOf]
    · go_wp2
      go_ret
      exact ⟨_, rfl, hown, hB⟩

theorem mparts18 (t : ByteArray) (ht : t.size ≤ 9000000) (w : World) :
    Calls Tryd.prog 18 #[.string t] w fun e w' => ∃ v, e = .returned v ∧ w'.ownsRow w.heap.size 9 1 v (partsP t.toList).length (texts (partsP t.toList)) ∧ Below w.heap.size w w' := by
  cases hP : readP t.toList with
  | none =>
    have hp : partsP t.toList = [] := by unfold partsP; rw [hP]
    rw [hp]
    exact mparts_none t ht w hP
  | some nd =>
    cases nd with
    | atom a =>
      have hp : partsP t.toList = [] := by unfold partsP; rw [hP]
      rw [hp]
      exact mparts_atom t ht w hP
    | loop p =>
      have hp : partsP t.toList = [p.text] := by unfold partsP; rw [hP]
      rw [hp]
      exact mparts_loop t ht w hP
    | pair k p q =>
      have hp : partsP t.toList = [p.text, q.text] := by unfold partsP; rw [hP]
      rw [hp]
      exact mparts_pair t ht w hP
end Go.Proofs.YtemilnkglkpnjaaDoor
