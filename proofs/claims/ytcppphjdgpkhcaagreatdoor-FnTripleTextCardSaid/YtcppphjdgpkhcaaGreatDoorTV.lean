/- Chapter 5: a triple read off its text, the model's and the program's. -/
import Derived.Test.YtcppphjdgpkhcaaGreatDoorTU
import Derived.Test.YtcppphjdgpkhcaaGreatDoorTQ
import Derived.Test.YtcppphjdgpkhcaaGreatDoorL10
import Derived.Great.BuildSlice
namespace Go.Proofs.YtcppphjdgpkhcaaGreatDoor
open Go.ChangeShapes Go.WideShapes Go.ChangeAt Go.RowKit Go.Shelf
attribute [local go_sem] Oper.semAt_some
set_option maxRecDepth 100000

/-! ### errors.Join -/
theorem infoErr : (Tryz.prog.info? 84).map (fun i => (i.zero, i.size, i.bytes)) = some (some .nilIface, 1, 16) := by kernel_rfl
/-- How many of the first are errors. -/
def cntE (ok : Nat → Bool) : Nat → Nat
  | 0 => 0
  | k + 1 => cntE ok k + (if ok k = true then 0 else 1)
theorem cntE_le (ok : Nat → Bool) : ∀ k, cntE ok k ≤ k
  | 0 => Nat.le_refl _
  | k + 1 => by have := cntE_le ok k; unfold cntE; split <;> omega
theorem cntE_zero (ok : Nat → Bool) : ∀ k, cntE ok k = 0 → ∀ j, j < k → ok j = true
  | 0, _, j, h => by omega
  | k + 1, h, j, hj => by
    unfold cntE at h
    by_cases hk : ok k = true
    · rw [if_pos hk] at h
      by_cases he : j = k
      · subst he; exact hk
      · exact cntE_zero ok k (by omega) j (by omega)
    · rw [if_neg hk] at h; omega
theorem cntE_all (ok : Nat → Bool) : ∀ k, (∀ j, j < k → ok j = true) → cntE ok k = 0
  | 0, _ => rfl
  | k + 1, h => by unfold cntE; rw [cntE_all ok k (fun j hj => h j (by omega)), if_pos (h k (by omega))]
def allE (ok : Nat → Bool) (n : Nat) : Bool := decide (cntE ok n = 0)
attribute [local go_sem ↓ 10000] builtin_held in
set_option maxHeartbeats 2000000 in
theorem join84 (n : Nat) (hn : n ≤ 8) (es : Nat → Value) (ok : Nat → Bool) (he : ∀ k, k < n → Errs (ok k) (es k)) (g : Nat) (W : World) (hg : g < W.heap.size)
    (hc : ∀ k, k < n → W.cell? ⟨g, k, none⟩ = some (es k)) :
    Calls Tryz.prog 165 #[.slice (some ⟨g, 0, none⟩) n n] W fun e W' => ∃ ev, Errs (allE ok n) ev ∧ e = .returned ev ∧ Below W.heap.size W W' := by
  have hn8 : (n : Int) ≤ 8 := by omega
  go_enter Tryz.func165, Tryz.ntmps165
  go_wp2_with fail
  obtain ⟨W0, hW0⟩ : ∃ W0, W0 = W := ⟨_, rfl⟩
  go_loopw [3, 11] (fun c i wr => ∃ k, k ≤ n ∧ i = .int .i64 (k : Int) ∧ c = .int .i64 (cntE ok k : Int) ∧ wr = W0) (fun _ i _ => n - (intOf i).toNat)
  case atStart => exact ⟨0, Nat.zero_le _, rfl, rfl, hW0.symm⟩
  case round =>
    obtain ⟨k, hk, rfl, rfl, hwr⟩ := hrel
    subst hwr
    subst hW0
    have hck := cntE_le ok k
    have ck0 : (cntE ok k : Int) ≤ 8 := by omega
    by_cases hlt : k < n
    · have hlt2 : (k : Int) < (n : Int) := by omega
      have hek := he k hlt
      have hc1 := hc k hlt
      cases hb : ok k with
      | true =>
        have hn1 : cntE ok (k + 1) = cntE ok k := by rw [cntE, if_pos hb]; rfl
        rw [hb] at hek
        have hz : es k = .nilIface := hek
        rw [hz] at hc1
        clear hek
        go_wp2_with fail
        go_roundw
        case rel => exact ⟨k + 1, by omega, by go_num, by rw [hn1], trivial⟩
        case measure => simp [intOf]; omega
      | false =>
        have hn1 : cntE ok (k + 1) = cntE ok k + 1 := by rw [cntE, if_neg (by simp [hb])]
        rw [hb] at hek
        obtain ⟨T, u, hz⟩ : ∃ T u, es k = .iface T u := hek
        rw [hz] at hc1
        go_wp2_with fail
        go_roundw
        case rel => exact ⟨k + 1, by omega, by go_num, by rw [hn1]; go_num, trivial⟩
        case measure => simp [intOf]; omega
    · have hkn : k = n := by omega
      subst hkn
      have hge : ¬ ((k : Int) < (k : Int)) := by omega
      by_cases h0 : cntE ok k = 0
      · have hal : allE ok k = true := by unfold allE; rw [h0]; rfl
        have h0i : ((cntE ok k : Int) == 0) = true := by simp [h0]
        go_wp2_with fail
        go_ret
        exact ⟨.nilIface, rfl, rfl, Below.refl _ _⟩
      · have hal : allE ok k = false := by unfold allE; simp [h0]
        have h0i : ((cntE ok k : Int) == 0) = false := by simp; omega
        have h0n : ¬ ((cntE ok k : Int) < 0) := by omega
        obtain ⟨V, hV⟩ : ∃ V, V = wr := ⟨_, rfl⟩
        subst hV
        obtain ⟨i0, hi, hz0, hz1, hz2⟩ := info_parts infoErr
        obtain ⟨w1, hr, hown, hg1⟩ := run_make_own (P := Tryz.prog) V V.heap.size 218 84 i0 .nilIface 1 Tryz.underlying218 hi hz0 hz1 .i64 .i64 (cntE ok k) (by rw [hz2]; omega) (by unfold maxLen; omega) (Nat.le_refl _)
        have hb1 : Below V.heap.size V w1 := (Below.refl _ V).grown hg1 (Nat.le_refl _) (fun i e => by cases e)
        generalize cntE ok k = m at *
        have bO := Boxed.new w1 221 (.slice (some ⟨V.heap.size, 0, none⟩) 0 m)
        have hb1s := hb1.size
        have hb2 := hb1.alloc hb1.size (.cells #[.slice (some ⟨V.heap.size, 0, none⟩) 0 m] 221)
        have hown2 := hown.alloc (.cells #[.slice (some ⟨V.heap.size, 0, none⟩) 0 m] 221)
        clear hown hg1 hb1
        have hle := hb2.size
        rw [World.size_alloc] at hle
        have hle2 : V.heap.size ≤ w1.heap.size := by have := hb1s; omega
        go_wp2_with fail
        clear hr
        generalize w1.heap.size = gj at *
        generalize w1.alloc (.cells #[.slice (some ⟨V.heap.size, 0, none⟩) 0 m] 221) = w1' at *
        go_loopw [28] (fun i w9 => ∃ k' v xs, k' ≤ k ∧ i = .int .i64 (k' : Int) ∧ xs.length ≤ k' ∧ Boxed w9 gj 221 v ∧ w9.ownsRow V.heap.size 84 1 v xs.length xs ∧ Below V.heap.size V w9) (fun i _ => k - (intOf i).toNat)
        case atStart => exact ⟨0, _, [], Nat.zero_le _, rfl, Nat.le_refl _, bO, hown2, hb2⟩
        case round =>
          obtain ⟨k', v, xs, hk', rfl, hxs, hbox, hrow, hB⟩ := hrel
          have cv := hbox.cell
          by_cases hlt : k' < k
          · have hlt2 : (k' : Int) < (k : Int) := by omega
            have hek := he k' hlt
            have hc1 := (hB.cell (p := ⟨g, k', none⟩) hg).trans (hc k' hlt)
            cases hb : ok k' with
            | true =>
              rw [hb] at hek
              have hz : es k' = .nilIface := hek
              rw [hz] at hc1
              clear hek
              go_wp2_with fail
              go_roundw
              case rel => exact ⟨k' + 1, v, xs, by omega, by go_num, by omega, hbox, hrow, hB⟩
              case measure => simp [intOf]; omega
            | false =>
              rw [hb] at hek
              obtain ⟨T, u, hz⟩ : ∃ T u, es k' = .iface T u := hek
              rw [hz] at hc1
              obtain ⟨v', w3, hr3, hown', hgrow, _⟩ := run_append_own (P := Tryz.prog) (wr.alloc (.cells #[.iface T u] 84)) V.heap.size 218 218 84 i0 .nilIface 1 16 Tryz.underlying218 hi hz0 hz1 hz2 rfl (by decide) v xs.length xs (hrow.alloc _) ⟨wr.heap.size, 0, none⟩ 1 1 [.iface T u] rfl (cell_one_new _ _ _) (by simp [Value.oneCell']) (by unfold maxLen; omega) (by omega) (by have := hB.size; simp; omega)
              have hr4 : (heldAppend #[218, 218] 218 #[v, .slice (some ⟨wr.heap.size, 0, none⟩) 1 1]).run Tryz.prog (wr.alloc (.cells #[.iface T u] 84)) = .ok v' w3 := hr3
              obtain ⟨g', cap', rfl⟩ := ownsRow_succ hown'
              obtain ⟨hv1, hv2, hr2, _, hb2'⟩ := hbox.appended (by decide) hrow hB.size hle2 hown' hgrow
              have fz := hv1.frozen
              have cv2 : (wr.alloc (.cells #[.iface T u] 84)).cell? ⟨gj, 0, none⟩ = some v := (hbox.alloc _).cell
              have cw3 := hv1.cell
              clear hr3 hown' hgrow
              go_wp2_with fail
              go_roundw
              case rel => exact ⟨k' + 1, _, xs ++ [.iface T u], by omega, by go_num, by simp; omega, hv2, by rw [List.length_append]; exact hr2, hB.trans hb2'⟩
              case measure => simp [intOf]; omega
          · have hkn : k' = k := by omega
            subst hkn
            have hge2 : ¬ ((k' : Int) < (k' : Int)) := by omega
            go_wp2_with fail
            go_ret
            exact ⟨_, ⟨_, _, rfl⟩, rfl, hB⟩
def tripV (T : Trip) : Value := .agg #[.int .i64 T.b, .string T.p, .int .i64 T.x, .int .i64 T.r]
/-- Four words have been read. -/
def FourR (t : ByteArray) (T : Trip) (ok : Bool) (r : ByteArray) (m : Bool) : Prop :=
  ∃ a1 r1 m1 a2 r2 m2 a3 r3 m3 a4, Cuts t a1 r1 m1 ∧ Cuts r1 a2 r2 m2 ∧ Cuts r2 a3 r3 m3 ∧ Cuts r3 a4 r m ∧
    ok = (parseOk a1.data.toList && isP a2.toList && exitOk a3 && parseOk a4.data.toList) ∧
    T = (if ok = true then ⟨parseN a1.data.toList, a2, exitV a3, parseN a4.data.toList⟩ else zeroT)
theorem all_four (a b c d : Bool) : allE (fun k => [a, b, c, d].getD k true) 4 = (a && b && c && d) := by
  cases a <;> cases b <;> cases c <;> cases d <;> decide
theorem Errs.cells {ok : Bool} {v : Value} (h : Errs ok v) : v.cells = #[v] := by
  cases ok with
  | true => obtain rfl : v = .nilIface := h; rfl
  | false => obtain ⟨T, u, rfl⟩ : ∃ T u, v = .iface T u := h; rfl
/-- A slice literal of four errors, held till its run is known. -/
def heldBS (t : TypeId) (len : Nat) (parts : Array (Nat × Value)) : Sem Value := Instr.buildSlice t len parts
theorem bs_held (t : TypeId) (len : Nat) (parts : Array (Nat × Value)) : Instr.buildSlice t len parts = heldBS t len parts := rfl
theorem bs_four (W : World) {v1 v2 v3 v4 : Value} (h1 : v1.cells = #[v1]) (h2 : v2.cells = #[v2]) (h3 : v3.cells = #[v3]) (h4 : v4.cells = #[v4]) :
    (heldBS 218 4 #[(0, v1), (1, v2), (2, v3), (3, v4)]).run Tryz.prog W = .ok (.slice (some ⟨W.heap.size, 0, none⟩) 4 4) (W.alloc (.cells #[v1, v2, v3, v4] 84)) := by
  obtain ⟨i0, hi, hz0, hz1, _⟩ := info_parts infoErr
  refine run_buildSlice W 218 84 4 _ _ i0 .nilIface Tryz.underlying218 hi hz0 (by rw [hz1]; omega) (by rw [hz1]; omega) ?_
  rw [hz1]
  exact Great.fill_flat [v1, v2, v3, v4] _ (by simp [h1, h2, h3, h4]) (by simp)
theorem TripAt.grownV {W W' : World} {g rb : Nat} {b : Int} {p : ByteArray} {x r : Int} (h : TripAt W g b p x r) (hg : W.grownBy W' (some rb)) (hne : g ≠ rb) : TripAt W' g b p x r := (hg.block g h.lt (by simpa using hne)).trans h
theorem set_grownV {W X : World} {rb g o : Nat} (h : W.grownBy X (some rb)) (hg : W.heap.size ≤ g) (v : Value) : W.grownBy (X.setCell ⟨g, o, none⟩ v) (some rb) :=
  ⟨h.os, h.tape, h.output, by simpa using h.size, fun i hi hne => (heap_setCell_other X ⟨g, o, none⟩ i _ (by show i ≠ g; omega)).trans (h.block i hi hne)⟩
theorem set4_grownV {W X : World} {rb g : Nat} (h : W.grownBy X (some rb)) (hg : W.heap.size ≤ g) (b : Int) (p : ByteArray) (x r : Int) : W.grownBy (set4 X g b p x r) (some rb) :=
  set_grownV (set_grownV (set_grownV (set_grownV h hg _) hg _) hg _) hg _
theorem WordAt.other {W : World} {g g' o : Nat} {t : ByteArray} {e : Bool} (h : WordAt W g t e) (hne : g ≠ g') (v : Value) : WordAt (W.setCell ⟨g', o, none⟩ v) g t e := by
  unfold WordAt at *
  rw [heap_setCell_other W ⟨g', o, none⟩ g _ hne]
  exact h
theorem WordAt.set4 {W : World} {g g' : Nat} {t : ByteArray} {e : Bool} (h : WordAt W g t e) (hne : g ≠ g') (b : Int) (p : ByteArray) (x r : Int) : WordAt (set4 W g' b p x r) g t e :=
  (((h.other hne _).other hne _).other hne _).other hne _
attribute [local go_sem ↓ 10000] bs_held in
set_option maxHeartbeats 2000000 in
theorem triple80 {W : World} {g : Nat} {t : ByteArray} {e0 : Bool} (h : WordAt W g t e0) (ht : t.size ≤ 1048576) {N : Nat} (hL : LaidT N W) (hN : N ≤ g) :
    Calls Tryz.prog 116 #[.pointer (some ⟨g, 0, none⟩)] W fun e W' => ∃ T ok r m ev, FourR t T ok r m ∧ Errs ok ev ∧ e = .returned (.tuple #[tripV T, ev]) ∧ WordAt W' g r (!m) ∧ W.grownBy W' (some g) := by
  have hlt := h.lt
  have hR0 := TripAt.new W 0 ⟨#[]⟩ 0 0
  have g0 := World.grownBy_alloc W (.cells #[.int .i64 0, .string ⟨#[]⟩, .int .i64 0, .int .i64 0] 24) (some g)
  have h0 := h.below ((Below.refl _ W).alloc (Nat.le_refl _) (.cells #[.int .i64 0, .string ⟨#[]⟩, .int .i64 0, .int .i64 0] 24)) hlt
  have L0 := hL.grown g0 hN hL.lt
  go_enter Tryz.func116, Tryz.ntmps116
  go_wp2_with fail
  go_at_call 162
  refine (set81 h0 ht L0.set hN).mono ?_
  rintro e W1 ⟨a1, r1, m1, v1, c1, k1, rfl, h1, g1⟩
  have hR1 := hR0.grownV g1 (by omega)
  have s1 := c1.2.1
  have l1 := h1.lt
  have L1 := L0.grown g1 hN L0.lt
  go_wp2_with fail
  go_at_call 163
  refine (prog82 h1 (by omega) L1.three hN).mono ?_
  rintro e W2 ⟨a2, r2, m2, v2, c2, k2, rfl, h2, g2⟩
  have hR2 := hR1.grownV g2 (by omega)
  have s2 := c2.2.1
  have l2 := h2.lt
  have L2 := L1.grown g2 hN L1.lt
  go_wp2_with fail
  go_at_call 164
  refine (exit83 h2 (by omega) L2.exit hN).mono ?_
  rintro e W3 ⟨a3, r3, m3, v3, c3, k3, rfl, h3, g3⟩
  have hR3 := hR2.grownV g3 (by omega)
  have s3 := c3.2.1
  have l3 := h3.lt
  have L3 := L2.grown g3 hN L2.lt
  go_wp2_with fail
  go_at_call 162
  refine (set81 h3 (by omega) L3.set hN).mono ?_
  rintro e W4 ⟨a4, r4, m4, v4, c4, k4, rfl, h4, g4⟩
  have hR4 := hR3.grownV g4 (by omega)
  have l4 := h4.lt
  have G4 := grown_trans g0 (grown_trans (grown_trans (grown_trans g1 g2) g3) g4)
  have k1 : Errs (parseOk a1.data.toList) v1 := k1
  have k2 : Errs (isP a2.toList) v2 := k2
  have k3 : Errs (exitOk a3) v3 := k3
  have k4 : Errs (parseOk a4.data.toList) v4 := k4
  clear h0 h1 h2 h3 L0 L1 L2 L3 hR0 hR1 hR2 hR3 g0 g1 g2 g3 g4
  have q1 := k1.cells
  have q2 := k2.cells
  have q3 := k3.cells
  have q4 := k4.cells
  have hbs := bs_four W4 q1 q2 q3 q4
  clear q1 q2 q3 q4
  go_wp2_with fail
  clear hbs
  generalize hx1 : parseN a1.data.toList = x1
  generalize hx4 : parseN a4.data.toList = x4
  generalize hx3 : exitV a3 = x3
  generalize hz1 : parseOk a1.data.toList = z1 at k1
  generalize hz2 : isP a2.toList = z2 at k2
  generalize hz3 : exitOk a3 = z3 at k3
  generalize hz4 : parseOk a4.data.toList = z4 at k4
  have hw := (Below.refl W4.heap.size W4).alloc (Nat.le_refl _) (.cells #[v1, v2, v3, v4] 84)
  have J := join84 4 (by omega) (fun k => [v1, v2, v3, v4].getD k .nilIface) (fun k => [z1, z2, z3, z4].getD k true) (fun k hk => by
    match k, hk with
    | 0, _ => exact k1
    | 1, _ => exact k2
    | 2, _ => exact k3
    | 3, _ => exact k4) W4.heap.size (W4.alloc (.cells #[v1, v2, v3, v4] 84)) (by simp) (fun k hk => by
    rw [cell_of_row _ W4.heap.size k _ _ (0, 0) (heap_alloc_new W4 _)]
    match k, hk with
    | 0, _ => rfl
    | 1, _ => rfl
    | 2, _ => rfl
    | 3, _ => rfl)
  rw [all_four] at J
  have HF := Lib.hid (fun (ok : Bool) (hok : ok = (z1 && z2 && z3 && z4)) => (show FourR t (if ok = true then ⟨x1, a2, x3, x4⟩ else zeroT) ok r4 m4 from ⟨a1, r1, m1, a2, r2, m2, a3, r3, m3, a4, c1, c2, c3, c4, by rw [hz1, hz2, hz3, hz4]; exact hok, by rw [hx1, hx3, hx4]⟩))
  generalize (z1 && z2 && z3 && z4) = ok at J HF
  clear c1 c2 c3 c4 k1 k2 k3 k4 hx1 hx3 hx4 hz1 hz2 hz3 hz4
  go_at_call 165
  refine J.mono ?_
  rintro e W5 ⟨ev, hev, rfl, hb⟩
  have hB := hw.trans (hb.mono (by simp))
  have h5 := h4.below hB l4
  have hR5 := hR4.below hB hR4.lt
  have G5 := grown_b G4 hB
  obtain ⟨e0, e1, e2, e3⟩ := hR5.cells
  obtain ⟨f0, f1, f2, f3⟩ := hR5.frozen
  have hgW : W.heap.size ≠ g := by omega
  clear hb hw hB G4 J h4 hR4
  cases ok with
  | true =>
    obtain rfl : ev = .nilIface := hev
    have HG := Lib.hid (And.intro (h5.set4 hgW.symm x1 a2 x3 x4) (set4_grownV G5 (Nat.le_refl _) x1 a2 x3 x4))
    obtain ⟨d0, d1, d2, d3⟩ := (set4_trip hR5 x1 a2 x3 x4).cells
    go_wp2_with fail
    unfold set4 at d0 d1 d2 d3 HG
    exact bodyPost_ret (v := .tuple #[.agg #[.int .i64 x1, .string a2, .int .i64 x3, .int .i64 x4], .nilIface]) (by simp [results, Tryz.results116, go_sem, d0, d1, d2, d3]) rfl ⟨_, true, r4, m4, _, HF.out true rfl, rfl, rfl, HG.out.1, HG.out.2⟩
  | false =>
    obtain ⟨T, u, rfl⟩ : ∃ T u, ev = .iface T u := hev
    have HG := Lib.hid (And.intro (h5.set4 hgW.symm 0 ⟨#[]⟩ 0 0) (set4_grownV G5 (Nat.le_refl _) 0 ⟨#[]⟩ 0 0))
    obtain ⟨d0, d1, d2, d3⟩ := (set4_trip hR5 0 ⟨#[]⟩ 0 0).cells
    go_wp2_with fail
    unfold set4 at d0 d1 d2 d3 HG
    exact bodyPost_ret (v := .tuple #[.agg #[.int .i64 0, .string ⟨#[]⟩, .int .i64 0, .int .i64 0], .iface T u]) (by simp [results, Tryz.results116, go_sem, d0, d1, d2, d3]) rfl ⟨_, false, r4, m4, _, HF.out false rfl, ⟨T, u, rfl⟩, rfl, HG.out.1, HG.out.2⟩
/-- What the four words say of the text. -/
theorem four_says {t : ByteArray} {T : Trip} {ok : Bool} {r : ByteArray} {m : Bool} (h : FourR t T ok r m) : okT t = (ok && !m) ∧ (okT t = true → T = gotT t) ∧ (ok = false → T = zeroT) := by
  obtain ⟨a1, r1, m1, a2, r2, m2, a3, r3, m3, a4, c1, c2, c3, c4, rfl, rfl⟩ := h
  obtain ⟨h1, h2⟩ := wordsT c1 c2 c3 c4
  refine ⟨h1, fun ho => ?_, fun hf => if_neg (by simp [hf])⟩
  rw [h2 ho]
  rw [h1] at ho
  simp only [Bool.and_eq_true] at ho
  rw [if_pos (by simp only [Bool.and_eq_true]; exact ho.1)]
theorem TripAt.drewV {W : World} {g : Nat} {b : Int} {p : ByteArray} {x r : Int} (h : TripAt W g b p x r) : TripAt W.drew g b p x r := h
set_option maxHeartbeats 2000000 in
theorem rtriple70 (t : ByteArray) (ht : t.size ≤ 1048576) (W : World) {N : Nat} (hL : LaidT N W) :
    Calls Tryz.prog 70 #[.string t] W fun e W' => ∃ ev, Errs (okT t) ev ∧ e = .returned (.tuple #[tripV (gotT t), ev]) ∧ Below W.heap.size W W' := by
  have hR0 := TripAt.new W 0 ⟨#[]⟩ 0 0
  have hZ : Below W.heap.size W (W.alloc (.cells #[.int .i64 0, .string ⟨#[]⟩, .int .i64 0, .int .i64 0] 24)) := (Below.refl _ W).alloc (Nat.le_refl _) _
  have hA : Below W.heap.size W ((W.alloc (.cells #[.int .i64 0, .string ⟨#[]⟩, .int .i64 0, .int .i64 0] 24)).alloc (.cells #[.string t, .bool false] 141)) := hZ.alloc hZ.size _
  have hR1 := hR0.below ((Below.refl _ _).alloc (Nat.le_refl _) (.cells #[.string t, .bool false] 141)) hR0.lt
  have h0 := WordAt.new (W.alloc (.cells #[.int .i64 0, .string ⟨#[]⟩, .int .i64 0, .int .i64 0] 24)) t false
  rw [World.size_alloc] at h0
  have hL0 := hL.below hA hL.lt
  have hlt := hL.lt
  unfold tripV
  go_enter Tryz.func70, Tryz.ntmps70
  go_wp2_with fail
  go_at_call 116
  refine (triple80 h0 ht hL0 (by omega)).mono ?_
  rintro e W1 ⟨T, ok, r, m, ev, hF, hev, rfl, h1, g1⟩
  obtain ⟨f1, f2, f3⟩ := four_says hF
  have hB : Below W.heap.size W W1 := hA.grown g1 hA.size (fun i e => by cases e; exact Nat.le_succ _)
  have hR2 := hR1.grownV g1 (by omega)
  have L1 := hL0.grown g1 (by omega) hL0.lt
  obtain ⟨b, p, x, r'⟩ := T
  have hX : Below W1.heap.size W1 (W1.alloc (.cells #[.int .i64 b, .string p, .int .i64 x, .int .i64 r'] 24)) := (Below.refl _ W1).alloc (Nat.le_refl _) _
  have hBX := hB.alloc hB.size (.cells #[.int .i64 b, .string p, .int .i64 x, .int .i64 r'] 24)
  have hRX := hR2.below hX hR2.lt
  have hTX := TripAt.new W1 b p x r'
  have hWX := h1.below hX h1.lt
  obtain ⟨⟨T9, v9, q9⟩, _⟩ := (L1.below hX L1.lt).more
  obtain ⟨⟨_, w1⟩, _, _⟩ := hWX.cells
  obtain ⟨t0, t1, t2, t3⟩ := hTX.cells
  obtain ⟨e0, e1, e2, e3⟩ := hRX.cells
  obtain ⟨k0, k1, k2, k3⟩ := hRX.frozen
  clear hA hZ h0 hL0 L1 hF g1 h1 hR0 hR1 hR2 hWX hTX hX hB
  unfold tripV
  dsimp only
  cases ok with
  | false =>
    have ho : okT t = false := by rw [f1]; rfl
    have hT := f3 rfl
    have hg := got_none ho
    unfold zeroT at hT hg
    cases hT
    obtain ⟨T, u, rfl⟩ : ∃ T u, ev = .iface T u := hev
    have HE := Lib.hid ho
    have HGt := Lib.hid hg
    clear f1 f2 f3 ho hg q9
    obtain ⟨d0, d1, d2, d3⟩ := (set4_trip hRX 0 ⟨#[]⟩ 0 0).cells
    have hFin := set4_below hBX (Nat.le_refl _) 0 ⟨#[]⟩ 0 0
    go_wp2_with fail
    unfold set4 at d0 d1 d2 d3 hFin
    exact bodyPost_ret (v := .tuple #[.agg #[.int .i64 0, .string ⟨#[]⟩, .int .i64 0, .int .i64 0], .iface T u]) (by simp [results, Tryz.results70, go_sem, d0, d1, d2, d3]) rfl ⟨_, by rw [HE.out]; exact ⟨T, u, rfl⟩, by rw [HGt.out], hFin⟩
  | true =>
    obtain rfl : ev = .nilIface := hev
    cases m with
    | true =>
      have ho : okT t = false := by rw [f1]; rfl
      have hg := got_none ho
      unfold zeroT at hg
      have HE := Lib.hid ho
      have HGt := Lib.hid hg
      clear f1 f2 f3 ho hg
      obtain ⟨d0, d1, d2, d3⟩ := (set4_trip hRX 0 ⟨#[]⟩ 0 0).cells
      have hFin := (set4_below hBX (Nat.le_refl _) 0 ⟨#[]⟩ 0 0).drew
      go_wp2_with fail
      go_region
      all_goals go_wp2_with fail
      all_goals unfold set4 at d0 d1 d2 d3 hFin
      all_goals exact bodyPost_ret (v := .tuple #[.agg #[.int .i64 0, .string ⟨#[]⟩, .int .i64 0, .int .i64 0], .iface T9 v9]) (by simp [results, Tryz.results70, go_sem, d0, d1, d2, d3]) rfl ⟨_, by rw [HE.out]; exact ⟨T9, v9, rfl⟩, by rw [HGt.out], hFin⟩
    | false =>
      have ho : okT t = true := by rw [f1]; rfl
      have hT := f2 ho
      have HE := Lib.hid ho
      have HGt := Lib.hid hT
      clear f1 f2 f3 ho hT q9
      obtain ⟨d0, d1, d2, d3⟩ := (set4_trip hRX b p x r').cells
      have hFin := set4_below hBX (Nat.le_refl _) b p x r'
      go_wp2_with fail
      unfold set4 at d0 d1 d2 d3 hFin
      exact bodyPost_ret (v := .tuple #[.agg #[.int .i64 b, .string p, .int .i64 x, .int .i64 r'], .nilIface]) (by simp [results, Tryz.results70, go_sem, d0, d1, d2, d3]) rfl ⟨_, by rw [HE.out]; rfl, by rw [← HGt.out], hFin⟩
set_option maxHeartbeats 1000000 in
theorem ptry17 (t : ByteArray) (ht : t.size ≤ 1048576) (W : World) {N : Nat} (hL : LaidT N W) :
    Calls Tryz.prog 17 #[.string t] W fun e W' => e = .returned (.tuple #[tripV (gotT t), .bool (okT t)]) ∧ Below W.heap.size W W' := by
  have hR0 := TripAt.new W 0 ⟨#[]⟩ 0 0
  have hZ : Below W.heap.size W (W.alloc (.cells #[.int .i64 0, .string ⟨#[]⟩, .int .i64 0, .int .i64 0] 24)) := (Below.refl _ W).alloc (Nat.le_refl _) _
  have hR := rtriple70 t ht (W.alloc (.cells #[.int .i64 0, .string ⟨#[]⟩, .int .i64 0, .int .i64 0] 24)) (hL.below hZ hL.lt)
  generalize gotT t = T at *
  generalize okT t = ok at *
  obtain ⟨b, p, x, r⟩ := T
  unfold tripV at hR ⊢
  dsimp only at hR ⊢
  go_enter Tryz.func17, Tryz.ntmps17
  go_wp2_with fail
  go_at_call 70
  refine hR.mono ?_
  rintro e W1 ⟨ev, hev, rfl, hb⟩
  rw [World.size_alloc] at hb
  have hB := hZ.trans (hb.mono (Nat.le_succ _))
  have hR1 := hR0.below hb (Nat.lt_succ_self _)
  have hX : Below W1.heap.size W1 (W1.alloc (.cells #[.int .i64 b, .string p, .int .i64 x, .int .i64 r] 24)) := (Below.refl _ W1).alloc (Nat.le_refl _) _
  have hBX := hB.alloc hB.size (.cells #[.int .i64 b, .string p, .int .i64 x, .int .i64 r] 24)
  have hRX := hR1.below hX hR1.lt
  have hTX := TripAt.new W1 b p x r
  obtain ⟨t0, t1, t2, t3⟩ := hTX.cells
  obtain ⟨e0, e1, e2, e3⟩ := hRX.cells
  obtain ⟨k0, k1, k2, k3⟩ := hRX.frozen
  obtain ⟨d0, d1, d2, d3⟩ := (set4_trip hRX b p x r).cells
  have hFin := (set4_below hBX (Nat.le_refl _) b p x r).drew
  clear hZ hR hR0 hb hB hR1 hX hTX
  cases ok with
  | true =>
    obtain rfl : ev = .nilIface := hev
    go_wp2_with fail
    go_region
    all_goals go_wp2_with fail
    all_goals unfold set4 at d0 d1 d2 d3 hFin
    all_goals exact bodyPost_ret (v := .tuple #[.agg #[.int .i64 b, .string p, .int .i64 x, .int .i64 r], .bool true]) (by simp [results, Tryz.results17, go_sem, d0, d1, d2, d3]) rfl ⟨rfl, hFin⟩
  | false =>
    obtain ⟨T, u, rfl⟩ : ∃ T u, ev = .iface T u := hev
    go_wp2_with fail
    go_region
    all_goals go_wp2_with fail
    all_goals unfold set4 at d0 d1 d2 d3 hFin
    all_goals exact bodyPost_ret (v := .tuple #[.agg #[.int .i64 b, .string p, .int .i64 x, .int .i64 r], .bool false]) (by simp [results, Tryz.results17, go_sem, d0, d1, d2, d3]) rfl ⟨rfl, hFin⟩

/-! ### The model's -/
theorem none_four {t fm : ByteArray} {z1 z4 : Bool} {T : Trip} (h : tryT t = if z1 = true ∧ z4 = true ∧ fm = t then some T else none) (hn : (z1 && z4) = false ∨ ¬ fm = t) :
    tripV (gotT t) = .agg #[.int .i64 0, .string ⟨#[]⟩, .int .i64 0, .int .i64 0] ∧ okT t = false := by
  have hx : tryT t = none := by
    rw [h, if_neg]
    rintro ⟨rfl, rfl, rfl⟩
    rcases hn with hn | hn
    · cases hn
    · exact hn rfl
  have ho : okT t = false := by unfold okT; rw [hx]; rfl
  exact ⟨by rw [got_none ho]; rfl, ho⟩
theorem none_fourT {t fm : ByteArray} {T : Trip} (h : tryT t = if True ∧ True ∧ fm = t then some T else none) (hn : ¬ fm = t) :
    tripV (gotT t) = .agg #[.int .i64 0, .string ⟨#[]⟩, .int .i64 0, .int .i64 0] ∧ okT t = false := by
  have hx : tryT t = none := by rw [h, if_neg (fun c => hn c.2.2)]
  have ho : okT t = false := by unfold okT; rw [hx]; rfl
  exact ⟨by rw [got_none ho]; rfl, ho⟩
theorem some_four {t fm : ByteArray} {b x r : Int} {p : ByteArray} (h : tryT t = if True ∧ True ∧ fm = t then some (⟨b, p, x, r⟩ : Trip) else none) (hf : fm = t) :
    tripV (gotT t) = .agg #[.int .i64 b, .string p, .int .i64 x, .int .i64 r] ∧ okT t = true := by
  rw [if_pos ⟨trivial, trivial, hf⟩] at h
  unfold gotT okT
  rw [h]
  exact ⟨rfl, rfl⟩
theorem mtry22_no (t : ByteArray) (ht : t.size ≤ 1048576) (h4 : (cutL t.data.toList).length ≠ 4) (W : World) :
    Calls Tryz.prog 22 #[.string t] W fun e W' => e = .returned (.tuple #[.agg #[.int .i64 0, .string ⟨#[]⟩, .int .i64 0, .int .i64 0], .bool false]) ∧ Below W.heap.size W W' := by
  have hlen : t.data.toList.length = t.size := by rw [Array.length_toList]; rfl
  have hcl := cutL_len t.data.toList
  have hC := fun X => cut23 t ht X
  have hne : cutL t.data.toList ≠ [] := cutL_ne _
  generalize cutL t.data.toList = ws at hC hcl h4 hne
  have hc : ((ws.length : Int) == 4) = false := by simp; omega
  have hb0 : ws.length ≤ 1048577 := by omega
  have hR0 := TripAt.new W 0 ⟨#[]⟩ 0 0
  have c0 : Below W.heap.size W (W.alloc (.cells #[.int .i64 0, .string ⟨#[]⟩, .int .i64 0, .int .i64 0] 24)) := (Below.refl _ W).alloc (Nat.le_refl _) _
  clear hlen hcl h4
  go_enter Tryz.func22, Tryz.ntmps22
  go_wp2_with fail
  go_at_call 81
  refine (hC _).mono ?_
  rintro e W1 ⟨v, rfl, hown, hb⟩
  rw [World.size_alloc] at hb hown
  have hR1 := hR0.below hb (Nat.lt_succ_self _)
  have hB := c0.trans (hb.mono (Nat.le_succ _))
  obtain ⟨g, cap, rfl, hg, hcells⟩ := texts_at hown hne
  obtain ⟨e0, e1, e2, e3⟩ := hR1.cells
  obtain ⟨f0, f1, f2, f3⟩ := hR1.frozen
  clear hown hcells hC hR0 c0 hb
  go_wp2_with fail
  obtain ⟨d0, d1, d2, d3⟩ := (set4_trip hR1 0 ⟨#[]⟩ 0 0).cells
  have hF := set4_below hB (Nat.le_refl _) 0 ⟨#[]⟩ 0 0
  unfold set4 at d0 d1 d2 d3 hF
  exact bodyPost_ret (v := .tuple #[.agg #[.int .i64 0, .string ⟨#[]⟩, .int .i64 0, .int .i64 0], .bool false]) (by simp [results, Tryz.results22, go_sem, d0, d1, d2, d3]) rfl ⟨rfl, hF⟩
set_option maxHeartbeats 6000000 in
theorem mtry22_four (t : ByteArray) (ht : t.size ≤ 1048576) (a p e c : List UInt8) (h4 : cutL t.data.toList = [a, p, e, c]) (W : World) :
    Calls Tryz.prog 22 #[.string t] W fun e W' => e = .returned (.tuple #[tripV (gotT t), .bool (okT t)]) ∧ Below W.heap.size W W' := by
  have hlen : t.data.toList.length = t.size := by rw [Array.length_toList]; rfl
  have hC := fun X => cut23 t ht X
  have hpl := fun q hq => pieces_len t.data.toList q hq
  rw [h4] at hC hpl
  have sz : ∀ q ∈ [a, p, e, c], (⟨q.toArray⟩ : ByteArray).size ≤ 1048576 := fun q hq => by
    have := hpl q hq
    show q.toArray.size ≤ 1048576
    rw [List.size_toArray]
    omega
  have hP1 := fun X => mp12 ⟨a.toArray⟩ (sz a (by simp)) X
  have hP4 := fun X => mp12 ⟨c.toArray⟩ (sz c (by simp)) X
  have hF4 := fun X => mfmt16 (parseN a) ⟨p.toArray⟩ (by have := sz p (by simp); omega) (exitW e) (parseN c) X
  have hT := try_four h4
  unfold fourT at hT
  have hR0 := TripAt.new W 0 ⟨#[]⟩ 0 0
  have c0 : Below W.heap.size W (W.alloc (.cells #[.int .i64 0, .string ⟨#[]⟩, .int .i64 0, .int .i64 0] 24)) := (Below.refl _ W).alloc (Nat.le_refl _) _
  have key : (⟨e.toArray⟩ : ByteArray).toList = e := by rw [Lib.toList_data]
  have hwe : exitW e = if e = [101, 114, 114, 111, 114] then 1 else 0 := rfl
  go_enter Tryz.func22, Tryz.ntmps22
  go_wp2_with fail
  go_at_call 81
  refine (hC _).mono ?_
  rintro en W1 ⟨v, rfl, hown, hb⟩
  rw [World.size_alloc] at hb hown
  have hR1 := hR0.below hb (Nat.lt_succ_self _)
  have hB := c0.trans (hb.mono (Nat.le_succ _))
  obtain ⟨g, cap, rfl, hg, hcells⟩ := texts_at hown (by simp)
  have k0 := hcells 0 a rfl
  have k1 := hcells 1 p rfl
  have k2 := hcells 2 e rfl
  have k3 := hcells 3 c rfl
  clear hown hcells hC hR0 c0 hb hpl sz
  go_wp2_with fail
  go_at_call 82
  refine (hP1 _).mono ?_
  rintro e1' W2 ⟨rfl, b2⟩
  have hR2 := hR1.below b2 hR1.lt
  have hB2 := hB.trans (b2.mono hB.size)
  have k1 := (b2.cell (p := ⟨g, 1, none⟩) hg).trans k1
  have k2 := (b2.cell (p := ⟨g, 2, none⟩) hg).trans k2
  have k3 := (b2.cell (p := ⟨g, 3, none⟩) hg).trans k3
  have hg := Nat.lt_of_lt_of_le hg b2.size
  go_wp2_with fail
  go_at_call 82
  refine (hP4 _).mono ?_
  rintro e2' W3 ⟨rfl, b3⟩
  have hR3 := hR2.below b3 hR2.lt
  have hB3 := hB2.trans (b3.mono hB2.size)
  have k1 := (b3.cell (p := ⟨g, 1, none⟩) hg).trans k1
  have k2 := (b3.cell (p := ⟨g, 2, none⟩) hg).trans k2
  have hg := Nat.lt_of_lt_of_le hg b3.size
  clear k0 hP1 hP4 hR1 hR2 hB hB2 b2 b3 k3
  generalize parseN (⟨a.toArray⟩ : ByteArray).data.toList = x1 at *
  generalize parseN (⟨c.toArray⟩ : ByteArray).data.toList = x4 at *
  generalize parseOk (⟨a.toArray⟩ : ByteArray).data.toList = z1 at *
  generalize parseOk (⟨c.toArray⟩ : ByteArray).data.toList = z4 at *
  have k2a := (((Below.refl W3.heap.size W3).alloc (Nat.le_refl _) (.cells #[.int .i64 x1, .string ⟨p.toArray⟩, .int .i64 0, .int .i64 x4] 24)).cell (p := ⟨g, 2, none⟩) hg).trans k2
  obtain ⟨r0, r1, r2, r3⟩ := hR3.cells
  obtain ⟨s0, s1, s2, s3⟩ := hR3.frozen
  cases hqe : (e == [101, 114, 114, 111, 114]) with
  | true =>
    have hwe : exitW e = 1 := by unfold exitW; rw [if_pos (eq_of_beq hqe)]
    have hRX := hR3.below ((Below.refl _ W3).alloc (Nat.le_refl _) (.cells #[.int .i64 x1, .string ⟨p.toArray⟩, .int .i64 1, .int .i64 x4] 24)) hR3.lt
    have hBX := hB3.alloc hB3.size (.cells #[.int .i64 x1, .string ⟨p.toArray⟩, .int .i64 1, .int .i64 x4] 24)
    have hO := TripAt.new W3 x1 ⟨p.toArray⟩ 1 x4
    obtain ⟨e0, e1, e2, e3⟩ := hRX.cells
    obtain ⟨f0, f1, f2, f3⟩ := hRX.frozen
    cases hz : (z1 && z4) with
    | false =>
      have HZ := Lib.hid (none_four hT (Or.inl hz))
      obtain ⟨d0, d1, d2, d3⟩ := (set4_trip hRX 0 ⟨#[]⟩ 0 0).cells
      have hFin := set4_below hBX (Nat.le_refl _) 0 ⟨#[]⟩ 0 0
      have HD := Lib.hid (And.intro d0 (And.intro d1 (And.intro d2 (And.intro d3 hFin))))
      clear d0 d1 d2 d3 hFin hT hF4
      rcases Bool.and_eq_false_iff.1 hz with rfl | rfl
      · go_wp2_with fail
        obtain ⟨d0, d1, d2, d3, hFin⟩ := HD.out
        unfold set4 at d0 d1 d2 d3 hFin
        exact bodyPost_ret (v := .tuple #[.agg #[.int .i64 0, .string ⟨#[]⟩, .int .i64 0, .int .i64 0], .bool false]) (by simp [results, Tryz.results22, go_sem, d0, d1, d2, d3]) rfl ⟨by rw [HZ.out.1, HZ.out.2], hFin⟩
      · cases z1
        all_goals go_wp2_with fail
        all_goals obtain ⟨d0, d1, d2, d3, hFin⟩ := HD.out
        all_goals unfold set4 at d0 d1 d2 d3 hFin
        all_goals exact bodyPost_ret (v := .tuple #[.agg #[.int .i64 0, .string ⟨#[]⟩, .int .i64 0, .int .i64 0], .bool false]) (by simp [results, Tryz.results22, go_sem, d0, d1, d2, d3]) rfl ⟨by rw [HZ.out.1, HZ.out.2], hFin⟩
    | true =>
      obtain ⟨rfl, rfl⟩ := Bool.and_eq_true_iff.1 hz
      rw [hwe] at hF4 hT
      have HT := Lib.hid hT
      clear hT
      obtain ⟨o0, o1, o2, o3⟩ := hO.cells
      go_wp2_with fail
      go_at_call 18
      refine (hF4 _).mono ?_
      rintro e3' W5 ⟨rfl, b5⟩
      have hR5 := hRX.below b5 hRX.lt
      have hO5 := hO.below b5 hO.lt
      have hB5 := hBX.trans (b5.mono hBX.size)
      have hT := HT.out
      clear HT hF4 o0 o1 o2 o3 e0 e1 e2 e3 f0 f1 f2 f3 r0 r1 r2 r3 s0 s1 s2 s3
      obtain ⟨o0, o1, o2, o3⟩ := hO5.cells
      obtain ⟨e0, e1, e2, e3⟩ := hR5.cells
      obtain ⟨f0, f1, f2, f3⟩ := hR5.frozen
      generalize fmtT x1 ⟨p.toArray⟩ 1 x4 = fm at hT ⊢
      cases hq : (fm.toList == t.toList) with
      | false =>
        have hne : ¬ fm = t := fun he => by rw [he] at hq; simp at hq
        have HZ := Lib.hid (none_fourT hT hne)
        clear hT hne
        go_wp2_with fail
        obtain ⟨d0, d1, d2, d3⟩ := (set4_trip hR5 0 ⟨#[]⟩ 0 0).cells
        have hFin := set4_below hB5 (Nat.le_refl _) 0 ⟨#[]⟩ 0 0
        unfold set4 at d0 d1 d2 d3 hFin
        exact bodyPost_ret (v := .tuple #[.agg #[.int .i64 0, .string ⟨#[]⟩, .int .i64 0, .int .i64 0], .bool false]) (by simp [results, Tryz.results22, go_sem, d0, d1, d2, d3]) rfl ⟨by rw [HZ.out.1, HZ.out.2], hFin⟩
      | true =>
        have hfe : fm = t := by
          have := eq_of_beq hq
          rw [Lib.toList_data, Lib.toList_data] at this
          exact ByteArray.ext (Array.toList_inj.1 this)
        have HZ := Lib.hid (some_four (by simpa using hT) hfe)
        clear hT hfe
        go_wp2_with fail
        obtain ⟨d0, d1, d2, d3⟩ := (set4_trip hR5 x1 ⟨p.toArray⟩ 1 x4).cells
        have hFin := set4_below hB5 (Nat.le_refl _) x1 ⟨p.toArray⟩ 1 x4
        unfold set4 at d0 d1 d2 d3 hFin
        exact bodyPost_ret (v := .tuple #[.agg #[.int .i64 x1, .string ⟨p.toArray⟩, .int .i64 1, .int .i64 x4], .bool true]) (by simp [results, Tryz.results22, go_sem, d0, d1, d2, d3]) rfl ⟨by rw [HZ.out.1, HZ.out.2], hFin⟩
  | false =>
    have hwe : exitW e = 0 := by unfold exitW; rw [if_neg (fun he => by rw [he] at hqe; simp at hqe)]
    have hRX := hR3.below ((Below.refl _ W3).alloc (Nat.le_refl _) (.cells #[.int .i64 x1, .string ⟨p.toArray⟩, .int .i64 0, .int .i64 x4] 24)) hR3.lt
    have hBX := hB3.alloc hB3.size (.cells #[.int .i64 x1, .string ⟨p.toArray⟩, .int .i64 0, .int .i64 x4] 24)
    have hO := TripAt.new W3 x1 ⟨p.toArray⟩ 0 x4
    obtain ⟨e0, e1, e2, e3⟩ := hRX.cells
    obtain ⟨f0, f1, f2, f3⟩ := hRX.frozen
    cases hz : (z1 && z4) with
    | false =>
      have HZ := Lib.hid (none_four hT (Or.inl hz))
      obtain ⟨d0, d1, d2, d3⟩ := (set4_trip hRX 0 ⟨#[]⟩ 0 0).cells
      have hFin := set4_below hBX (Nat.le_refl _) 0 ⟨#[]⟩ 0 0
      have HD := Lib.hid (And.intro d0 (And.intro d1 (And.intro d2 (And.intro d3 hFin))))
      clear d0 d1 d2 d3 hFin hT hF4
      rcases Bool.and_eq_false_iff.1 hz with rfl | rfl
      · go_wp2_with fail
        obtain ⟨d0, d1, d2, d3, hFin⟩ := HD.out
        unfold set4 at d0 d1 d2 d3 hFin
        exact bodyPost_ret (v := .tuple #[.agg #[.int .i64 0, .string ⟨#[]⟩, .int .i64 0, .int .i64 0], .bool false]) (by simp [results, Tryz.results22, go_sem, d0, d1, d2, d3]) rfl ⟨by rw [HZ.out.1, HZ.out.2], hFin⟩
      · cases z1
        all_goals go_wp2_with fail
        all_goals obtain ⟨d0, d1, d2, d3, hFin⟩ := HD.out
        all_goals unfold set4 at d0 d1 d2 d3 hFin
        all_goals exact bodyPost_ret (v := .tuple #[.agg #[.int .i64 0, .string ⟨#[]⟩, .int .i64 0, .int .i64 0], .bool false]) (by simp [results, Tryz.results22, go_sem, d0, d1, d2, d3]) rfl ⟨by rw [HZ.out.1, HZ.out.2], hFin⟩
    | true =>
      obtain ⟨rfl, rfl⟩ := Bool.and_eq_true_iff.1 hz
      rw [hwe] at hF4 hT
      have HT := Lib.hid hT
      clear hT
      obtain ⟨o0, o1, o2, o3⟩ := hO.cells
      go_wp2_with fail
      go_at_call 18
      refine (hF4 _).mono ?_
      rintro e3' W5 ⟨rfl, b5⟩
      have hR5 := hRX.below b5 hRX.lt
      have hO5 := hO.below b5 hO.lt
      have hB5 := hBX.trans (b5.mono hBX.size)
      have hT := HT.out
      clear HT hF4 o0 o1 o2 o3 e0 e1 e2 e3 f0 f1 f2 f3 r0 r1 r2 r3 s0 s1 s2 s3
      obtain ⟨o0, o1, o2, o3⟩ := hO5.cells
      obtain ⟨e0, e1, e2, e3⟩ := hR5.cells
      obtain ⟨f0, f1, f2, f3⟩ := hR5.frozen
      generalize fmtT x1 ⟨p.toArray⟩ 0 x4 = fm at hT ⊢
      cases hq : (fm.toList == t.toList) with
      | false =>
        have hne : ¬ fm = t := fun he => by rw [he] at hq; simp at hq
        have HZ := Lib.hid (none_fourT hT hne)
        clear hT hne
        go_wp2_with fail
        obtain ⟨d0, d1, d2, d3⟩ := (set4_trip hR5 0 ⟨#[]⟩ 0 0).cells
        have hFin := set4_below hB5 (Nat.le_refl _) 0 ⟨#[]⟩ 0 0
        unfold set4 at d0 d1 d2 d3 hFin
        exact bodyPost_ret (v := .tuple #[.agg #[.int .i64 0, .string ⟨#[]⟩, .int .i64 0, .int .i64 0], .bool false]) (by simp [results, Tryz.results22, go_sem, d0, d1, d2, d3]) rfl ⟨by rw [HZ.out.1, HZ.out.2], hFin⟩
      | true =>
        have hfe : fm = t := by
          have := eq_of_beq hq
          rw [Lib.toList_data, Lib.toList_data] at this
          exact ByteArray.ext (Array.toList_inj.1 this)
        have HZ := Lib.hid (some_four (by simpa using hT) hfe)
        clear hT hfe
        go_wp2_with fail
        obtain ⟨d0, d1, d2, d3⟩ := (set4_trip hR5 x1 ⟨p.toArray⟩ 0 x4).cells
        have hFin := set4_below hB5 (Nat.le_refl _) x1 ⟨p.toArray⟩ 0 x4
        unfold set4 at d0 d1 d2 d3 hFin
        exact bodyPost_ret (v := .tuple #[.agg #[.int .i64 x1, .string ⟨p.toArray⟩, .int .i64 0, .int .i64 x4], .bool true]) (by simp [results, Tryz.results22, go_sem, d0, d1, d2, d3]) rfl ⟨by rw [HZ.out.1, HZ.out.2], hFin⟩
theorem mtry22 (t : ByteArray) (ht : t.size ≤ 1048576) (W : World) :
    Calls Tryz.prog 22 #[.string t] W fun e W' => e = .returned (.tuple #[tripV (gotT t), .bool (okT t)]) ∧ Below W.heap.size W W' := by
  by_cases h4 : (cutL t.data.toList).length = 4
  · obtain ⟨a, p, e, c, h⟩ : ∃ a p e c, cutL t.data.toList = [a, p, e, c] := by
      match hc : cutL t.data.toList, h4 with
      | [a, p, e, c], _ => exact ⟨a, p, e, c, rfl⟩
    exact mtry22_four t ht a p e c h W
  · have hn := try_not h4
    have hg : gotT t = zeroT := by unfold gotT; rw [hn]; rfl
    have ho : okT t = false := by unfold okT; rw [hn]; rfl
    rw [hg, ho]
    exact mtry22_no t ht h4 W
end Go.Proofs.YtcppphjdgpkhcaaGreatDoor

