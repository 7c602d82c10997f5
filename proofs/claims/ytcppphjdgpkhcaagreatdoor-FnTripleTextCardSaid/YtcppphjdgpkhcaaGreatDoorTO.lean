/- Chapter 5, the program: a program and an exit read off a reader of words. -/
import Derived.Test.YtcppphjdgpkhcaaGreatDoorTJ
namespace Go.Proofs.YtcppphjdgpkhcaaGreatDoor
open Go.ChangeShapes Go.WideShapes Go.ChangeAt Go.RowKit Go.Shelf
attribute [local go_sem] Oper.semAt_some
set_option maxRecDepth 100000

/-- An error: none, or one. -/
def Errs (ok : Bool) (v : Value) : Prop := if ok = true then v = .nilIface else ∃ T u, v = .iface T u
/-- A word has been read and turned into a value: what is left, and nothing but the reader's block written. -/
def ReadW (g : Nat) (t : ByteArray) (W : World) (V : ByteArray → Value) (ok : ByteArray → Bool) (e : Ending) (W' : World) : Prop :=
  ∃ a r m ev, Cuts t a r m ∧ Errs (ok a) ev ∧ e = .returned (.tuple #[V a, ev]) ∧ WordAt W' g r (!m) ∧ W.grownBy W' (some g)
theorem grown_b {W X Y : World} {g : Nat} (h : W.grownBy X (some g)) (hb : Below X.heap.size X Y) : W.grownBy Y (some g) :=
  grown_trans h ⟨hb.os, hb.tape, hb.output, hb.size, fun i hi _ => hb.block i hi⟩
set_option maxHeartbeats 1000000 in
theorem prog82 {W : World} {g : Nat} {t : ByteArray} {e0 : Bool} (h : WordAt W g t e0) (ht : t.size ≤ 9000000) {N : Nat} (hL : Laid3 N W) (hN : N ≤ g) :
    Calls Tryz.prog 163 #[.pointer (some ⟨g, 0, none⟩)] W (ReadW g t W (fun a => .string a) (fun a => (readP a.toList).isSome)) := by
  go_enter Tryz.func163, Tryz.ntmps163
  go_wp2_with fail
  go_at_call 196
  refine (word103 h ht).mono ?_
  rintro e W1 ⟨a, r, m, hc, rfl, h1, g1⟩
  have hr := pread40 a.toList W1 (hL.grown g1 hN)
  rw [bytes_eta] at hr
  go_wp2_with fail
  go_at_call 118
  refine hr.mono ?_
  rintro e W2 ⟨hb, hm⟩
  have h2 := h1.below hb h1.lt
  have g2 := grown_b g1 hb
  clear hr
  cases hP : readP a.toList with
  | some nd =>
    rw [hP] at hm
    have hk : Errs (readP a.toList).isSome .nilIface := by rw [hP]; rfl
    clear hP
    dsimp only at hm
    subst hm
    generalize nodeV nd = nv
    go_wp2_with fail
    exact bodyPost_ret (v := .tuple #[.string a, .nilIface]) (by simp [results, Tryz.results163, go_sem]) rfl ⟨a, r, m, _, hc, hk, rfl, h2, g2⟩
  | none =>
    rw [hP] at hm
    obtain ⟨T, u, rfl⟩ := hm
    have hk : Errs (readP a.toList).isSome (.iface T u) := by rw [hP]; exact ⟨T, u, rfl⟩
    clear hP
    go_wp2_with fail
    exact bodyPost_ret (v := .tuple #[.string a, .iface T u]) (by simp [results, Tryz.results163, go_sem]) rfl ⟨a, r, m, _, hc, hk, rfl, h2, g2⟩
def NoExit (N : Nat) (W : World) : Prop := (∃ T v, W.cell? ⟨8, 0, none⟩ = some (.iface T v)) ∧ 8 < N
theorem NoExit.below {N : Nat} {W W' : World} (h : NoExit N W) {n : Nat} (hb : Below n W W') (hn : N ≤ n) : NoExit N W' := by
  obtain ⟨⟨T, v, e⟩, hl⟩ := h
  exact ⟨⟨T, v, (hb.cell (p := ⟨8, 0, none⟩) (Nat.lt_of_lt_of_le hl hn)).trans e⟩, hl⟩
set_option maxHeartbeats 1000000 in
theorem exit104 (a : ByteArray) (W : World) {N : Nat} (hE : NoExit N W) (hN : N ≤ W.heap.size) :
    Calls Tryz.prog 197 #[.string a] W fun e W' => ∃ z ev, Errs (((nameX 0).toList == a.toList) || ((nameX 1).toList == a.toList)) ev ∧ z = (if ((nameX 0).toList == a.toList) = true then 0 else if ((nameX 1).toList == a.toList) = true then 1 else 0) ∧ e = .returned (.tuple #[.int .i64 z, ev]) ∧ Below W.heap.size W W' := by
  have hb : Below W.heap.size W (W.alloc (.cells #[.int .i64 0, .int .i64 1] 3)) := (Below.refl _ W).alloc (Nat.le_refl _) _
  obtain ⟨⟨T, v, hc⟩, hl⟩ := hE.below hb hN
  have k0 : (W.alloc (.cells #[.int .i64 0, .int .i64 1] 3)).cell? ⟨W.heap.size, 0, none⟩ = some (.int .i64 0) := by rw [cell_of_row _ W.heap.size 0 _ _ (0, 0) (heap_alloc_new W _)]; rfl
  have k1 : (W.alloc (.cells #[.int .i64 0, .int .i64 1] 3)).cell? ⟨W.heap.size, 1, none⟩ = some (.int .i64 1) := by rw [cell_of_row _ W.heap.size 1 _ _ (0, 0) (heap_alloc_new W _)]; rfl
  have hn0 := fun X => pname26 0 X
  have hn1 := fun X => pname26 1 X
  generalize nameX 0 = n0 at hn0 ⊢
  generalize nameX 1 = n1 at hn1 ⊢
  go_enter Tryz.func197, Tryz.ntmps197
  go_wp2_with fail
  generalize W.alloc (.cells #[.int .i64 0, .int .i64 1] 3) = W1 at hb hc k0 k1 ⊢
  go_loopw [8] (fun i wr => (i = .int .i64 0 ∨ (i = .int .i64 1 ∧ (n0.toList == a.toList) = false) ∨ (i = .int .i64 2 ∧ (n0.toList == a.toList) = false ∧ (n1.toList == a.toList) = false)) ∧ wr = W1) (fun i _ => 2 - (intOf i).toNat)
  case atStart => exact ⟨.inl rfl, rfl⟩
  case round =>
    obtain ⟨h, rfl⟩ := hrel
    rcases h with rfl | ⟨rfl, h0⟩ | ⟨rfl, h0, h1⟩
    · cases q : (n0.toList == a.toList) with
      | true =>
        go_wp2_with (go_at_call 68; refine (hn0 _).mono ?_; rintro e w' ⟨rfl, rfl⟩)
        exact bodyPost_ret (v := .tuple #[.int .i64 0, .nilIface]) (by simp [results, Tryz.results197, go_sem]) rfl ⟨0, .nilIface, rfl, rfl, rfl, hb⟩
      | false =>
        go_wp2_with (go_at_call 68; refine (hn0 _).mono ?_; rintro e w' ⟨rfl, rfl⟩)
        go_roundw <;> simp [intOf]
    · cases q : (n1.toList == a.toList) with
      | true =>
        go_wp2_with (go_at_call 68; refine (hn1 _).mono ?_; rintro e w' ⟨rfl, rfl⟩)
        all_goals exact bodyPost_ret (v := .tuple #[.int .i64 1, .nilIface]) (by simp [results, Tryz.results197, go_sem]) rfl (by first | exact ⟨1, .nilIface, rfl, rfl, rfl, hb⟩ | exact ⟨1, .nilIface, rfl, by simp [h0], rfl, hb⟩ | exact ⟨1, .nilIface, by simp [Errs], by simp, rfl, hb⟩)
      | false =>
        go_wp2_with (go_at_call 68; refine (hn1 _).mono ?_; rintro e w' ⟨rfl, rfl⟩)
        go_roundw <;> first | (simp [intOf]; done) | (simp; simpa using h0)
    · go_wp2_with fail
      go_region
      all_goals go_wp2_with fail
      all_goals exact bodyPost_ret (v := .tuple #[.int .i64 0, .iface T v]) (by simp [results, Tryz.results197, go_sem]) rfl (by first | exact ⟨0, .iface T v, ⟨T, v, rfl⟩, rfl, rfl, hb.drew⟩ | exact ⟨0, .iface T v, ⟨T, v, rfl⟩, by simp, rfl, hb.drew⟩ | exact ⟨0, .iface T v, by simp [Errs], by simp, rfl, hb.drew⟩)
/-- The two errors that readSet answers with. -/
def SetErrs (N : Nat) (W : World) : Prop := (∃ T v, W.cell? ⟨7, 0, none⟩ = some (.iface T v)) ∧ (∃ T v, W.cell? ⟨11, 0, none⟩ = some (.iface T v)) ∧ 7 < N ∧ 11 < N
theorem SetErrs.grown {N : Nat} {W W' : World} (h : SetErrs N W) {g : Nat} (hg : W.grownBy W' (some g)) (hn : N ≤ g) (hw : N ≤ W.heap.size) : SetErrs N W' := by
  obtain ⟨⟨T, v, e⟩, ⟨T', v', e'⟩, h1, h2⟩ := h
  refine ⟨⟨T, v, ?_⟩, ⟨T', v', ?_⟩, h1, h2⟩
  · exact (World.cell?_of_block (a := ⟨7, 0, none⟩) (hg.block _ (Nat.lt_of_lt_of_le h1 hw) (by intro q; cases q; exact absurd h1 (Nat.not_lt.2 hn)))).trans e
  · exact (World.cell?_of_block (a := ⟨11, 0, none⟩) (hg.block _ (Nat.lt_of_lt_of_le h2 hw) (by intro q; cases q; exact absurd h2 (Nat.not_lt.2 hn)))).trans e'
set_option maxHeartbeats 1000000 in
theorem set81 {W : World} {g : Nat} {t : ByteArray} {e0 : Bool} (h : WordAt W g t e0) (ht : t.size ≤ 1048576) {N : Nat} (hL : SetErrs N W) (hN : N ≤ g) :
    Calls Tryz.prog 162 #[.pointer (some ⟨g, 0, none⟩)] W (ReadW g t W (fun a => .int .i64 (parseN a.data.toList)) (fun a => parseOk a.data.toList)) := by
  have hlt := h.lt
  go_enter Tryz.func162, Tryz.ntmps162
  go_wp2_with fail
  go_at_call 196
  refine (word103 h (by omega)).mono ?_
  rintro e W1 ⟨a, r, m, hc, rfl, h1, g1⟩
  have hl1 := h1.lt
  obtain ⟨⟨T, v, q1⟩, ⟨T', v', q2⟩, q3, q4⟩ := hL.grown g1 hN (by omega)
  have hr := rset16 a (by have := hc.1; omega) W1 T T' v v' q1 q2 ⟨by omega, by omega⟩
  clear q1 q2
  go_wp2_with fail
  go_at_call 195
  refine hr.mono ?_
  rintro e W2 ⟨hk, hb⟩
  have h2 := h1.below hb h1.lt
  have g2 := grown_b g1 hb
  clear hr hb g1 h1
  rcases hk with ⟨k, hk, rfl⟩ | ⟨hk, T2, u2, rfl⟩
  · have hv : parseN a.data.toList = (k : Int) := by unfold parseN; rw [hk]; try rfl
    have hok : Errs (parseOk a.data.toList) .nilIface := by unfold parseOk; rw [hk]; rfl
    clear hk
    go_wp2_with fail
    exact bodyPost_ret (v := .tuple #[.int .i64 (k : Int), .nilIface]) (by simp [results, Tryz.results162, go_sem]) rfl ⟨a, r, m, _, hc, hok, by show _ = Ending.returned (.tuple #[.int .i64 (parseN a.data.toList), _]); rw [hv], h2, g2⟩
  · have hv : parseN a.data.toList = 0 := by unfold parseN; rw [hk]; try rfl
    have hok : Errs (parseOk a.data.toList) (.iface T2 u2) := by unfold parseOk; rw [hk]; exact ⟨T2, u2, rfl⟩
    clear hk
    go_wp2_with fail
    exact bodyPost_ret (v := .tuple #[.int .i64 0, .iface T2 u2]) (by simp [results, Tryz.results162, go_sem]) rfl ⟨a, r, m, _, hc, hok, by show _ = Ending.returned (.tuple #[.int .i64 (parseN a.data.toList), _]); rw [hv], h2, g2⟩
def exitV (a : ByteArray) : Int := if ((nameX 0).toList == a.toList) = true then 0 else if ((nameX 1).toList == a.toList) = true then 1 else 0
def exitOk (a : ByteArray) : Bool := ((nameX 0).toList == a.toList) || ((nameX 1).toList == a.toList)
set_option maxHeartbeats 1000000 in
theorem exit83 {W : World} {g : Nat} {t : ByteArray} {e0 : Bool} (h : WordAt W g t e0) (ht : t.size ≤ 9000000) {N : Nat} (hL : NoExit N W) (hN : N ≤ g) :
    Calls Tryz.prog 164 #[.pointer (some ⟨g, 0, none⟩)] W (ReadW g t W (fun a => .int .i64 (exitV a)) exitOk) := by
  have hlt := h.lt
  go_enter Tryz.func164, Tryz.ntmps164
  go_wp2_with fail
  go_at_call 196
  refine (word103 h ht).mono ?_
  rintro e W1 ⟨a, r, m, hc, rfl, h1, g1⟩
  have hl1 := h1.lt
  have hL1 : NoExit N W1 := by
    obtain ⟨⟨T, v, e⟩, q⟩ := hL
    exact ⟨⟨T, v, (World.cell?_of_block (a := ⟨8, 0, none⟩) (g1.block _ (Nat.lt_of_lt_of_le q (Nat.le_trans hN (Nat.le_of_lt hlt))) (by intro z; cases z; exact absurd q (Nat.not_lt.2 hN)))).trans e⟩, q⟩
  go_wp2_with fail
  go_at_call 197
  refine (exit104 a W1 hL1 (by omega)).mono ?_
  rintro e W2 ⟨z, ev, he, hz, rfl, hb⟩
  have h2 := h1.below hb h1.lt
  have g2 := grown_b g1 hb
  clear hb g1 h1
  have hz2 : z = exitV a := hz
  have he2 : Errs (exitOk a) ev := he
  clear hz he
  subst hz2
  generalize hzz : exitV a = z at *
  go_wp2_with fail
  exact bodyPost_ret (v := .tuple #[.int .i64 z, ev]) (by simp [results, Tryz.results164, go_sem]) rfl ⟨a, r, m, _, hc, he2, by rw [← hzz], h2, g2⟩
end Go.Proofs.YtcppphjdgpkhcaaGreatDoor

