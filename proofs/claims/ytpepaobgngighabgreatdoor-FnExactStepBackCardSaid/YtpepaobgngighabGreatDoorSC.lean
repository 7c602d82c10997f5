/- Chapter 8: sequences stepped back; the model. -/
import Derived.Test.YtpepaobgngighabGreatDoorSB
namespace Go.Proofs.YtpepaobgngighabGreatDoor
open Go.ChangeShapes Go.WideShapes Go.ChangeAt Go.RowKit Go.Shelf
attribute [local go_sem] Oper.semAt_some
set_option maxRecDepth 100000

theorem infoI8 : (Tryz.prog.info? 3).map (fun i => (i.zero, i.size, i.bytes)) = some (some (.int .i64 0), 1, 8) := by kernel_rfl
set_option maxHeartbeats 4000000 in
theorem mstep8 {W : World} {v : Value} {ws : List (List UInt8)} (h : TextsAt W v ws) (hn : ws.length ≤ 1048576) (hs : ∀ b ∈ ws, b.length ≤ 1048576) :
    Calls Tryz.prog 11 #[v] W fun e W' => ∃ r0, e = .returned (.tuple #[r0, .bool (okS ws)]) ∧ IRow W' W.heap.size r0 (resS ws) ∧ Below W.heap.size W W' := by
  obtain ⟨a, cap, rfl, h1, h2, h3⟩ := h
  obtain ⟨i0, hi, hz0, hz1, hz2⟩ := info_parts infoI8
  obtain ⟨w1, hr, hown, hg1⟩ := run_make_full (P := Tryz.prog) W W.heap.size 33 3 i0 (.int .i64 0) 1 Tryz.underlying33 hi hz0 hz1 .i64 .i64 ws.length (by rw [hz2]; omega) (by unfold maxLen; omega) (Nat.le_refl _)
  have hrow : IRow w1 W.heap.size (.slice (some ⟨W.heap.size, 0, none⟩) ws.length ws.length) (partS ws ws.length) := by
    unfold IRow
    rw [partS_full, List.length_replicate, List.map_replicate, ← toList_madeCells_one]
    simpa [Value.cells] using hown
  have hnn : ¬ ((ws.length : Int) < 0) := by omega
  have hni : (ws.length : Int) ≤ 1048576 := by omega
  have hn0 : (0 : Int) ≤ (ws.length : Int) := by omega
  clear hown
  go_enter Tryz.func11, Tryz.ntmps11
  go_wp2_with fail
  clear hr
  go_loopw [5, 6] (fun y i wr => ∃ k : Nat, k ≤ ws.length ∧ i = .int .i64 ((k : Int) - 1) ∧ y = .int .i64 ((headS ws k : Nat) : Int) ∧ (k < ws.length → ws.length ≤ 8) ∧ (∀ (j : Nat) b, k ≤ j → ws[j]? = some b → okP b = true) ∧ IRow wr W.heap.size (.slice (some ⟨W.heap.size, 0, none⟩) ws.length ws.length) (partS ws k) ∧ Below W.heap.size W wr) (fun _ i _ => (intOf i + 1).toNat)
  case atStart => exact ⟨ws.length, by omega, rfl, by rw [headS_full]; rfl, by omega, fun j b hj hb => absurd (List.getElem?_eq_some_iff.1 hb).1 (by omega), hrow, (Below.refl _ W).grown hg1 (Nat.le_refl _) (fun i e => by cases e)⟩
  case round =>
    obtain ⟨k, hk, rfl, rfl, h8, hall, hR, hB⟩ := hrel
    cases k with
    | zero =>
      rw [show ((0 : Nat) : Int) - 1 = -1 from rfl]
      have hok : okS ws = true := okS_all (fun j b hb => hall j b (Nat.zero_le _) hb) (by
        cases hw : ws.length with
        | zero => omega
        | succ n => have := h8 (by omega); omega)
      rw [partS_zero, ← resS_yes hok] at hR
      go_wp2_with fail
      go_ret2
      exact ⟨_, (by rw [hok]; rfl), hR, hB⟩
    | succ k =>
      rw [show ((k + 1 : Nat) : Int) - 1 = (k : Int) by omega]
      have hlt : k < ws.length := by omega
      have hlti : (k : Int) < (ws.length : Int) := by omega
      have k0 : (0 : Int) ≤ (k : Int) := by omega
      have hz : ws[k]? = some ws[k] := List.getElem?_eq_getElem hlt
      rcases h3 with h3 | ⟨x, rfl, h3⟩
      · rw [h3] at hlt; simp at hlt
      have hc := (hB.cell (lt_cell (h3 k _ hz))).trans (h3 k _ hz)
      have hsz := hs _ (List.getElem_mem hlt)
      have hno := @okS_no ws k ws[k] hz
      have hall2 : okP ws[k] = true → ∀ (j : Nat) b, k ≤ j → ws[j]? = some b → okP b = true := fun ho j b hj hb => by
        by_cases he : j = k
        · subst he; rw [hz] at hb; cases hb; exact ho
        · exact hall j b (by omega) hb
      have hstep := headS_step hz
      have hset := partS_set hz
      have hlen := partS_len (ws := ws) (k := k + 1) (by omega)
      have hm := headS_lt ws (k + 1)
      generalize ws[k] = b at hc hsz hno hall2 hstep hset
      have hts : (⟨b.toArray⟩ : ByteArray).size ≤ 9000000 := by show b.length ≤ _; omega
      have hF := fun X => mfails ⟨b.toArray⟩ hts X
      have hG2 := fun X => mcan ⟨b.toArray⟩ hts ((headS ws (k + 1) : Nat) : Int) 0 X
      clear h3 hz hs
      cases ho : okP b with
      | false =>
        obtain ⟨t1, t2, t3, t4⟩ := tell_no ho ((headS ws (k + 1) : Nat) : Int)
        rw [t1, t2] at hF
        rw [t3, t4] at hG2
        have HOK := Lib.hid (hno ho)
        clear hall hall2 hno hset hstep t1 t2 t3 t4
        generalize headS ws (k + 1) = m at hG2 hm ⊢
        generalize (⟨b.toArray⟩ : ByteArray) = t at hc hts hF hG2
        go_wp2_with (first
          | (go_at_call 24; refine (hF _).mono ?_; rintro e W2 ⟨rfl, hb2⟩; have hc := (hb2.cell (lt_cell hc)).trans hc)
          | (go_at_call 25; refine (hG2 _).mono ?_; rintro e W3 ⟨rfl, hb3⟩))
        go_ret2
        have hBW := (hB.trans (hb2.mono hB.size)).trans (hb3.mono (Nat.le_trans hB.size hb2.size))
        exact ⟨_, (by rw [HOK.out]; rfl), by rw [resS_no HOK.out]; exact World.ownsRow_lit (base := W.heap.size) (e := 3) (size := 1) W3 #[] 0 hBW.size (by decide) rfl, hBW.alloc hBW.size _⟩
      | true =>
        obtain ⟨c, d, hc9, hd9, hst, t1, t2, t3, t4⟩ := tell_yes ho hm
        rw [t1, t2] at hF
        rw [t3, t4] at hG2
        have hor := or_nat c d (by omega) (by omega)
        rw [← hst] at hor
        have HA := Lib.hid (hall2 ho)
        clear hall hall2 hno t1 t2 t3 t4 hst
        by_cases h88 : ws.length ≤ 8
        · have h8i : (ws.length : Int) ≤ 8 := by omega
          generalize hpq : partS ws (k + 1) = pq at hR hlen hset
          generalize headS ws (k + 1) = m at hG2 hm hset hstep hor ⊢
          generalize stepN b m = sn at hset hstep hor
          generalize (⟨b.toArray⟩ : ByteArray) = t at hc hts hF hG2
          go_wp2_with (first
            | (go_at_call 24; refine (hF _).mono ?_; rintro e W2 ⟨rfl, hb2⟩; have hc := (hb2.cell (lt_cell hc)).trans hc)
            | (go_at_call 25; refine (hG2 _).mono ?_; rintro e W3 ⟨rfl, hb3⟩; have hR3 := (hR.below hb2).below hb3; have hfz := hR3.frozen hlen k; have hce := hR3.cellN hlen k hlt; have hst2 := hR3.stored hlen k (sn : Int); rw [hset] at hst2))
          go_roundw
          case rel => exact ⟨k, by omega, by first | rfl | go_num, by rw [hstep], fun _ => h88, HA.out, hst2.1, ((hB.trans (hb2.mono hB.size)).trans (hb3.mono (Nat.le_trans hB.size hb2.size))).grown hst2.2 (Nat.le_trans hB.size (Nat.le_trans hb2.size hb3.size)) (fun i e => by cases e; exact Nat.le_refl _)⟩
          case measure => (simp [intOf] <;> omega)
        · have h8i : (8 : Int) < (ws.length : Int) := by omega
          have HOK := Lib.hid (okS_long (ws := ws) (by omega))
          generalize headS ws (k + 1) = m at hG2 hm hset hstep hor ⊢
          generalize stepN b m = sn at hset hstep hor
          generalize (⟨b.toArray⟩ : ByteArray) = t at hc hts hF hG2
          go_wp2_with (first
            | (go_at_call 24; refine (hF _).mono ?_; rintro e W2 ⟨rfl, hb2⟩; have hc := (hb2.cell (lt_cell hc)).trans hc)
            | (go_at_call 25; refine (hG2 _).mono ?_; rintro e W3 ⟨rfl, hb3⟩))
          go_ret2
          have hBW := (hB.trans (hb2.mono hB.size)).trans (hb3.mono (Nat.le_trans hB.size hb2.size))
          exact ⟨_, (by rw [HOK.out]; rfl), by rw [resS_no HOK.out]; exact World.ownsRow_lit (base := W.heap.size) (e := 3) (size := 1) W3 #[] 0 hBW.size (by decide) rfl, hBW.alloc hBW.size _⟩
end Go.Proofs.YtpepaobgngighabGreatDoor

