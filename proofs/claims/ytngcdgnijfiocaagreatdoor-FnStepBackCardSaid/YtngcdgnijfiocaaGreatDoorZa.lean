/- Chapter 8: sequences stepped back; plain words, and the model. Chapter 8: sequences stepped back; the model. -/
import Derived.Test.YtngcdgnijfiocaaGreatDoorSA
import Derived.Test.YtngcdgnijfiocaaGreatDoorMB
namespace Go.Proofs.YtngcdgnijfiocaaGreatDoor
open Go.ChangeShapes Go.WideShapes Go.ChangeAt Go.RowKit Go.Shelf
attribute [local go_sem] Oper.semAt_some
set_option maxRecDepth 100000

/-- From where a program fails, or goes on to a set. -/
def stepN (b : List UInt8) (m : Nat) : Nat := match readP b with
  | some nd => canN nd 1 511 ||| canN nd 0 m
  | none => 0
def okP (b : List UInt8) : Bool := (readP b).isSome
def backS : List (List UInt8) → List Nat
  | [] => []
  | b :: bs => stepN b ((backS bs).headD 0) :: backS bs
def headS (ws : List (List UInt8)) (k : Nat) : Nat := (backS (ws.drop k)).headD 0
def okS (ws : List (List UInt8)) : Bool := ws.all okP && decide (ws.length ≤ 8)
def resS (ws : List (List UInt8)) : List Int := if okS ws = true then (backS ws).map fun n : Nat => (n : Int) else []
theorem backS_len : ∀ ws : List (List UInt8), (backS ws).length = ws.length
  | [] => rfl
  | b :: bs => by rw [backS, List.length_cons, List.length_cons, backS_len bs]
theorem stepN_lt (b : List UInt8) (m : Nat) : stepN b m < 512 := by
  unfold stepN
  split
  · exact or_lt (canN_lt _ _ _) (canN_lt _ _ _)
  · decide
theorem headS_lt (ws : List (List UInt8)) (k : Nat) : headS ws k < 512 := by
  unfold headS
  cases h : ws.drop k with
  | nil => rw [backS]; decide
  | cons b bs => rw [backS]; exact stepN_lt _ _
theorem drop_step {ws : List (List UInt8)} {k : Nat} {b : List UInt8} (h : ws[k]? = some b) : backS (ws.drop k) = stepN b (headS ws (k + 1)) :: backS (ws.drop (k + 1)) := by
  obtain ⟨hk, e⟩ := List.getElem?_eq_some_iff.1 h
  rw [List.drop_eq_getElem_cons hk, backS, e]
  rfl
theorem headS_step {ws : List (List UInt8)} {k : Nat} {b : List UInt8} (h : ws[k]? = some b) : headS ws k = stepN b (headS ws (k + 1)) := by
  unfold headS
  rw [drop_step h]
  rfl
/-- What the row of answers holds once all from k on are done. -/
def partS (ws : List (List UInt8)) (k : Nat) : List Int := List.replicate k 0 ++ (backS (ws.drop k)).map fun n : Nat => (n : Int)
theorem partS_len {ws : List (List UInt8)} {k : Nat} (h : k ≤ ws.length) : (partS ws k).length = ws.length := by
  unfold partS
  rw [List.length_append, List.length_replicate, List.length_map, backS_len, List.length_drop]
  omega
theorem partS_set {ws : List (List UInt8)} {k : Nat} {b : List UInt8} (h : ws[k]? = some b) : (partS ws (k + 1)).set k ((stepN b (headS ws (k + 1)) : Nat) : Int) = partS ws k := by
  unfold partS
  rw [drop_step h, List.set_append_left _ _ (by simp), List.map_cons, List.replicate_succ', List.set_append_right _ _ (by simp), List.length_replicate, Nat.sub_self, List.set_cons_zero, List.append_assoc]
  rfl
theorem partS_zero (ws : List (List UInt8)) : partS ws 0 = (backS ws).map fun n : Nat => (n : Int) := rfl
theorem partS_full (ws : List (List UInt8)) : partS ws ws.length = List.replicate ws.length 0 := by
  unfold partS
  rw [List.drop_length, backS]
  simp
theorem headS_full (ws : List (List UInt8)) : headS ws ws.length = 0 := by unfold headS; rw [List.drop_length, backS]; rfl
theorem okS_all {ws : List (List UInt8)} (h : ∀ (j : Nat) b, ws[j]? = some b → okP b = true) (h8 : ws.length ≤ 8) : okS ws = true := by
  unfold okS
  rw [decide_eq_true h8, Bool.and_true, List.all_eq_true]
  intro b hb
  obtain ⟨j, hj, rfl⟩ := List.getElem_of_mem hb
  exact h j _ (List.getElem?_eq_getElem hj)
theorem okS_no {ws : List (List UInt8)} {j : Nat} {b : List UInt8} (h : ws[j]? = some b) (hb : okP b = false) : okS ws = false := by
  cases ho : okS ws with
  | false => rfl
  | true =>
    unfold okS at ho
    rw [Bool.and_eq_true, List.all_eq_true] at ho
    rw [ho.1 b (List.mem_of_getElem? h)] at hb
    cases hb
theorem okS_long {ws : List (List UInt8)} (h : 8 < ws.length) : okS ws = false := by
  unfold okS
  rw [decide_eq_false (by omega), Bool.and_false]
theorem resS_no {ws : List (List UInt8)} (h : okS ws = false) : resS ws = [] := by unfold resS; rw [h]; rfl
theorem resS_yes {ws : List (List UInt8)} (h : okS ws = true) : resS ws = (backS ws).map fun n : Nat => (n : Int) := by unfold resS; rw [h]; rfl

/-- What is told of one text. -/
theorem bytes_readP (b : List UInt8) : readP (⟨b.toArray⟩ : ByteArray).toList = readP b := by rw [Lib.toList_data]
theorem tell_yes {b : List UInt8} (h : okP b = true) {m : Nat} (hm : m < 512) : ∃ c d : Nat, c < 512 ∧ d < 512 ∧ stepN b m = c ||| d ∧ canZ ⟨b.toArray⟩ 511 1 = (c : Int) ∧ reachB ⟨b.toArray⟩ 511 1 = true ∧ canZ ⟨b.toArray⟩ (m : Int) 0 = (d : Int) ∧ reachB ⟨b.toArray⟩ (m : Int) 0 = true := by
  obtain ⟨nd, hP⟩ := Option.isSome_iff_exists.1 h
  have hP2 : readP (⟨b.toArray⟩ : ByteArray).toList = some nd := by rw [bytes_readP]; exact hP
  refine ⟨canN nd 1 511, canN nd 0 m, canN_lt _ _ _, canN_lt _ _ _, ?_, canZ_ok hP2 (m := 511) (by omega) (.inr rfl), (reach_ok hP2 (m := 511) (by omega) (.inr rfl)).2, canZ_ok hP2 hm (.inl rfl), (reach_ok hP2 hm (.inl rfl)).2⟩
  unfold stepN
  rw [hP]
theorem tell_no {b : List UInt8} (h : okP b = false) (m : Int) : canZ ⟨b.toArray⟩ 511 1 = 0 ∧ reachB ⟨b.toArray⟩ 511 1 = false ∧ canZ ⟨b.toArray⟩ m 0 = 0 ∧ reachB ⟨b.toArray⟩ m 0 = false := by
  have hP : readP (⟨b.toArray⟩ : ByteArray).toList = none := by
    rw [bytes_readP]
    unfold okP at h
    cases h2 : readP b with
    | none => rfl
    | some nd => rw [h2] at h; cases h
  have h1 := (reach_none hP 511 1).2
  have h2 := (reach_none hP m 0).2
  exact ⟨canZ_no h1, h1, canZ_no h2, h2⟩
end Go.Proofs.YtngcdgnijfiocaaGreatDoor

namespace Go.Proofs.YtngcdgnijfiocaaGreatDoor
open Go.ChangeShapes Go.WideShapes Go.ChangeAt Go.RowKit Go.Shelf
attribute [local go_sem] Oper.semAt_some
set_option maxRecDepth 100000

theorem infoI8 : (Tryz.prog.info? 3).map (fun i => (i.zero, i.size, i.bytes)) = some (some (.int .i64 0), 1, 8) := by kernel_rfl
set_option maxHeartbeats 4000000 in
theorem mstep8 {W : World} {v : Value} {ws : List (List UInt8)} (h : TextsAt W v ws) (hn : ws.length ≤ 1048576) (hs : ∀ b ∈ ws, b.length ≤ 1048576) :
    Calls Tryz.prog 26 #[v] W fun e W' => ∃ r0, e = .returned (.tuple #[r0, .bool (okS ws)]) ∧ IRow W' W.heap.size r0 (resS ws) ∧ Below W.heap.size W W' := by
  obtain ⟨a, cap, rfl, h1, h2, h3⟩ := h
  obtain ⟨i0, hi, hz0, hz1, hz2⟩ := info_parts infoI8
  obtain ⟨w1, hr, hown, hg1⟩ := run_make_full (P := Tryz.prog) W W.heap.size 38 3 i0 (.int .i64 0) 1 Tryz.underlying38 hi hz0 hz1 .i64 .i64 ws.length (by rw [hz2]; omega) (by unfold maxLen; omega) (Nat.le_refl _)
  have hrow : IRow w1 W.heap.size (.slice (some ⟨W.heap.size, 0, none⟩) ws.length ws.length) (partS ws ws.length) := by
    unfold IRow
    rw [partS_full, List.length_replicate, List.map_replicate, ← toList_madeCells_one]
    simpa [Value.cells] using hown
  have hnn : ¬ ((ws.length : Int) < 0) := by omega
  have hni : (ws.length : Int) ≤ 1048576 := by omega
  have hn0 : (0 : Int) ≤ (ws.length : Int) := by omega
  clear hown
  go_enter Tryz.func26, Tryz.ntmps26
  go_wp2_with fail
  clear hr
  go_loopw [5, 6] (fun y i wr => ∃ k : Nat, k ≤ ws.length ∧ i = .int .i64 ((k : Int) - 1) ∧ y = .int .i64 ((headS ws k : Nat) : Int) ∧ (k < ws.length → ws.length ≤ 8) ∧ (∀ (j : Nat) b, k ≤ j → ws[j]? = some b → okP b = true) ∧ IRow wr W.heap.size (.slice (some ⟨W.heap.size, 0, none⟩) ws.length ws.length) (partS ws k) ∧ Below W.heap.size W wr) (fun _ i _ => (intOf i + 1).toNat)
  case atStart => exact ⟨ws.length, by omega, rfl, by rw [headS_full]; rfl, by omega, fun j b hj hb => absurd (List.getElem?_eq_some_iff.1 hb).1 (by omega), hrow, (Below.refl _ W).grown hg1 (Nat.le_refl _) (fun i e => by cases e)⟩
  case round =>
    obtain ⟨k, hk, rfl, rfl, h8, hall, hR, hB⟩ := hrel
    cases k with
    | zero =>
      rw [show ((0 : Nat) : Int) - 1 = -1 from rfl]
      have hok : okS ws = true := okS_all (fun j b hb => hall j b (Nat.zero_le _) hb) (by
        cases hw : ws.length with
        | zero => omega
        | succ n => have := h8 (by omega); omega)
      rw [partS_zero, ← resS_yes hok] at hR
      go_wp2_with fail
      go_ret2
      exact ⟨_, (by rw [hok]; rfl), hR, hB⟩
    | succ k =>
      rw [show ((k + 1 : Nat) : Int) - 1 = (k : Int) by omega]
      have hlt : k < ws.length := by omega
      have hlti : (k : Int) < (ws.length : Int) := by omega
      have k0 : (0 : Int) ≤ (k : Int) := by omega
      have hz : ws[k]? = some ws[k] := List.getElem?_eq_getElem hlt
      rcases h3 with h3 | ⟨x, rfl, h3⟩
      · rw [h3] at hlt; simp at hlt
      have hc := (hB.cell (lt_cell (h3 k _ hz))).trans (h3 k _ hz)
      have hsz := hs _ (List.getElem_mem hlt)
      have hno := @okS_no ws k ws[k] hz
      have hall2 : okP ws[k] = true → ∀ (j : Nat) b, k ≤ j → ws[j]? = some b → okP b = true := fun ho j b hj hb => by
        by_cases he : j = k
        · subst he; rw [hz] at hb; cases hb; exact ho
        · exact hall j b (by omega) hb
      have hstep := headS_step hz
      have hset := partS_set hz
      have hlen := partS_len (ws := ws) (k := k + 1) (by omega)
      have hm := headS_lt ws (k + 1)
      generalize ws[k] = b at hc hsz hno hall2 hstep hset
      have hts : (⟨b.toArray⟩ : ByteArray).size ≤ 9000000 := by show b.length ≤ _; omega
      have hF := fun X => mfails ⟨b.toArray⟩ hts X
      have hG2 := fun X => mcan ⟨b.toArray⟩ hts ((headS ws (k + 1) : Nat) : Int) 0 X
      clear h3 hz hs
      cases ho : okP b with
      | false =>
        obtain ⟨t1, t2, t3, t4⟩ := tell_no ho ((headS ws (k + 1) : Nat) : Int)
        rw [t1, t2] at hF
        rw [t3, t4] at hG2
        have HOK := Lib.hid (hno ho)
        clear hall hall2 hno hset hstep t1 t2 t3 t4
        generalize headS ws (k + 1) = m at hG2 hm ⊢
        generalize (⟨b.toArray⟩ : ByteArray) = t at hc hts hF hG2
        go_wp2_with (first
          | (go_at_call 63; refine (hF _).mono ?_; rintro e W2 ⟨rfl, hb2⟩; have hc := (hb2.cell (lt_cell hc)).trans hc)
          | (go_at_call 52; refine (hG2 _).mono ?_; rintro e W3 ⟨rfl, hb3⟩))
        go_ret2
        have hBW := (hB.trans (hb2.mono hB.size)).trans (hb3.mono (Nat.le_trans hB.size hb2.size))
        exact ⟨_, (by rw [HOK.out]; rfl), by rw [resS_no HOK.out]; exact World.ownsRow_lit (base := W.heap.size) (e := 3) (size := 1) W3 #[] 0 hBW.size (by decide) rfl, hBW.alloc hBW.size _⟩
      | true =>
        obtain ⟨c, d, hc9, hd9, hst, t1, t2, t3, t4⟩ := tell_yes ho hm
        rw [t1, t2] at hF
        rw [t3, t4] at hG2
        have hor := or_nat c d (by omega) (by omega)
        rw [← hst] at hor
        have HA := Lib.hid (hall2 ho)
        clear hall hall2 hno t1 t2 t3 t4 hst
        by_cases h88 : ws.length ≤ 8
        · have h8i : (ws.length : Int) ≤ 8 := by omega
          generalize hpq : partS ws (k + 1) = pq at hR hlen hset
          generalize headS ws (k + 1) = m at hG2 hm hset hstep hor ⊢
          generalize stepN b m = sn at hset hstep hor
          generalize (⟨b.toArray⟩ : ByteArray) = t at hc hts hF hG2
          go_wp2_with (first
            | (go_at_call 63; refine (hF _).mono ?_; rintro e W2 ⟨rfl, hb2⟩; have hc := (hb2.cell (lt_cell hc)).trans hc)
            | (go_at_call 52; refine (hG2 _).mono ?_; rintro e W3 ⟨rfl, hb3⟩; have hR3 := (hR.below hb2).below hb3; have hfz := hR3.frozen hlen k; have hce := hR3.cellN hlen k hlt; have hst2 := hR3.stored hlen k (sn : Int); rw [hset] at hst2))
          go_roundw
          case rel => exact ⟨k, by omega, by first | rfl | go_num, by rw [hstep], fun _ => h88, HA.out, hst2.1, ((hB.trans (hb2.mono hB.size)).trans (hb3.mono (Nat.le_trans hB.size hb2.size))).grown hst2.2 (Nat.le_trans hB.size (Nat.le_trans hb2.size hb3.size)) (fun i e => by cases e; exact Nat.le_refl _)⟩
          case measure => (simp [intOf] <;> omega)
        · have h8i : (8 : Int) < (ws.length : Int) := by omega
          have HOK := Lib.hid (okS_long (ws := ws) (by omega))
          generalize headS ws (k + 1) = m at hG2 hm hset hstep hor ⊢
          generalize stepN b m = sn at hset hstep hor
          generalize (⟨b.toArray⟩ : ByteArray) = t at hc hts hF hG2
          go_wp2_with (first
            | (go_at_call 63; refine (hF _).mono ?_; rintro e W2 ⟨rfl, hb2⟩; have hc := (hb2.cell (lt_cell hc)).trans hc)
            | (go_at_call 52; refine (hG2 _).mono ?_; rintro e W3 ⟨rfl, hb3⟩))
          go_ret2
          have hBW := (hB.trans (hb2.mono hB.size)).trans (hb3.mono (Nat.le_trans hB.size hb2.size))
          exact ⟨_, (by rw [HOK.out]; rfl), by rw [resS_no HOK.out]; exact World.ownsRow_lit (base := W.heap.size) (e := 3) (size := 1) W3 #[] 0 hBW.size (by decide) rfl, hBW.alloc hBW.size _⟩
end Go.Proofs.YtngcdgnijfiocaaGreatDoor
