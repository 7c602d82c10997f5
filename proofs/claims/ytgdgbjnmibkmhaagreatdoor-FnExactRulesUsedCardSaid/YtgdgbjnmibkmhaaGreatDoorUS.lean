/- Chapter 6: how often each rule is used, the program's and the model's. -/
import Derived.Test.YtgdgbjnmibkmhaaGreatDoorRU
import Derived.Test.YtgdgbjnmibkmhaaGreatDoorHC
namespace Go.Proofs.YtgdgbjnmibkmhaaGreatDoor
open Go.ChangeShapes Go.WideShapes Go.ChangeAt Go.RowKit Go.Shelf
attribute [local go_sem] Oper.semAt_some
set_option maxRecDepth 100000

/-! ### Plain -/
def bump (c : List Int) (i : Nat) : List Int := c.set i (c[i]?.getD 0 + 1)
def usedFrom : List Int → List LineD → Option (List Int)
  | c, [] => some c
  | c, l :: r => match ixR l.rule.toList with
    | none => none
    | some i => usedFrom (bump c i) r
def zeros11 : List Int := List.replicate 11 0
def usedO (ls : List LineD) : Option (List Int) := usedFrom zeros11 ls
theorem used_none {c : List Int} {ls : List LineD} {k : Nat} {l : LineD} (h : ls[k]? = some l) (hx : ixR l.rule.toList = none) : usedFrom c (ls.drop k) = none := by
  have hk := (List.getElem?_eq_some_iff.1 h).1
  rw [List.drop_eq_getElem_cons hk]
  have : ls[k] = l := (List.getElem?_eq_some_iff.1 h).2
  rw [this, usedFrom, hx]
theorem used_some {c : List Int} {ls : List LineD} {k i : Nat} {l : LineD} (h : ls[k]? = some l) (hx : ixR l.rule.toList = some i) : usedFrom c (ls.drop k) = usedFrom (bump c i) (ls.drop (k + 1)) := by
  have hk := (List.getElem?_eq_some_iff.1 h).1
  rw [List.drop_eq_getElem_cons hk]
  have : ls[k] = l := (List.getElem?_eq_some_iff.1 h).2
  rw [this, usedFrom, hx]
theorem used_len : ∀ (ls : List LineD) (c : List Int), c.length = 11 → ∀ r, usedFrom c ls = some r → r.length = 11
  | [], c, hc, r, h => by cases h; exact hc
  | l :: ls, c, hc, r, h => by
    unfold usedFrom at h
    cases hx : ixR l.rule.toList with
    | none => rw [hx] at h; cases h
    | some i => rw [hx] at h; exact used_len ls _ (by unfold bump; simpa using hc) r h
theorem bump_bound {c : List Int} {i k : Nat} (hc : ∀ z ∈ c, 0 ≤ z ∧ z ≤ (k : Int)) : ∀ z ∈ bump c i, 0 ≤ z ∧ z ≤ ((k + 1 : Nat) : Int) := by
  intro z hz
  unfold bump at hz
  rcases List.mem_or_eq_of_mem_set hz with h | h
  · have := hc z h; omega
  · subst h
    cases hi : c[i]? with
    | none => simp; omega
    | some y =>
      have := hc y (List.mem_of_getElem? hi)
      simp
      omega
/-- What is answered: the counts, and whether there are any. -/
def UsedR (W : World) (ls : List LineD) (e : Ending) (W' : World) : Prop := ∃ r, e = .returned (.tuple #[r, .bool (usedO ls).isSome]) ∧ IRow W' W.heap.size r ((usedO ls).getD []) ∧ Below W.heap.size W W'
theorem irow_zero (W : World) (B : Nat) (hB : B ≤ W.heap.size) : IRow (W.alloc (.cells #[] 3)) B (.slice (some ⟨W.heap.size, 0, none⟩) 0 0) [] :=
  World.ownsRow_made W #[] 0 hB (Nat.zero_le _) rfl
theorem irow_blockU {W : World} {B h n : Nat} {zs : List Int} (hr : IRow W B (.slice (some ⟨h, 0, none⟩) n n) zs) : ∃ cur, W.heap[h]? = some (.cells cur 3 (0, 0)) ∧ cur.size = n := by
  rcases hr.2 with ⟨e, _⟩ | ⟨g, cap, cur, e, _, c, d⟩
  · cases e
  · simp only [Value.slice.injEq, Option.some.injEq, Addr.mk.injEq] at e
    obtain ⟨⟨rfl, _⟩, _, rfl⟩ := e
    exact ⟨cur, c, by have := d.2.2.1; omega⟩
theorem infoIntU : (Tryz.prog.info? 3).map (fun i => (i.zero, i.size, i.bytes)) = some (some (.int .i64 0), 1, 8) := by kernel_rfl
theorem made11 (W : World) : ∃ w1, (Instr.makeSlice 24 (.int .i64 11) (.int .i64 11)).run Tryz.prog W = .ok (.slice (some ⟨W.heap.size, 0, none⟩) 11 11) w1 ∧ IRow w1 W.heap.size (.slice (some ⟨W.heap.size, 0, none⟩) 11 11) zeros11 ∧ Below W.heap.size W w1 ∧ W.heap.size < w1.heap.size := by
  obtain ⟨i0, hi, hz0, hz1, hz2⟩ := info_parts infoIntU
  obtain ⟨w1, hr, hown, hg1⟩ := run_make_full (P := Tryz.prog) W W.heap.size 24 3 i0 (.int .i64 0) 1 Tryz.underlying24 hi hz0 hz1 .i64 .i64 11 (by rw [hz2]; omega) (by unfold maxLen; omega) (Nat.le_refl _)
  have hrow : IRow w1 W.heap.size (.slice (some ⟨W.heap.size, 0, none⟩) 11 11) zeros11 := by
    unfold IRow zeros11
    rw [List.length_replicate, List.map_replicate, ← toList_madeCells_one]
    simpa [Value.cells] using hown
  refine ⟨w1, hr, hrow, (Below.refl _ W).grown hg1 (Nat.le_refl _) (fun i e => by cases e), ?_⟩
  obtain ⟨cur, h, _⟩ := irow_blockU hrow
  exact (Array.getElem?_eq_some_iff.1 h).1
set_option maxHeartbeats 4000000 in
theorem pused27 {W : World} {v : Value} {ls : List LineD} (h : LinesAt W v ls) (hn : ls.length ≤ 1048576) :
    Calls Tryz.prog 27 #[v] W (UsedR W ls) := by
  obtain ⟨a, cap, rfl, q1, q2, q3⟩ := h
  have hni : (ls.length : Int) ≤ 1048576 := by omega
  go_enter Tryz.func27, Tryz.ntmps27
  go_wp2_with fail
  go_at_call 53
  refine (prules31 _).mono ?_
  rintro e W1 ⟨vw, rfl, hw, b1⟩
  obtain ⟨w1, hmk, hrow, b2, hlt1⟩ := made11 W1
  obtain ⟨gw, capw, hvw⟩ := ownsRow_succ hw
  subst hvw
  generalize hB1 : W1.heap.size = B1 at hmk hrow b2 hlt1
  have hle1 : W.heap.size ≤ B1 := by rw [← hB1]; exact b1.size
  go_wp2_with fail
  clear hmk
  go_loopw [15] (fun i wr => ∃ (k : Nat) (c : List Int), k ≤ ls.length ∧ i = .int .i64 (k : Int) ∧ usedO ls = usedFrom c (ls.drop k) ∧ c.length = 11 ∧ (∀ z ∈ c, 0 ≤ z ∧ z ≤ (k : Int)) ∧ IRow wr B1 (.slice (some ⟨B1, 0, none⟩) 11 11) c ∧ Below B1 W1 wr) (fun i _ => ls.length - (intOf i).toNat)
  case atStart => exact ⟨0, zeros11, by omega, rfl, by rw [List.drop_zero]; rfl, by decide, by simp [zeros11], hrow, b2⟩
  case round =>
    obtain ⟨k, c, hk, rfl, hu, hcl, hcb, hR, hB⟩ := hrel
    have hBW : Below W.heap.size W wr := b1.trans (hB.mono hle1)
    by_cases hlt : k < ls.length
    · have hlt2 : (k : Int) < (ls.length : Int) := by omega
      have hl : ls[k]? = some ls[k] := List.getElem?_eq_getElem hlt
      rcases q3 with q3 | ⟨b, off, rfl, q3⟩
      · rw [q3] at hlt; simp at hlt
      have hc := (q3 k _ hl).below hBW
      generalize ls[k] = l at hl hc
      obtain ⟨vr, hI, c0, c1, c2, c3, c4, c5⟩ := line_cells hc
      obtain ⟨ra, rcap, rfl, _⟩ := hI
      have hA : Below wr.heap.size wr (wr.alloc (.cells #[.int .i64 l.t.b, .string l.t.p, .int .i64 l.t.x, .int .i64 l.t.r, .string l.rule, .slice ra l.refs.length rcap] 33)) := (Below.refl _ wr).alloc (Nat.le_refl _) _
      have hww := TRow.below (TRow.below (show TRow W1 W.heap.size (.slice (some ⟨gw, 0, none⟩) 11 capw) rulesL from hw) (show Below W1.heap.size W1 wr by rw [hB1]; exact hB)) hA
      have hX := pix88 l.rule _ _ _ hww
      have hRA := hR.below hA
      have hBA := hB.trans (hA.mono (by have := hB.size; omega))
      have hu1 := fun (h : ixR l.rule.toList = none) => hu.trans (used_none hl h)
      have hu2 := fun (i : Nat) (h : ixR l.rule.toList = some i) => hu.trans (used_some (c := c) hl h)
      cases hx : ixR l.rule.toList with
      | none =>
        have hv : ixV l.rule.toList = -1 := by unfold ixV; rw [hx]
        rw [hv] at hX
        have HN := Lib.hid (hu1 hx)
        clear hu1 hu2 hx hv hu
        go_wp2_with fail
        go_at_call 54
        refine hX.mono ?_
        rintro e W2 ⟨rfl, rfl⟩
        go_wp2_with fail
        go_ret2
        exact ⟨_, by rw [HN.out]; rfl, by rw [HN.out]; exact World.ownsRow_nil _ _ _ _, hBW.trans (hA.mono hBW.size)⟩
      | some i =>
        have hv : ixV l.rule.toList = (i : Int) := by unfold ixV; rw [hx]
        rw [hv] at hX
        have hi11 := (ix_lt hx).1
        have hi1 : (i : Int) < 11 := by omega
        have HN := Lib.hid (hu2 i hx)
        clear hu1 hu2 hx hv hu
        have hci : c[i]? = some c[i] := List.getElem?_eq_getElem (by omega)
        have hcc := hRA.cellN hcl i hi11
        have hfz := hRA.frozen hcl i
        have hst := hRA.stored hcl i (c[i]?.getD 0 + 1)
        have hbd := hcb c[i] (List.getElem_mem _)
        have hbump : c.set i (c[i]?.getD 0 + 1) = bump c i := rfl
        rw [hbump] at hst
        have hb0 : (0 : Int) ≤ c[i]?.getD 0 := by rw [hci]; exact hbd.1
        have hb1 : c[i]?.getD 0 ≤ 1048576 := by rw [hci]; have := hbd.2; simp; omega
        have HB := Lib.hid (bump_bound (i := i) hcb)
        have hbl : (bump c i).length = 11 := by unfold bump; simpa using hcl
        generalize c[i]?.getD 0 = z at hcc hst hb0 hb1
        clear hcb hbd hci hbump hR
        go_wp2_with fail
        go_at_call 54
        refine hX.mono ?_
        rintro e W2 ⟨rfl, rfl⟩
        go_wp2_with fail
        go_roundw
        case rel => exact ⟨k + 1, bump c i, by omega, by go_num, HN.out, hbl, HB.out, hst.1, hBA.grown hst.2 (by have := hBA.size; omega) (fun q e => by cases e; exact Nat.le_refl _)⟩
        case measure => simp [intOf]; omega
    · have hkn : k = ls.length := by omega
      have hge : ¬ ((k : Int) < (ls.length : Int)) := by omega
      have hfin : usedO ls = some c := by rw [hu, hkn, List.drop_length]; rfl
      have HF := Lib.hid hfin
      clear hu hfin
      go_wp2_with fail
      go_ret2
      exact ⟨_, by rw [HF.out]; rfl, by rw [HF.out]; exact hR.mono hle1, hBW⟩
set_option maxHeartbeats 4000000 in
theorem mused28 {W : World} {v : Value} {ls : List LineD} (h : LinesAt W v ls) (hn : ls.length ≤ 1048576) :
    Calls Tryz.prog 26 #[v] W (UsedR W ls) := by
  obtain ⟨a, cap, rfl, q1, q2, q3⟩ := h
  have hni : (ls.length : Int) ≤ 1048576 := by omega
  go_enter Tryz.func26, Tryz.ntmps26
  go_wp2_with fail
  go_at_call 52
  refine (mrules32 _).mono ?_
  rintro e W1 ⟨vw, rfl, hw, b1⟩
  obtain ⟨w1, hmk, hrow, b2, hlt1⟩ := made11 W1
  obtain ⟨gw, capw, hvw⟩ := ownsRow_succ hw
  subst hvw
  generalize hB1 : W1.heap.size = B1 at hmk hrow b2 hlt1
  have hle1 : W.heap.size ≤ B1 := by rw [← hB1]; exact b1.size
  go_wp2_with fail
  clear hmk
  go_loopw [13] (fun i wr => ∃ (k : Nat) (c : List Int), k ≤ ls.length ∧ i = .int .i64 (k : Int) ∧ usedO ls = usedFrom c (ls.drop k) ∧ c.length = 11 ∧ (∀ z ∈ c, 0 ≤ z ∧ z ≤ (k : Int)) ∧ IRow wr B1 (.slice (some ⟨B1, 0, none⟩) 11 11) c ∧ Below B1 W1 wr) (fun i _ => ls.length - (intOf i).toNat)
  case atStart => exact ⟨0, zeros11, by omega, rfl, by rw [List.drop_zero]; rfl, by decide, by simp [zeros11], hrow, b2⟩
  case round =>
    obtain ⟨k, c, hk, rfl, hu, hcl, hcb, hR, hB⟩ := hrel
    have hBW : Below W.heap.size W wr := b1.trans (hB.mono hle1)
    by_cases hlt : k < ls.length
    · have hlt2 : (k : Int) < (ls.length : Int) := by omega
      have hl : ls[k]? = some ls[k] := List.getElem?_eq_getElem hlt
      rcases q3 with q3 | ⟨b, off, rfl, q3⟩
      · rw [q3] at hlt; simp at hlt
      have hc := (q3 k _ hl).below hBW
      generalize ls[k] = l at hl hc
      obtain ⟨vr, hI, c0, c1, c2, c3, c4, c5⟩ := line_cells hc
      obtain ⟨ra, rcap, rfl, _⟩ := hI
      have hA : Below wr.heap.size wr (wr.alloc (.cells #[.int .i64 l.t.b, .string l.t.p, .int .i64 l.t.x, .int .i64 l.t.r, .string l.rule, .slice ra l.refs.length rcap] 33)) := (Below.refl _ wr).alloc (Nat.le_refl _) _
      have hX := fun (X : World) => mix89 l.rule X
      have hRA := hR.below hA
      have hBA := hB.trans (hA.mono (by have := hB.size; omega))
      have hu1 := fun (h : ixR l.rule.toList = none) => hu.trans (used_none hl h)
      have hu2 := fun (i : Nat) (h : ixR l.rule.toList = some i) => hu.trans (used_some (c := c) hl h)
      cases hx : ixR l.rule.toList with
      | none =>
        have hv : ixV l.rule.toList = -1 := by unfold ixV; rw [hx]
        rw [hv] at hX
        have HN := Lib.hid (hu1 hx)
        clear hu1 hu2 hx hv hu
        go_wp2_with fail
        go_at_call 38
        refine (hX _).mono ?_
        rintro e W2 ⟨rfl, b3⟩
        have hB3 := (hBW.trans (hA.mono hBW.size)).trans (b3.mono (Nat.le_trans hBW.size hA.size))
        have hz := irow_zero W2 W.heap.size hB3.size
        have hB4 := hB3.alloc hB3.size (.cells #[] 3)
        go_wp2_with fail
        go_ret2
        exact ⟨_, by rw [HN.out]; rfl, by rw [HN.out]; exact hz, hB4⟩
      | some i =>
        have hv : ixV l.rule.toList = (i : Int) := by unfold ixV; rw [hx]
        rw [hv] at hX
        have hi11 := (ix_lt hx).1
        have hi1 : (i : Int) < 11 := by omega
        have HN := Lib.hid (hu2 i hx)
        clear hu1 hu2 hx hv hu
        have hci : c[i]? = some c[i] := List.getElem?_eq_getElem (by omega)
        have hbd := hcb c[i] (List.getElem_mem _)
        have hbump : c.set i (c[i]?.getD 0 + 1) = bump c i := rfl
        have hb0 : (0 : Int) ≤ c[i]?.getD 0 := by rw [hci]; exact hbd.1
        have hb1 : c[i]?.getD 0 ≤ 1048576 := by rw [hci]; have := hbd.2; simp; omega
        have HB := Lib.hid (bump_bound (i := i) hcb)
        have hbl : (bump c i).length = 11 := by unfold bump; simpa using hcl
        clear hcb hbd hci hR
        go_wp2_with fail
        go_at_call 38
        refine (hX _).mono ?_
        rintro e W2 ⟨rfl, b3⟩
        have hR3 := hRA.below b3
        have hB3 := hBA.trans (b3.mono (by have := hBA.size; omega))
        have hcc := hR3.cellN hcl i hi11
        have hfz := hR3.frozen hcl i
        have hst := hR3.stored hcl i (c[i]?.getD 0 + 1)
        rw [hbump] at hst
        generalize c[i]?.getD 0 = z at hcc hst hb0 hb1
        clear hbump
        go_wp2_with fail
        go_roundw
        case rel => exact ⟨k + 1, bump c i, by omega, by go_num, HN.out, hbl, HB.out, hst.1, hB3.grown hst.2 (by have := hB3.size; omega) (fun q e => by cases e; exact Nat.le_refl _)⟩
        case measure => simp [intOf]; omega
    · have hkn : k = ls.length := by omega
      have hge : ¬ ((k : Int) < (ls.length : Int)) := by omega
      have hfin : usedO ls = some c := by rw [hu, hkn, List.drop_length]; rfl
      have HF := Lib.hid hfin
      clear hu hfin
      go_wp2_with fail
      go_ret2
      exact ⟨_, by rw [HF.out]; rfl, by rw [HF.out]; exact hR.mono hle1, hBW⟩
end Go.Proofs.YtgdgbjnmibkmhaaGreatDoor

