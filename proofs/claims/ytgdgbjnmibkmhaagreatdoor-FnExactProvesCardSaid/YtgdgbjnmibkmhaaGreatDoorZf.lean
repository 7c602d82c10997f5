/- Chapter 6: references to lines before, the triples that they name; the program's. Chapter 6, the model: the triples that a line names, CheckProof. Chapter 6, the program: the iterator that yields the first fault. Chapter 6, the program: CheckProof. Chapter 6: the walk of the exact law on the first line that does not follow. -/
import Derived.Test.YtgdgbjnmibkmhaaGreatDoorZe
import Derived.Test.YtgdgbjnmibkmhaaGreatDoorZd
import Derived.Test.YtgdgbjnmibkmhaaGreatDoorZb
namespace Go.Proofs.YtgdgbjnmibkmhaaGreatDoor
open Go.ChangeShapes Go.WideShapes Go.ChangeAt Go.RowKit Go.Shelf
attribute [local go_sem] Oper.semAt_some
set_option maxRecDepth 100000

/-- A reference to a line before. -/
def inR (k i : Int) : Bool := decide (0 ≤ k) && decide (k < i)
theorem before117 (k i : Int) (W : World) :
    Calls Tryz.prog 117 #[.int .i64 k, .int .i64 i] W fun e W' => e = .returned (.bool (inR k i)) ∧ W = W' := by
  by_cases h1 : (0 : Int) ≤ k
  · by_cases h2 : k < i
    · have h : inR k i = true := by simp [inR, h1, h2]
      rw [h]
      go_enter Tryz.func117, Tryz.ntmps117
      go_wp2_with fail
      go_ret
      exact ⟨rfl, rfl⟩
    · have h : inR k i = false := by simp [inR, h2]
      rw [h]
      go_enter Tryz.func117, Tryz.ntmps117
      go_wp2_with fail
      go_ret
      exact ⟨rfl, rfl⟩
  · have h : inR k i = false := by simp [inR, h1]
    rw [h]
    go_enter Tryz.func117, Tryz.ntmps117
    go_wp2_with fail
    go_ret
    exact ⟨rfl, rfl⟩
theorem clos116 (k i : Int) (B : Nat) (W : World) (hc : W.cell? ⟨B, 0, none⟩ = some (.int .i64 i)) :
    Calls Tryz.prog 116 #[.int .i64 k, .pointer (some ⟨B, 0, none⟩)] W fun e W' => e = .returned (.bool (!inR k i)) ∧ W = W' := by
  have hb := fun X => before117 k i X
  go_enter Tryz.func116, Tryz.ntmps116
  go_wp2_with fail
  go_at_call 117
  refine (hb _).mono ?_
  rintro e W1 ⟨rfl, rfl⟩
  go_wp2_with fail
  go_ret
  exact ⟨rfl, rfl⟩
/-- Whether all references are to lines before. -/
def refsOk (zs : List Int) (i : Int) : Bool := zs.all fun k => inR k i
theorem refs_hole {zs : List Int} {i : Int} {k : Nat} {z : Int} (h : zs[k]? = some z) (hz : inR z i = false) : refsOk zs i = false := by
  rw [Bool.eq_false_iff]
  intro ha
  have := List.all_eq_true.1 ha z (List.mem_of_getElem? h)
  rw [hz] at this
  cases this
theorem refs_all {zs : List Int} {i : Int} (h : ∀ (j : Nat) z, zs[j]? = some z → inR z i = true) : refsOk zs i = true := by
  unfold refsOk
  rw [List.all_eq_true]
  intro z hz
  obtain ⟨k, hk, rfl⟩ := List.getElem_of_mem hz
  exact h k _ (List.getElem?_eq_getElem hk)
set_option maxHeartbeats 2000000 in
theorem index137 {W : World} {v : Value} {zs : List Int} (h : IntsAt W v zs) (i : Int) (B : Nat) (hc : W.cell? ⟨B, 0, none⟩ = some (.int .i64 i)) :
    Calls Tryz.prog 137 #[v, .func (.func 116) #[] #[.pointer (some ⟨B, 0, none⟩)]] W fun e W' => (∃ z : Int, e = .returned (.int .i64 z) ∧ decide (0 ≤ z) = !refsOk zs i) ∧ W' = W := by
  obtain ⟨a, c, rfl, q1, q2, q3⟩ := h
  unfold maxLen at q2
  have hni : (zs.length : Int) ≤ 9223372036854775807 := by omega
  have HA := Lib.hid (fun h => refs_all (zs := zs) (i := i) h)
  have HF := Lib.hid (fun k z h h' => refs_hole (zs := zs) (i := i) (k := k) (z := z) h h')
  generalize refsOk zs i = res at HA HF ⊢
  obtain ⟨W0, hW0⟩ : ∃ W0, W0 = W := ⟨_, rfl⟩
  go_enter Tryz.func137, Tryz.ntmps137
  have hcl := fun k => clos116 k i B W hc
  go_wp2_with fail
  go_loopw [8] (fun j wr => ∃ k : Nat, k ≤ zs.length ∧ j = .int .i64 (k : Int) ∧ (∀ (j : Nat) z, j < k → zs[j]? = some z → inR z i = true) ∧ wr = W0) (fun j _ => zs.length - (intOf j).toNat)
  case atStart => exact ⟨0, by omega, rfl, fun j z hj => by omega, hW0.symm⟩
  case round =>
    obtain ⟨k, hk, rfl, hok, hwr⟩ := hrel
    subst hwr
    subst hW0
    by_cases hlt : k < zs.length
    · have hlt2 : (k : Int) < (zs.length : Int) := by omega
      have hl : zs[k]? = some zs[k] := List.getElem?_eq_getElem hlt
      rcases q3 with q3 | ⟨g, off, rfl, q3⟩
      · rw [q3] at hlt; simp at hlt
      have hcell := q3 k _ hl
      clear q3
      generalize zs[k] = z at hl hcell
      have hcz := hcl z
      cases hz : inR z i with
      | true =>
        rw [hz] at hcz
        go_wp2_with fail
        go_at_call 116
        refine hcz.mono ?_
        rintro e W1 ⟨rfl, hW1⟩
        subst hW1
        go_wp2_with fail
        go_roundw
        case rel => exact ⟨k + 1, by omega, by go_num, fun j z' hj hl' => by
          by_cases he : j = k
          · subst he; rw [hl] at hl'; cases hl'; exact hz
          · exact hok j z' (by omega) hl', trivial⟩
        case measure => simp [intOf]; omega
      | false =>
        rw [hz] at hcz
        have hr := HF.out k z hl hz
        go_wp2_with fail
        go_at_call 116
        refine hcz.mono ?_
        rintro e W1 ⟨rfl, hW1⟩
        subst hW1
        go_wp2_with fail
        go_ret
        exact ⟨⟨_, rfl, by rw [hr]; simp⟩, rfl⟩
    · have hkn : k = zs.length := by omega
      have hr := HA.out (fun j z hl => hok j z (by have := (List.getElem?_eq_some_iff.1 hl).1; omega) hl)
      have hge : ¬ ((k : Int) < (zs.length : Int)) := by omega
      go_wp2_with fail
      go_ret
      exact ⟨⟨-1, rfl, by first | (rw [hr]; rfl) | simp⟩, rfl⟩
theorem contains115 {W : World} {v : Value} {zs : List Int} (h : IntsAt W v zs) (i : Int) (B : Nat) (hc : W.cell? ⟨B, 0, none⟩ = some (.int .i64 i)) :
    Calls Tryz.prog 115 #[v, .func (.func 116) #[] #[.pointer (some ⟨B, 0, none⟩)]] W fun e W' => e = .returned (.bool (!refsOk zs i)) ∧ W' = W := by
  have hI := index137 h i B hc
  obtain ⟨a, c, rfl, _, _, _⟩ := h
  generalize refsOk zs i = res at hI ⊢
  go_enter Tryz.func115, Tryz.ntmps115
  go_wp2_with fail
  go_at_call 137
  refine hI.mono ?_
  rintro e W1 ⟨⟨z, rfl, hz⟩, hW1⟩
  subst hW1
  go_wp2_with fail
  go_ret
  exact ⟨by first | (rw [← hz]; rfl) | (simp [← hz]), rfl⟩
theorem back83 (T : Trip) (u : ByteArray) (ra : Option Addr) (rn rc : Nat) (zs : List Int) (i : Int) {W : World} (h : IntsAt W (.slice ra rn rc) zs) :
    Calls Tryz.prog 83 #[.agg #[.int .i64 T.b, .string T.p, .int .i64 T.x, .int .i64 T.r, .string u, .slice ra rn rc], .int .i64 i] W fun e W' => e = .returned (.bool (refsOk zs i)) ∧ Below W.heap.size W W' := by
  have hS := Six.new W 33 (.int .i64 T.b) (.string T.p) (.int .i64 T.x) (.int .i64 T.r) (.string u) (.slice ra rn rc)
  have hA : Below W.heap.size W ((W.alloc (.cells #[.int .i64 T.b, .string T.p, .int .i64 T.x, .int .i64 T.r, .string u, .slice ra rn rc] 33)).alloc (.cells #[.int .i64 i] 3)) := ((Below.refl _ W).alloc (Nat.le_refl _) _).alloc (by simp) _
  obtain ⟨c0, c1, c2, c3, c4, c5⟩ := (hS.alloc (.cells #[.int .i64 i] 3)).cells
  have hi := (cellNew (W.alloc (.cells #[.int .i64 T.b, .string T.p, .int .i64 T.x, .int .i64 T.r, .string u, .slice ra rn rc] 33)) (.int .i64 i) 3).1
  rw [World.size_alloc] at hi
  have hC := contains115 (h.below hA) i (W.heap.size + 1) hi
  generalize refsOk zs i = res at hC ⊢
  go_enter Tryz.func83, Tryz.ntmps83
  go_wp2_with fail
  go_at_call 115
  refine hC.mono ?_
  rintro e W1 ⟨rfl, hW1⟩
  subst hW1
  go_wp2_with fail
  go_ret
  exact ⟨by first | rfl | simp, hA⟩
/-! ### Rows of triples -/
def fourL (T : Trip) : List Value := [.int .i64 T.b, .string T.p, .int .i64 T.x, .int .i64 T.r]
def trows (ts : List Trip) : List Value := ts.flatMap fourL
theorem trows_len : ∀ ts : List Trip, (trows ts).length = ts.length * 4
  | [] => rfl
  | T :: ts => by
    have ih := trows_len ts
    unfold trows at *
    rw [List.flatMap_cons, List.length_append, ih, List.length_cons]
    show 4 + _ = _
    omega
theorem trows_snoc (ts : List Trip) (T : Trip) : trows (ts ++ [T]) = trows ts ++ fourL T := by
  unfold trows
  rw [List.flatMap_append]
  simp
theorem trows_at : ∀ (ts : List Trip) (j : Nat) (T : Trip), ts[j]? = some T → ∀ c, c < 4 → (trows ts)[j * 4 + c]? = (fourL T)[c]?
  | [], j, T, h, _, _ => by simp at h
  | A :: ts, 0, T, h, c, hc => by
    cases h
    unfold trows
    rw [List.flatMap_cons, Nat.zero_mul, Nat.zero_add, List.getElem?_append_left (show c < (fourL A).length from hc)]
  | A :: ts, j + 1, T, h, c, hc => by
    have ih := trows_at ts j T (by simpa using h) c hc
    unfold trows at *
    rw [List.flatMap_cons, List.getElem?_append_right (show (fourL A).length ≤ (j + 1) * 4 + c by show 4 ≤ _; omega)]
    rw [show (j + 1) * 4 + c - (fourL A).length = j * 4 + c by show (j + 1) * 4 + c - 4 = _; omega]
    exact ih
def TrRow (W : World) (B : Nat) (v : Value) (ts : List Trip) : Prop := W.ownsRow B 31 4 v ts.length (trows ts)
theorem TrRow.trips {W : World} {B : Nat} {v : Value} {ts : List Trip} (h : TrRow W B v ts) : TripsAt W v ts := by
  obtain ⟨h1, h2⟩ := h
  rcases h2 with ⟨rfl, hn⟩ | ⟨g, cap, cur, rfl, hb, hg, hnc, hcm, hcs, ht⟩
  · exact ⟨none, 0, by rw [hn], by omega, Nat.zero_le _, .inl (List.length_eq_zero_iff.1 hn)⟩
  · refine ⟨_, cap, rfl, hnc, hcm, .inr ⟨g, 0, rfl, fun j T hT => ?_⟩⟩
    have hj := (List.getElem?_eq_some_iff.1 hT).1
    have hc : ∀ c, c < 4 → W.cell? ⟨g, 0 + j * 4 + c, none⟩ = (fourL T)[c]? := fun c hc => by
      rw [cell_of_row _ g _ _ _ (0, 0) hg, Nat.zero_add, ← trows_at ts j T hT c hc, ← ht, List.getElem?_take, if_pos (by omega), Array.getElem?_toList]
    exact ⟨hc 0 (by omega), hc 1 (by omega), hc 2 (by omega), hc 3 (by omega)⟩
theorem infoTr : (Tryz.prog.info? 31).map (fun i => (i.zero, i.size, i.bytes)) = some (some (.agg #[.int .i64 0, .string ⟨#[]⟩, .int .i64 0, .int .i64 0]), 4, 40) := by kernel_rfl
def dfltL : LineD := ⟨zeroT, ⟨#[]⟩, []⟩
/-- The triples that references name. -/
def fromL (ls : List LineD) (zs : List Int) : List Trip := zs.map fun z => (ls[z.toNat]?.getD dfltL).t
theorem from_succ {ls : List LineD} {zs : List Int} {k : Nat} {n : Nat} {l : LineD} (h : zs[k]? = some (n : Int)) (hl : ls[n]? = some l) : fromL ls (zs.take (k + 1)) = fromL ls (zs.take k) ++ [l.t] := by
  unfold fromL
  rw [List.take_add_one, h, Option.toList_some, List.map_append, List.map_cons, List.map_nil, Int.toNat_natCast, hl]
  rfl
theorem from_len (ls : List LineD) (zs : List Int) : (fromL ls zs).length = zs.length := by unfold fromL; rw [List.length_map]
theorem refs_at_all {zs : List Int} {i : Int} (h : refsOk zs i = true) {k : Nat} {z : Int} (hz : zs[k]? = some z) : ∃ n : Nat, z = (n : Int) ∧ (n : Int) < i := by
  have := List.all_eq_true.1 h z (List.mem_of_getElem? hz)
  unfold inR at this
  rw [Bool.and_eq_true] at this
  have h1 := of_decide_eq_true this.1
  have h2 := of_decide_eq_true this.2
  exact ⟨z.toNat, by omega, by omega⟩
/-- Whether a line follows from those that it names. -/
def derivL (ls : List LineD) (i : Nat) (l : LineD) : Bool := refsOk l.refs (i : Int) && lineH l.rule l.t (fromL ls l.refs)
attribute [local go_sem ↓ 10000] builtin_held in
set_option maxHeartbeats 4000000 in
theorem derived79 {W : World} {v : Value} {ls : List LineD} (h : LinesAt W v ls) (i : Nat) (l : LineD) (hl : ls[i]? = some l) (hrl : l.refs.length ≤ 1048576) {N : Nat} (hL : Laid3 N W) (hE : NoTrip N W) (hN : NoRule N W) :
    Calls Tryz.prog 79 #[v, .int .i64 (i : Int)] W fun e W' => e = .returned (.bool (derivL ls i l)) ∧ Below W.heap.size W W' := by
  obtain ⟨a, c, rfl, q1, q2, q3⟩ := h
  obtain ⟨i0, hi, hz0, hz1, hz2⟩ := info_parts infoTr
  have hlt : i < ls.length := (List.getElem?_eq_some_iff.1 hl).1
  have hlt2 : (i : Int) < (ls.length : Int) := by omega
  rcases q3 with q3 | ⟨g, off, rfl, q3⟩
  · rw [q3] at hlt; simp at hlt
  obtain ⟨rv, hI, c0, c1, c2, c3, c4, c5⟩ := line_cells (q3 i l hl)
  obtain ⟨ra, rc, rfl, r1, r2, r3⟩ := hI
  have hA : Below W.heap.size W (W.alloc (.cells #[.int .i64 l.t.b, .string l.t.p, .int .i64 l.t.x, .int .i64 l.t.r, .string l.rule, .slice ra l.refs.length rc] 33)) := (Below.refl _ W).alloc (Nat.le_refl _) _
  have hI2 : IntsAt (W.alloc (.cells #[.int .i64 l.t.b, .string l.t.p, .int .i64 l.t.x, .int .i64 l.t.r, .string l.rule, .slice ra l.refs.length rc] 33)) (.slice ra l.refs.length rc) l.refs := IntsAt.below ⟨ra, rc, rfl, r1, r2, r3⟩ hA
  have hS := Six.new W 33 (.int .i64 l.t.b) (.string l.t.p) (.int .i64 l.t.x) (.int .i64 l.t.r) (.string l.rule) (.slice ra l.refs.length rc)
  have hBk := back83 l.t l.rule ra l.refs.length rc l.refs (i : Int) hI2
  cases hr : refsOk l.refs (i : Int) with
  | false =>
    have hd : derivL ls i l = false := by unfold derivL; rw [hr]; rfl
    rw [hr] at hBk
    clear q3 r3 hI2
    go_enter Tryz.func79, Tryz.ntmps79
    go_wp2_with fail
    go_at_call 83
    refine hBk.mono ?_
    rintro e W1 ⟨rfl, b1⟩
    go_wp2_with fail
    go_ret
    exact ⟨by rw [hd]; rfl, hA.trans (b1.mono hA.size)⟩
  | true =>
    have hd : derivL ls i l = lineH l.rule l.t (fromL ls l.refs) := by unfold derivL; rw [hr]; rfl
    rw [hr] at hBk
    have HD := Lib.hid hd
    generalize derivL ls i l = res at HD ⊢
    have HR := Lib.hid (fun (k : Nat) (z : Int) hz => refs_at_all hr (k := k) (z := z) hz)
    have Q3 := Lib.hid q3
    have R3 := Lib.hid r3
    clear hd hr q3 r3 hI2
    have hrl2 : (l.refs.length : Int) ≤ 1048576 := by omega
    go_enter Tryz.func79, Tryz.ntmps79
    go_wp2_with fail
    go_at_call 83
    refine hBk.mono ?_
    rintro e W1 ⟨rfl, b1⟩
    have B1 := hA.trans (b1.mono hA.size)
    have hS1 := hS.below b1 hS.lt
    obtain ⟨d0, d1, d2, d3, d4, d5⟩ := hS1.cells
    go_wp2_with fail
    have hW0 : W1.heap.size ≤ W1.heap.size := Nat.le_refl _
    go_loopw [6, 20] (fun o j wr => ∃ k : Nat, k ≤ l.refs.length ∧ j = .int .i64 (k : Int) ∧ wr.ownsRow W1.heap.size 31 4 o k (trows (fromL ls (l.refs.take k))) ∧ Below W1.heap.size W1 wr) (fun _ j _ => l.refs.length - (intOf j).toNat)
    case atStart => exact ⟨0, by omega, rfl, World.ownsRow_nil _ _ _ _, Below.refl _ _⟩
    case round =>
      obtain ⟨k, hk, rfl, hown, hB⟩ := hrel
      have hBW := B1.trans (hB.mono B1.size)
      by_cases hkl : k < l.refs.length
      · have hkl2 : (k : Int) < (l.refs.length : Int) := by omega
        have hz := List.getElem?_eq_getElem hkl
        rcases R3.out with k3 | ⟨gr, offr, hra, k3⟩
        · rw [k3] at hkl; simp at hkl
        subst hra
        have hcz := cell_below hBW (k3 k _ hz)
        obtain ⟨n, hzn, hni⟩ := HR.out k _ hz
        rw [hzn] at hcz hz
        have hnl : n < ls.length := by omega
        have hnl2 : (n : Int) < (ls.length : Int) := by omega
        have hln := List.getElem?_eq_getElem hnl
        have hct := (Q3.out n _ hln).1.below hBW
        have hsucc := from_succ hz hln
        generalize ls[n] = L at hln hct hsucc
        obtain ⟨t0, t1, t2, t3⟩ := hct
        have HS := Lib.hid hsucc
        clear hsucc hzn hni k3 hln R3
        have hTn := TripAt.new wr L.t.b L.t.p L.t.x L.t.r
        have hnews : ∀ (j : Nat) u, (fourL L.t)[j]? = some u → (wr.alloc (.cells #[.int .i64 L.t.b, .string L.t.p, .int .i64 L.t.x, .int .i64 L.t.r] 31)).cell? ((⟨wr.heap.size, 0, none⟩ : Addr).add j) = some u := by
          obtain ⟨x0, x1, x2, x3⟩ := hTn.cells
          intro j u hu
          rw [Go.WideShapes.add_plain, Nat.zero_add]
          match j, hu with
          | 0, hu => cases hu; exact x0
          | 1, hu => cases hu; exact x1
          | 2, hu => cases hu; exact x2
          | 3, hu => cases hu; exact x3
        have HNW := Lib.hid hnews
        clear hnews
        obtain ⟨oa, oc, ho⟩ := row_slice hown
        subst ho
        obtain ⟨v', w1, hr3, hown', hgrow, _⟩ := run_append_own (P := Tryz.prog) (wr.alloc (.cells #[.int .i64 L.t.b, .string L.t.p, .int .i64 L.t.x, .int .i64 L.t.r] 31)) W1.heap.size 35 35 31 i0 (.agg #[.int .i64 0, .string ⟨#[]⟩, .int .i64 0, .int .i64 0]) 4 40 Tryz.underlying35 hi hz0 hz1 hz2 rfl (by decide) (.slice oa k oc) k _ (hown.alloc _) ⟨wr.heap.size, 0, none⟩ 1 1 (fourL L.t) rfl HNW.out (by simp [fourL, Value.oneCell']) (by unfold maxLen; omega) (by omega) (by have := hB.size; simp; omega)
        have hr4 : (heldAppend #[35, 35] 35 #[.slice oa k oc, .slice (some ⟨wr.heap.size, 0, none⟩) 1 1]).run Tryz.prog (wr.alloc (.cells #[.int .i64 L.t.b, .string L.t.p, .int .i64 L.t.x, .int .i64 L.t.r] 31)) = .ok v' w1 := hr3
        obtain ⟨g', cap', rfl⟩ := ownsRow_succ hown'
        have hB2 := (hB.alloc hB.size (.cells #[.int .i64 L.t.b, .string L.t.p, .int .i64 L.t.x, .int .i64 L.t.r] 31)).grown hgrow (by have := hB.size; simp; omega) (fun i e => (hown.lt i e).1)
        clear hr3 hgrow
        go_wp2_with fail
        go_roundw
        case rel => exact ⟨k + 1, by omega, by go_num, by rw [HS.out, trows_snoc]; exact hown', hB2⟩
        case measure => simp [intOf]; omega
      · have hkn : k = l.refs.length := by omega
        subst hkn
        have hge : ¬ ((l.refs.length : Int) < (l.refs.length : Int)) := by omega
        obtain ⟨oa, oc, ho⟩ := row_slice hown
        subst ho
        have hown2 : TrRow wr W1.heap.size (.slice oa l.refs.length oc) (fromL ls l.refs) := by
          have h := hown
          rw [List.take_length] at h
          unfold TrRow
          rw [from_len]
          exact h
        have hts := hown2.trips
        have hSw := hS1.below hB hS1.lt
        obtain ⟨d0, d1, d2, d3, d4, d5⟩ := hSw.cells
        have hP := plh30 l.t l.rule ra l.refs.length rc hts (hL.below hBW hL.lt) (hE.below hBW hL.lt) (hN.below hBW hL.lt)
        clear hts hown2 hown
        go_wp2_with fail
        go_at_call 14
        refine hP.mono ?_
        rintro e W3 ⟨rfl, b3⟩
        go_wp2_with fail
        go_ret
        exact ⟨by rw [HD.out]; rfl, hBW.trans (b3.mono hBW.size)⟩
end Go.Proofs.YtgdgbjnmibkmhaaGreatDoor

namespace Go.Proofs.YtgdgbjnmibkmhaaGreatDoor
open Go.ChangeShapes Go.WideShapes Go.ChangeAt Go.RowKit Go.Shelf
attribute [local go_sem] Oper.semAt_some
set_option maxRecDepth 100000

attribute [local go_sem ↓ 10000] builtin_held in
set_option maxHeartbeats 4000000 in
theorem mfrom80 {W : World} {v : Value} {ls : List LineD} (h : LinesAt W v ls) (hn : ls.length ≤ 1048576) (i : Nat) (l : LineD) (hl : ls[i]? = some l) (hrl : l.refs.length ≤ 1048576) :
    Calls Tryz.prog 50 #[v, .int .i64 (i : Int)] W fun e W' => (∃ oa n oc, e = .returned (.tuple #[.slice oa n oc, .bool (refsOk l.refs (i : Int))]) ∧ (refsOk l.refs (i : Int) = true → TripsAt W' (.slice oa n oc) (fromL ls l.refs))) ∧ Below W.heap.size W W' := by
  obtain ⟨a, c, rfl, q1, q2, q3⟩ := h
  obtain ⟨i0, hi, hz0, hz1, hz2⟩ := info_parts infoTr
  have hlt : i < ls.length := (List.getElem?_eq_some_iff.1 hl).1
  have hlt2 : (i : Int) < (ls.length : Int) := by omega
  have hsmall : (i : Int) ≤ 1048576 := by omega
  rcases q3 with q3 | ⟨g, off, rfl, q3⟩
  · rw [q3] at hlt; simp at hlt
  have hA : Below W.heap.size W (W.alloc (.cells #[] 31)) := (Below.refl _ W).alloc (Nat.le_refl _) _
  obtain ⟨rv0, hI, x0, x1, x2, x3, x4, x5⟩ := line_cells (q3 i l hl)
  obtain ⟨ra, rc, rfl, r1, r2, r3⟩ := hI
  have c0 := cell_below hA x0
  have c1 := cell_below hA x1
  have c2 := cell_below hA x2
  have c3 := cell_below hA x3
  have c4 := cell_below hA x4
  have c5 := cell_below hA x5
  clear x0 x1 x2 x3 x4 x5
  have hO : (W.alloc (.cells #[] 31)).ownsRow W.heap.size 31 4 (.slice (some ⟨W.heap.size, 0, none⟩) 0 0) 0 (trows (fromL ls (l.refs.take 0))) := World.ownsRow_made W #[] 0 (Nat.le_refl _) (Nat.zero_le _) rfl
  have HR := Lib.hid (fun hr (k : Nat) (z : Int) hz => refs_at_all (zs := l.refs) (i := (i : Int)) hr (k := k) (z := z) hz)
  have HA := Lib.hid (fun h => refs_all (zs := l.refs) (i := (i : Int)) h)
  have HF := Lib.hid (fun k z h h' => refs_hole (zs := l.refs) (i := (i : Int)) (k := k) (z := z) h h')
  have HO := Lib.hid hO
  have Q3 := Lib.hid q3
  have R3 := Lib.hid r3
  clear q3 r3 hO
  generalize refsOk l.refs (i : Int) = res at HR HA HF ⊢
  go_enter Tryz.func50, Tryz.ntmps50
  go_wp2_with fail
  go_loopw [6, 16] (fun o j wr => ∃ k : Nat, k ≤ l.refs.length ∧ j = .int .i64 (k : Int) ∧ (∀ (j' : Nat) z, j' < k → l.refs[j']? = some z → inR z (i : Int) = true) ∧ wr.ownsRow W.heap.size 31 4 o k (trows (fromL ls (l.refs.take k))) ∧ Below W.heap.size W wr) (fun _ j _ => l.refs.length - (intOf j).toNat)
  case atStart => exact ⟨0, by omega, rfl, fun j z hj => by omega, HO.out, hA⟩
  case round =>
    obtain ⟨k, hk, rfl, hok, hown, hBW⟩ := hrel
    obtain ⟨oa, oc, ho⟩ := row_slice hown
    subst ho
    by_cases hkl : k < l.refs.length
    · have hkl2 : (k : Int) < (l.refs.length : Int) := by omega
      have hz := List.getElem?_eq_getElem hkl
      rcases R3.out with k3 | ⟨gr, offr, hra, k3⟩
      · rw [k3] at hkl; simp at hkl
      subst hra
      have hcz := cell_below hBW (k3 k _ hz)
      generalize l.refs[k] = z at hz hcz
      have hin := fun X => inB40 z 0 ((i : Int) - 1) X
      cases hb : inR z (i : Int) with
      | false =>
        have hres := HF.out k z hz hb
        have hbb : inB z 0 ((i : Int) - 1) = false := by
          refine inB_no fun hh => ?_
          unfold inR at hb
          rw [decide_eq_true hh.1, decide_eq_true (show z < (i : Int) by omega)] at hb
          cases hb
        rw [hbb] at hin
        subst hres
        clear HA HF HR hok hb hbb hown
        go_wp2_with fail
        go_at_call 67
        refine (hin _).mono ?_
        rintro e W1 ⟨rfl, hW1⟩
        subst hW1
        go_wp2_with fail
        go_ret2
        exact ⟨⟨_, _, _, rfl, fun h => by cases h⟩, hBW⟩
      | true =>
        have hrr : ∃ n : Nat, z = (n : Int) ∧ (n : Int) < (i : Int) := by
          unfold inR at hb
          rw [Bool.and_eq_true] at hb
          have h1 := of_decide_eq_true hb.1
          have h2 := of_decide_eq_true hb.2
          exact ⟨z.toNat, by omega, by omega⟩
        obtain ⟨n, rfl, hni⟩ := hrr
        have hbb : inB (n : Int) 0 ((i : Int) - 1) = true := inB_yes ⟨by omega, by omega⟩
        rw [hbb] at hin
        have hnl : n < ls.length := by omega
        have hnl2 : (n : Int) < (ls.length : Int) := by omega
        have hln := List.getElem?_eq_getElem hnl
        have hct := (Q3.out n _ hln).1.below hBW
        have hsucc := from_succ hz hln
        generalize ls[n] = L at hln hct hsucc
        obtain ⟨t0, t1, t2, t3⟩ := hct
        have HS := Lib.hid hsucc
        have hok2 : ∀ (j' : Nat) z, j' < k + 1 → l.refs[j']? = some z → inR z (i : Int) = true := fun j' z' hj' hl' => by
          by_cases he : j' = k
          · subst he; rw [hz] at hl'; cases hl'; exact hb
          · exact hok j' z' (by omega) hl'
        have HK := Lib.hid hok2
        clear hsucc hok2 hok hni hln hbb HA HF HR k3 R3 hz
        have hTn := TripAt.new wr L.t.b L.t.p L.t.x L.t.r
        have hnews : ∀ (j : Nat) u, (fourL L.t)[j]? = some u → (wr.alloc (.cells #[.int .i64 L.t.b, .string L.t.p, .int .i64 L.t.x, .int .i64 L.t.r] 31)).cell? ((⟨wr.heap.size, 0, none⟩ : Addr).add j) = some u := by
          obtain ⟨x0, x1, x2, x3⟩ := hTn.cells
          intro j u hu
          rw [Go.WideShapes.add_plain, Nat.zero_add]
          match j, hu with
          | 0, hu => cases hu; exact x0
          | 1, hu => cases hu; exact x1
          | 2, hu => cases hu; exact x2
          | 3, hu => cases hu; exact x3
        have hsz := hBW.size
        obtain ⟨v', w1, hr3, hown', hgrow, _⟩ := run_append_own (P := Tryz.prog) (wr.alloc (.cells #[.int .i64 L.t.b, .string L.t.p, .int .i64 L.t.x, .int .i64 L.t.r] 31)) W.heap.size 35 35 31 i0 (.agg #[.int .i64 0, .string ⟨#[]⟩, .int .i64 0, .int .i64 0]) 4 40 Tryz.underlying35 hi hz0 hz1 hz2 rfl (by decide) (.slice oa k oc) k _ (hown.alloc _) ⟨wr.heap.size, 0, none⟩ 1 1 (fourL L.t) rfl hnews (by simp [fourL, Value.oneCell']) (by unfold maxLen; omega) (by omega) (by simp; omega)
        have hr4 : (heldAppend #[35, 35] 35 #[.slice oa k oc, .slice (some ⟨wr.heap.size, 0, none⟩) 1 1]).run Tryz.prog (wr.alloc (.cells #[.int .i64 L.t.b, .string L.t.p, .int .i64 L.t.x, .int .i64 L.t.r] 31)) = .ok v' w1 := hr3
        obtain ⟨g', cap', rfl⟩ := ownsRow_succ hown'
        have hB2 := (hBW.alloc hBW.size (.cells #[.int .i64 L.t.b, .string L.t.p, .int .i64 L.t.x, .int .i64 L.t.r] 31)).grown hgrow (by simp; omega) (fun i e => (hown.lt i e).1)
        clear hr3 hgrow hnews hTn hown
        go_wp2_with fail
        go_at_call 67
        refine (hin _).mono ?_
        rintro e W9 ⟨rfl, hW9⟩
        subst hW9
        go_wp2_with fail
        go_roundw
        case rel => exact ⟨k + 1, by omega, by go_num, HK.out, by rw [HS.out, trows_snoc]; exact hown', hB2⟩
        case measure => simp [intOf]; omega
    · have hkn : k = l.refs.length := by omega
      subst hkn
      have hres := HA.out (fun j z hl' => hok j z ((List.getElem?_eq_some_iff.1 hl').1) hl')
      subst hres
      have hge : ¬ ((l.refs.length : Int) < (l.refs.length : Int)) := by omega
      have hown2 : TrRow wr W.heap.size (.slice oa l.refs.length oc) (fromL ls l.refs) := by
        have h := hown
        rw [List.take_length] at h
        unfold TrRow
        rw [from_len]
        exact h
      have hts := Lib.hid hown2.trips
      clear hown2 hown HA HF HR
      go_wp2_with fail
      go_ret2
      exact ⟨⟨oa, l.refs.length, oc, rfl, hts.out⟩, hBW⟩
/-! ### The first line that does not follow -/
def badAt (ls : List LineD) (i : Nat) : Bool := decide (120 ≤ i) || !(match ls[i]? with | some l => derivL ls i l | none => true)
theorem bad_at {ls : List LineD} {i : Nat} {l : LineD} (h : ls[i]? = some l) : badAt ls i = (decide (120 ≤ i) || !derivL ls i l) := by unfold badAt; rw [h]
def faultF (ls : List LineD) : Nat → Nat → Int
  | 0, _ => -1
  | n + 1, i => if badAt ls i = true then (i : Int) else faultF ls n (i + 1)
theorem faultF_hit {ls : List LineD} : ∀ (n s t : Nat), s ≤ t → t < s + n → (∀ j, s ≤ j → j < t → badAt ls j = false) → badAt ls t = true → faultF ls n s = (t : Int)
  | 0, s, t, h1, h2, _, _ => by omega
  | n + 1, s, t, h1, h2, h3, h4 => by
    unfold faultF
    by_cases e : s = t
    · subst e
      rw [if_pos h4]
    · have hs := h3 s (Nat.le_refl _) (by omega)
      rw [if_neg (by rw [hs]; decide)]
      exact faultF_hit n (s + 1) t (by omega) (by omega) (fun j hj hjt => h3 j (by omega) hjt) h4
theorem faultF_miss {ls : List LineD} : ∀ (n s : Nat), (∀ j, s ≤ j → j < s + n → badAt ls j = false) → faultF ls n s = -1
  | 0, _, _ => rfl
  | n + 1, s, h => by
    unfold faultF
    rw [if_neg (by rw [h s (Nat.le_refl _) (by omega)]; decide)]
    exact faultF_miss n (s + 1) fun j hj hjt => h j (by omega) (by omega)
/-- The index of the first line that does not follow, or -1. -/
def faultZ (ls : List LineD) : Int := faultF ls ls.length 0
theorem fault_hit {ls : List LineD} {t : Nat} (h1 : t < ls.length) (h3 : ∀ j, j < t → badAt ls j = false) (h4 : badAt ls t = true) : faultZ ls = (t : Int) := faultF_hit _ 0 t (Nat.zero_le _) (by omega) (fun j _ hj => h3 j hj) h4
theorem fault_miss {ls : List LineD} (h : ∀ j, j < ls.length → badAt ls j = false) : faultZ ls = -1 := faultF_miss _ 0 fun j _ hj => h j (by omega)
theorem from_size {ls : List LineD} (hsz : ∀ l ∈ ls, l.t.p.size ≤ 9000000) (zs : List Int) : ∀ F ∈ fromL ls zs, F.p.size ≤ 9000000 := by
  intro F hF
  unfold fromL at hF
  obtain ⟨z, _, rfl⟩ := List.mem_map.1 hF
  cases h : ls[z.toNat]? with
  | none => exact Nat.zero_le _
  | some l => exact hsz l (List.mem_of_getElem? h)
set_option maxHeartbeats 4000000 in
theorem mcheck18 {W : World} {v : Value} {ls : List LineD} (h : LinesAt W v ls) (hn : ls.length ≤ 1048576) (hrl : ∀ l ∈ ls, l.refs.length ≤ 1048576) (hsz : ∀ l ∈ ls, l.t.p.size ≤ 9000000) :
    Calls Tryz.prog 18 #[v] W fun e W' => e = .returned (.int .i64 (faultZ ls)) ∧ Below W.heap.size W W' := by
  have h0 := Lib.hid h
  have HM := Lib.hid (fun h => fault_miss (ls := ls) h)
  have HH := Lib.hid (fun t h1 h3 h4 => fault_hit (ls := ls) (t := t) h1 h3 h4)
  obtain ⟨a, c, hv, q1, q2, q3⟩ := h
  subst hv
  have hrl2 := Lib.hid hrl
  have hsz2 := Lib.hid hsz
  have Q3 := Lib.hid q3
  have hn2 : (ls.length : Int) ≤ 1048576 := by omega
  clear q3 hrl hsz
  generalize faultZ ls = res at HM HH ⊢
  go_enter Tryz.func18, Tryz.ntmps18
  go_wp2_with fail
  go_loopw [9] (fun i wr => ∃ k : Nat, k ≤ ls.length ∧ i = .int .i64 (k : Int) ∧ (∀ j, j < k → badAt ls j = false) ∧ Below W.heap.size W wr) (fun i _ => ls.length - (intOf i).toNat)
  case atStart => exact ⟨0, by omega, rfl, fun j hj => by omega, Below.refl _ _⟩
  case round =>
    obtain ⟨k, hk, rfl, hok, hBW⟩ := hrel
    by_cases hlt : k < ls.length
    · have hlt2 : (k : Int) < (ls.length : Int) := by omega
      have hl := List.getElem?_eq_getElem hlt
      rcases Q3.out with q3 | ⟨g, off, ha, q3⟩
      · rw [q3] at hlt; simp at hlt
      subst ha
      have hrl := hrl2.out ls[k] (List.getElem_mem hlt)
      have hlp := hsz2.out ls[k] (List.getElem_mem hlt)
      have hfs := from_size hsz2.out ls[k].refs
      have hcells := (q3 k _ hl).below hBW
      clear q3
      generalize ls[k] = l at hl hrl hlp hfs hcells
      obtain ⟨rv, hI, c0, c1, c2, c3, c4, c5⟩ := line_cells hcells
      obtain ⟨ra, rc, hrv, r1, r2, r3⟩ := hI
      subst hrv
      clear r1 r2 r3 hcells
      have hS := Six.new wr 33 (.int .i64 l.t.b) (.string l.t.p) (.int .i64 l.t.x) (.int .i64 l.t.r) (.string l.rule) (.slice ra l.refs.length rc)
      have hB1 := hBW.alloc hBW.size (.cells #[.int .i64 l.t.b, .string l.t.p, .int .i64 l.t.x, .int .i64 l.t.r, .string l.rule, .slice ra l.refs.length rc] 33)
      have hF := mfrom80 (h0.out.below hB1) hn k l hl hrl
      have hbad := bad_at hl
      unfold derivL at hbad
      have hgo : ∀ (hb : badAt ls k = false) j, j < k + 1 → badAt ls j = false := fun hb j hj => by
        by_cases he : j = k
        · rw [he]; exact hb
        · exact hok j (by omega)
      have HGO := Lib.hid hgo
      have HST := Lib.hid (fun hb => HH.out k hlt hok hb)
      clear hgo hok HH
      by_cases h120 : 120 ≤ k
      · have hb : badAt ls k = true := by rw [hbad, decide_eq_true h120]; rfl
        have hres := HST.out hb
        have h120i : (120 : Int) ≤ (k : Int) := by omega
        subst hres
        clear hbad hb
        go_wp2_with fail
        go_at_call 50
        refine hF.mono ?_
        rintro e W1 ⟨⟨oa, n, oc, rfl, ht⟩, b1⟩
        go_wp2_with fail
        go_ret
        exact ⟨rfl, hB1.trans (b1.mono hB1.size)⟩
      · have h120i : ¬ (120 : Int) ≤ (k : Int) := by omega
        cases hr : refsOk l.refs (k : Int) with
        | false =>
          have hb : badAt ls k = true := by rw [hbad, hr]; simp
          have hres := HST.out hb
          rw [hr] at hF
          subst hres
          clear hbad hb hr
          go_wp2_with fail
          go_at_call 50
          refine hF.mono ?_
          rintro e W1 ⟨⟨oa, n, oc, rfl, ht⟩, b1⟩
          go_wp2_with fail
          go_ret
          exact ⟨rfl, hB1.trans (b1.mono hB1.size)⟩
        | true =>
          rw [hr] at hF
          have hML := fun X v9 (ht : TripsAt X v9 (fromL ls l.refs)) => mlh11 l.t l.rule ra l.refs.length rc ht hlp hfs
          cases hlh : lineH l.rule l.t (fromL ls l.refs) with
          | false =>
            have hb : badAt ls k = true := by rw [hbad, hr, hlh]; simp
            have hres := HST.out hb
            rw [hlh] at hML
            subst hres
            clear hbad hb hr hlh
            go_wp2_with fail
            go_at_call 50
            refine hF.mono ?_
            rintro e W1 ⟨⟨oa, n, oc, rfl, ht⟩, b1⟩
            have hS1 := hS.below b1 hS.lt
            obtain ⟨d0, d1, d2, d3, d4, d5⟩ := hS1.cells
            have hM1 := hML W1 _ (ht trivial)
            clear ht hML
            go_wp2_with fail
            go_at_call 11
            refine hM1.mono ?_
            rintro e W2 ⟨rfl, b2⟩
            have hB2 := hB1.trans (b1.mono hB1.size)
            go_wp2_with fail
            go_ret
            exact ⟨rfl, hB2.trans (b2.mono hB2.size)⟩
          | true =>
            have hb : badAt ls k = false := by rw [hbad, hr, hlh, decide_eq_false h120]; rfl
            have hgo2 := Lib.hid (HGO.out hb)
            rw [hlh] at hML
            clear hbad hb hr hlh HST HGO
            go_wp2_with fail
            go_at_call 50
            refine hF.mono ?_
            rintro e W1 ⟨⟨oa, n, oc, rfl, ht⟩, b1⟩
            have hS1 := hS.below b1 hS.lt
            obtain ⟨d0, d1, d2, d3, d4, d5⟩ := hS1.cells
            have hM1 := hML W1 _ (ht trivial)
            clear ht hML
            go_wp2_with fail
            go_at_call 11
            refine hM1.mono ?_
            rintro e W2 ⟨rfl, b2⟩
            have hB2 := hB1.trans (b1.mono hB1.size)
            go_wp2_with fail
            go_roundw
            case rel => exact ⟨k + 1, by omega, by go_num, hgo2.out, hB2.trans (b2.mono hB2.size)⟩
            case measure => simp [intOf]; omega
    · have hkn : k = ls.length := by omega
      subst hkn
      have hres := HM.out hok
      subst hres
      have hge : ¬ ((ls.length : Int) < (ls.length : Int)) := by omega
      go_wp2_with fail
      go_ret
      exact ⟨rfl, hBW⟩
end Go.Proofs.YtgdgbjnmibkmhaaGreatDoor

namespace Go.Proofs.YtgdgbjnmibkmhaaGreatDoor
open Go.ChangeShapes Go.WideShapes Go.ChangeAt Go.RowKit Go.Shelf
attribute [local go_sem] Oper.semAt_some
set_option maxRecDepth 100000

def encI (x : Nat) : Array Value := #[.int .i64 (x : Int)]
theorem bad_late (ls : List LineD) {i : Nat} (h : 120 ≤ i) : badAt ls i = true := by unfold badAt; rw [decide_eq_true h]; rfl
set_option maxHeartbeats 4000000 in
theorem faults_in (n : Nat) (hn : 1 ≤ n) (l Bn : Nat) {v : Value} {ls : List LineD} {N : Nat} (J Jx : List Nat → World → Prop) (W : World)
    (hAJ : ∀ A B, J [] A → Below A.heap.size A B → W.heap.size ≤ A.heap.size → J [] B)
    (hY : ∀ pre x W, J pre W → pre.length < 1 → YieldAt Fence.wide (n - 1) Tryz.prog l (encI x) W fun e W' =>
      (e = .returned (.bool true) ∧ J (pre ++ [x]) W' ∧ True) ∨ (e = .returned (.bool false) ∧ Jx (pre ++ [x]) W'))
    (hc : W.cell? ⟨Bn, 0, none⟩ = some v) (h : LinesAt W v ls) (hlen : ls.length ≤ 1048576) (hrl : ∀ l ∈ ls, l.refs.length ≤ 1048576) (hL : Laid3 N W) (hE : NoTrip N W) (hN : NoRule N W) (hJ0 : J [] W) :
    CallsIn Fence.wide n Tryz.prog 78 #[.func (.yield l) #[] #[], .pointer (some ⟨Bn, 0, none⟩)] W fun e W' => (∃ v, e = .returned v) ∧
      ((∃ ys : List Nat, ((ys = [] ∧ faultZ ls = -1) ∨ ∃ i : Nat, ys = [i] ∧ faultZ ls = (i : Int)) ∧ J ys W') ∨ (∃ pre : List Nat, (∃ i : Nat, pre = [i] ∧ faultZ ls = (i : Int)) ∧ Jx pre W')) := by
  have h0 := Lib.hid h
  obtain ⟨a, c, hv, q1, q2, _⟩ := h
  subst hv
  have hlen2 : (ls.length : Int) ≤ 1048576 := by omega
  have HRL := Lib.hid hrl
  clear hrl
  refine callsIn_of_wp Tryz.func78 rfl trivial ?_ rfl
  simp only [Tryz.ntmps78, List.size_toArray, List.length_cons, List.length_nil, Nat.reduceAdd, Nat.reduceSub, Array.replicate_succ, Array.replicate_zero, List.push_toArray, List.append_toArray, List.nil_append, List.cons_append]
  gi_wp2
  gi_loopw [6] (fun i wr => ∃ k : Nat, k ≤ ls.length ∧ i = .int .i64 (k : Int) ∧ (∀ j, j < k → badAt ls j = false) ∧ Below W.heap.size W wr ∧ J [] wr) (fun i _ => ls.length - (intOf i).toNat)
  case atStart => exact ⟨0, by omega, rfl, fun j hj => by omega, Below.refl _ _, hJ0⟩
  case round =>
    obtain ⟨k, hk, rfl, hok, hB, hJ⟩ := hrel
    have hcb := (cell_below hB hc)
    by_cases hlt : k < ls.length
    · have hlt2 : (k : Int) < (ls.length : Int) := by omega
      have hl := List.getElem?_eq_getElem hlt
      have hrl := HRL.out ls[k] (List.getElem_mem hlt)
      generalize ls[k] = l9 at hl hrl
      have hbad := bad_at hl
      have hk120 : k ≤ 120 := by
        by_cases hh : 120 < k
        · have := hok 120 hh
          rw [bad_late ls (Nat.le_refl _)] at this
          cases this
        · omega
      by_cases h120 : k = 120
      · have hb : badAt ls k = true := bad_late ls (by omega)
        have HRES := Lib.hid (fault_hit hlt hok hb)
        clear hbad hb hok
        subst h120
        obtain ⟨fn, tmps, assign, body, hy, hR⟩ := hY [] 120 wr hJ (by decide)
        dsimp only [encI] at hy
        rw [show ((120 : Nat) : Int) = 120 from rfl] at hy
        gi_wp2
        refine ⟨trivial, ?_⟩
        gi_wp2
        refine hR.mono ?_
        rintro e W3 (⟨rfl, hJ3, _⟩ | ⟨rfl, hJx3⟩)
        · gi_wp2
          refine bodyPost_ret (results_none rfl _ _ _) rfl ?_
          exact ⟨⟨_, rfl⟩, .inl ⟨[120], .inr ⟨120, rfl, HRES.out⟩, hJ3⟩⟩
        · gi_wp2
          refine bodyPost_ret (results_none rfl _ _ _) rfl ?_
          exact ⟨⟨_, rfl⟩, .inr ⟨[120], ⟨120, rfl, HRES.out⟩, hJx3⟩⟩
      · have h120i : ¬ (k : Int) = 120 := by omega
        have hD := derived79 (h0.out.below hB) k l9 hl hrl (hL.below hB hL.lt) (hE.below hB hL.lt) (hN.below hB hL.lt)
        cases hd : derivL ls k l9 with
        | false =>
          have hb : badAt ls k = true := by rw [hbad, hd]; simp
          have HRES := Lib.hid (fault_hit hlt hok hb)
          rw [hd] at hD
          clear hbad hb hok hd
          gi_wp2_with (refine ⟨trivial, ?_⟩; gi_at_call 79; refine (callsIn_wide.2 hD).mono ?_; rintro e W2 ⟨rfl, b2⟩; have hJ2 := hAJ _ _ hJ b2 hB.size; obtain ⟨fn, tmps, assign, body, hy, hR⟩ := hY [] k W2 hJ2 (by decide); dsimp only [encI] at hy)
          refine hR.mono ?_
          rintro e W3 (⟨rfl, hJ3, _⟩ | ⟨rfl, hJx3⟩)
          · gi_wp2
            refine bodyPost_ret (results_none rfl _ _ _) rfl ?_
            exact ⟨⟨_, rfl⟩, .inl ⟨[k], .inr ⟨k, rfl, HRES.out⟩, hJ3⟩⟩
          · gi_wp2
            refine bodyPost_ret (results_none rfl _ _ _) rfl ?_
            exact ⟨⟨_, rfl⟩, .inr ⟨[k], ⟨k, rfl, HRES.out⟩, hJx3⟩⟩
        | true =>
          have hb : badAt ls k = false := by rw [hbad, hd, decide_eq_false (by omega)]; rfl
          have hok2 : ∀ j, j < k + 1 → badAt ls j = false := fun j hj => by
            by_cases he : j = k
            · rw [he]; exact hb
            · exact hok j (by omega)
          have HOK := Lib.hid hok2
          rw [hd] at hD
          clear hbad hb hok hd hok2
          gi_wp2_with (refine ⟨trivial, ?_⟩; gi_at_call 79; refine (callsIn_wide.2 hD).mono ?_; rintro e W2 ⟨rfl, b2⟩; have hJ2 := hAJ _ _ hJ b2 hB.size)
          go_roundw
          case rel => exact ⟨k + 1, by omega, by go_num, HOK.out, hB.trans (b2.mono hB.size), hJ2⟩
          case measure => simp [intOf]; omega
    · have hkn : k = ls.length := by omega
      subst hkn
      have HRES := Lib.hid (fault_miss hok)
      have hge : ¬ ((ls.length : Int) < (ls.length : Int)) := by omega
      gi_wp2
      go_end0
      exact ⟨⟨_, rfl⟩, .inl ⟨[], .inl ⟨rfl, HRES.out⟩, hJ⟩⟩
end Go.Proofs.YtgdgbjnmibkmhaaGreatDoor

namespace Go.Proofs.YtgdgbjnmibkmhaaGreatDoor
open Go.ChangeShapes Go.WideShapes Go.ChangeAt Go.RowKit Go.Shelf
attribute [local go_sem] Oper.semAt_some
set_option maxRecDepth 100000

theorem firstMaker (n : Nat) (a : Option Addr) (m c : Nat) (w : World) :
    CallsIn Fence.wide n Tryz.prog 51 #[.slice a m c] w fun e w' => e = .returned (.func (.func 78) #[] #[.pointer (some ⟨w.heap.size, 0, none⟩)]) ∧ w' = w.alloc (.cells #[.slice a m c] 43) := by
  refine callsIn_of_wp Tryz.func51 rfl trivial ?_ rfl
  simp only [Tryz.ntmps51, List.size_toArray, List.length_cons, List.length_nil, Nat.reduceAdd, Nat.reduceSub, Array.replicate_succ, Array.replicate_zero, List.push_toArray, List.append_toArray, List.nil_append, List.cons_append]
  gi_wp2
  go_ret
  exact ⟨rfl, rfl⟩
def faultS (ls : List LineD) (ys : List Nat) : Prop := (ys = [] ∧ faultZ ls = -1) ∨ ∃ i : Nat, ys = [i] ∧ faultZ ls = (i : Int)
def faultP (ls : List LineD) (pre : List Nat) : Prop := ∃ i : Nat, pre = [i] ∧ faultZ ls = (i : Int)
theorem fault_stops (n : Nat) (hn : 1 ≤ n) (Bn : Nat) {v : Value} {ls : List LineD} {N : Nat} (w : World) (hc : w.cell? ⟨Bn, 0, none⟩ = some v) (h : LinesAt w v ls) (hlen : ls.length ≤ 1048576) (hrl : ∀ l ∈ ls, l.refs.length ≤ 1048576) (hL : Laid3 N w) (hE : NoTrip N w) (hN : NoRule N w) :
    SeqStopsK Fence.wide n Tryz.prog 78 #[.pointer (some ⟨Bn, 0, none⟩)] encI (fun _ _ => True) (faultS ls) (faultP ls) 1 w := fun l J Jx W hW hAJ _ hY h0 =>
  faults_in n hn l Bn J Jx W (fun A B hJ hb _ => hAJ [] A B none hJ (below_grown hb none) (fun r e => by cases e)) hY (cell_below hW hc) (h.below hW) hlen hrl (hL.below hW hL.lt) (hE.below hW hL.lt) (hN.below hW hL.lt) h0
set_option maxHeartbeats 4000000 in
theorem pcheck_in (n : Nat) (hn : 3 ≤ n) {v : Value} {ls : List LineD} {N : Nat} (w : World) (h : LinesAt w v ls) (hlen : ls.length ≤ 1048576) (hrl : ∀ l ∈ ls, l.refs.length ≤ 1048576) (hL : Laid3 N w) (hE : NoTrip N w) (hN : NoRule N w) :
    CallsIn Fence.wide n Tryz.prog 20 #[v] w fun e W' => e = .returned (.int .i64 (faultZ ls)) ∧ Below w.heap.size w W' := by
  have h1 : 1 ≤ n := by omega
  have h0 := h
  obtain ⟨a, c, hv, q1, q2, _⟩ := h
  subst hv
  refine callsIn_of_wp_marks Tryz.func20 rfl trivial ?_ rfl
  simp only [Tryz.ntmps20, List.size_toArray, List.length_cons, List.length_nil, Nat.reduceAdd, Nat.reduceSub, Array.replicate_succ, Array.replicate_zero, List.push_toArray, List.append_toArray, List.nil_append, List.cons_append]
  gi_wp2_with (refine ⟨trivial, ?_⟩; gi_at_call 51; refine (firstMaker (n - 1) _ _ _ _).mono ?_; rintro e w' ⟨rfl, rfl⟩)
  have c1 := cellNew w (.int .i64 0) 3
  have c2 := cellNew (w.alloc (.cells #[.int .i64 0] 3)) (.slice a ls.length c) 43
  rw [World.size_alloc] at c2
  have hB0 : Below w.heap.size w ((w.alloc (.cells #[.int .i64 0] 3)).alloc (.cells #[.slice a ls.length c] 43)) := ((Below.refl _ w).alloc (Nat.le_refl _) _).alloc (by simp) _
  have k0 := cell_kept c1.1 (World.grownBy_alloc _ (.cells #[.slice a ls.length c] 43) none) (fun r e => by cases e)
  have f0 := (frozen_kept c1.1 (World.grownBy_alloc _ (.cells #[.slice a ls.length c] 43) none) (fun r e => by cases e)).trans c1.2
  refine wpIn_rangeFunc_ownF rfl h1 (gf := 78) (lb := #[.pointer (some ⟨w.heap.size + 1, 0, none⟩)]) rfl trivial (enters_of Tryz.func78 (by kernel_rfl) rfl)
    (fault_stops (n - 1) (by omega) (w.heap.size + 1) _ c2.1 (h0.below hB0) hlen hrl (hL.below hB0 hL.lt) (hE.below hB0 hL.lt) (hN.below hB0 hL.lt)) (fun _ _ => trivial) (fun _ _ _ _ _ _ _ _ => trivial) (Below.refl _ _) (fun _ => rfl)
    (fun pre W => (pre = [] ∧ W.cell? ⟨w.heap.size, 0, none⟩ = some (.int .i64 0) ∧ W.frozen? ⟨w.heap.size, 0, none⟩ = false) ∧ Below w.heap.size w W)
    (fun c pre W => (c = .ret ∧ ∃ i : Nat, pre = [i] ∧ W.cell? ⟨w.heap.size, 0, none⟩ = some (.int .i64 (i : Int))) ∧ Below w.heap.size w W)
    (OwnFrom.and (Own.from (fun s A B row hs hg hr => ⟨hs.1, cell_kept hs.2.1 hg hr, (frozen_kept hs.2.1 hg hr).trans hs.2.2⟩) _) (ownFrom_below (Nat.le_refl _) (by simp; omega)))
    (fun c => OwnFrom.and (Own.from (fun s A B row hs hg hr => by obtain ⟨e, i, e2, hc⟩ := hs; exact ⟨e, i, e2, cell_kept hc hg hr⟩) _) (ownFrom_below (Nat.le_refl _) (by simp; omega)))
    ⟨⟨rfl, k0, f0⟩, hB0⟩
    (fun x => { tmps := #[.slice a ls.length c, undef, .pointer (some ⟨w.heap.size, 0, none⟩), .int .i64 (x : Int), .slice a ls.length c, .func (.func 78) #[] #[.pointer (some ⟨w.heap.size + 1, 0, none⟩)], .int .i64 (x : Int), undef], defers := [] }) ?assign ?body ?done ?stop
  case assign =>
    intro l x W K hK
    simp only [encI]
    gi_wp2
    exact hK
  case body =>
    rintro l pre x W ⟨⟨rfl, hcr, hfr⟩, hB⟩ _
    gi_wp2
    exact ⟨KeepsOthers.setCell _ _ _, ⟨rfl, x, rfl, World.cell?_setCell_same' _ _ _ (by rw [hcr]; rfl)⟩, hB.setCell (p := ⟨w.heap.size, 0, none⟩) (Nat.le_refl _) _⟩
  case done =>
    rintro D ys W hD hS ⟨⟨rfl, hcr, hfr⟩, hB⟩ hK
    have hz : faultZ ls = -1 := by
      rcases hS with ⟨_, hz⟩ | ⟨i, hi, _⟩
      · exact hz
      · cases hi
    gi_wp2
    have hK' := (KeepsOthers.setCell W ⟨w.heap.size, 0, none⟩ (.int .i64 (-1))).same D _ hK rfl
    refine ⟨by simp, .inl ⟨_, _, rfl, run_takeDeferred hK', ?_⟩⟩
    have hc5 := cell_kept (World.cell?_setCell_same' W ⟨w.heap.size, 0, none⟩ (.int .i64 (-1)) (by rw [hcr]; rfl)) (grownBy_putObj' _ D (.deferred none)) (fun r e => by cases e; exact ⟨_, hK', rfl⟩)
    refine ⟨.int .i64 (-1), ?_, by rw [hz], (hB.setCell (p := ⟨w.heap.size, 0, none⟩) (Nat.le_refl _) _).trans (belowK_b (w := w) (Nat.le_refl _) _ D _ _ (by simp at hD; omega) hK' rfl rfl)⟩
    simp [results, Tryz.f20, go_sem, hc5]
  case stop =>
    rintro D c pre W hD ⟨i0, hp, hz⟩ ⟨⟨rfl, i, hpi, hcr⟩, hB⟩ hK
    obtain rfl : i0 = i := by rw [hp] at hpi; simpa using hpi
    gi_wp2
    refine ⟨by simp, .inl ⟨_, _, rfl, run_takeDeferred hK, ?_⟩⟩
    have hc5 := cell_kept hcr (grownBy_putObj' _ D (.deferred none)) (fun r e => by cases e; exact ⟨_, hK, rfl⟩)
    refine ⟨.int .i64 (i0 : Int), ?_, by rw [hz], hB.trans (belowK_b (w := w) (Nat.le_refl _) W D _ _ (by simp at hD; omega) hK rfl rfl)⟩
    simp [results, Tryz.f20, go_sem, hc5]
/-- **THE FIRST LINE THAT DOES NOT FOLLOW.** -/
theorem pcheck20 {v : Value} {ls : List LineD} {N : Nat} {w : World} (h : LinesAt w v ls) (hlen : ls.length ≤ 1048576) (hrl : ∀ l ∈ ls, l.refs.length ≤ 1048576) (hL : Laid3 N w) (hE : NoTrip N w) (hN : NoRule N w) :
    Calls Tryz.prog 20 #[v] w fun e W' => e = .returned (.int .i64 (faultZ ls)) ∧ Below w.heap.size w W' :=
  callsIn_wide.1 (pcheck_in 3 (Nat.le_refl _) w h hlen hrl hL hE hN)
end Go.Proofs.YtgdgbjnmibkmhaaGreatDoor

namespace Go.Proofs.YtgdgbjnmibkmhaaGreatDoor
open Go.ChangeShapes Go.WideShapes Go.ChangeAt Go.RowKit Go.Shelf
attribute [local go_sem] Oper.semAt_some
set_option maxRecDepth 100000

theorem wt_line : ∀ {ls : List LineD} {l : LineD}, l ∈ ls → wt1 l ≤ wtL ls
  | x :: ls, l, h => by
    unfold wtL
    rw [List.map_cons, List.sum_cons]
    rcases List.mem_cons.1 h with rfl | h
    · omega
    · have := wt_line h
      unfold wtL at this
      omega
theorem lines_at {B : Nat} {W : World} {g : Nat} {ls : List LineD} (hn : ls.length ≤ 1048576) (h : ∀ (j : Nat) l, ls[j]? = some l → OLine B W g (j * 6) l) : LinesAt W (.slice (some ⟨g, 0, none⟩) ls.length ls.length) ls :=
  ⟨_, _, rfl, Nat.le_refl _, by unfold maxLen; omega, .inr ⟨g, 0, rfl, fun j l hl => by rw [Nat.zero_add]; exact (h j l hl).line⟩⟩
set_option maxHeartbeats 8000000 in
theorem walkCheckProof (v : Value) (ls : List LineD) (w : World) (hls : LinesAt w v ls) (hsz : ∀ l ∈ ls, l.t.p.size ≤ maxLen ∧ l.rule.size ≤ maxLen) {N : Nat} (hL : Laid3 N w) (hE : NoTrip N w) (hR : NoRule N w) :
    Calls Tryz.prog 4 #[v] w fun e w' => e = .returned (.bool true) ∧ Below w.heap.size w w' := by
  have hS := szS55 hls hsz 1048576 (by omega) (by omega)
  by_cases hfit : ls.length + wtL ls ≤ 1048576
  · have hso : szOf (ls.length + wtL ls) 1048576 = 1048576 - ((ls.length + wtL ls : Nat) : Int) := if_pos (by omega)
    rw [hso] at hS
    have hnn : ¬ ((1048576 : Int) - ((ls.length + wtL ls : Nat) : Int) < 0) := by omega
    have hn : ls.length ≤ 1048576 := by omega
    have hrl : ∀ l ∈ ls, l.refs.length ≤ 1048576 := fun l hl => by have := wt_line hl; unfold wt1 at this; omega
    have hpl : ∀ l ∈ ls, l.t.p.size ≤ 9000000 := fun l hl => by have := wt_line hl; unfold wt1 at this; omega
    generalize (1048576 : Int) - ((ls.length + wtL ls : Nat) : Int) = left at hS hnn
    clear hso hfit hsz
    go_enter Tryz.func4, Tryz.ntmps4
    go_wp2_with fail
    go_at_call 17
    refine hS.mono ?_
    rintro e W1 ⟨rfl, b1⟩
    have l1 := hls.below b1
    go_wp2_with fail
    go_at_call 19
    refine (toS56 l1 hn hrl).mono ?_
    rintro e W2 ⟨rfl, _, o2, b2⟩
    have B2 := b1.trans (b2.mono b1.size)
    have a2 := lines_at hn o2
    clear o2
    go_wp2_with fail
    go_at_call 18
    refine (mcheck18 a2 hn hrl hpl).mono ?_
    rintro e W3 ⟨rfl, b3⟩
    have B3 := B2.trans (b3.mono B2.size)
    have l3 := hls.below B3
    clear a2 b2 l1 b1
    go_wp2_with fail
    go_at_call 19
    refine (toS56 l3 hn hrl).mono ?_
    rintro e W4 ⟨rfl, _, o4, b4⟩
    have B4 := B3.trans (b4.mono B3.size)
    have a4 := lines_at hn o4
    clear l3 o4
    go_wp2_with fail
    go_at_call 20
    refine (pcheck20 a4 hn hrl (hL.below B4 hL.lt) (hE.below B4 hL.lt) (hR.below B4 hL.lt)).mono ?_
    rintro e W5 ⟨rfl, b5⟩
    have B5 := B4.trans (b5.mono B4.size)
    have a5 := a4.below b5
    have l5 := hls.below B5
    clear a4
    generalize faultZ ls = z
    go_wp2_with fail
    go_at_call 19
    refine (toS56 l5 hn hrl).mono ?_
    rintro e W6 ⟨rfl, _, o6, b6⟩
    have B6 := B5.trans (b6.mono B5.size)
    have a6 := a5.below b6
    have c6 := lines_at hn o6
    clear o6 l5 a5
    go_wp2_with fail
    go_at_call 21
    refine (eqS57 a6 c6 hn).mono ?_
    rintro e W7 ⟨rfl, b7⟩
    go_wp2_with fail
    go_ret
    exact ⟨rfl, B6.trans (b7.mono B6.size)⟩
  · have hso : szOf (ls.length + wtL ls) 1048576 = -1 := if_neg (by omega)
    rw [hso] at hS
    go_enter Tryz.func4, Tryz.ntmps4
    go_wp2_with fail
    go_at_call 17
    refine hS.mono ?_
    rintro e W1 ⟨rfl, b1⟩
    go_wp2_with fail
    go_ret
    exact ⟨rfl, b1⟩
end Go.Proofs.YtgdgbjnmibkmhaaGreatDoor
