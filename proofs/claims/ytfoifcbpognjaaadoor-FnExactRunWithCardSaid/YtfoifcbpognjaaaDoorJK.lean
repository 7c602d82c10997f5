/- Chapter 10, the model: a run with choices from its text; RunWith, ChoicesRight, TraceOf. -/
import Derived.Test.YtfoifcbpognjaaaDoorJI
import Derived.Test.YtfoifcbpognjaaaDoorR5
namespace Go.Proofs.YtfoifcbpognjaaaDoor
open Go.ChangeShapes Go.WideShapes Go.ChangeAt Go.RowKit Go.Shelf
attribute [local go_sem] Oper.semAt_some
set_option maxRecDepth 100000

/-- Where a run stands at first. -/
def at10 (s : Int) : R10 := ⟨0, s.toNat, false, false, []⟩
/-- The run that right choices tell. -/
def run10 (t : ByteArray) (s : Int) (c : ByteArray) : Option R10 :=
  match readP t.toList with
  | none => none
  | some nd => if isSt s = true ∧ c.size ≤ 40 ∧ (go10 c.data.toList nd (at10 s)).stuck = false ∧ (go10 c.data.toList nd (at10 s)).pos = c.size then some (go10 c.data.toList nd (at10 s)) else none
theorem run10_none {t : ByteArray} (h : readP t.toList = none) (s : Int) (c : ByteArray) : run10 t s c = none := by unfold run10; rw [h]
theorem run10_st {t c : ByteArray} {s : Int} (h : isSt s = false) : run10 t s c = none := by
  unfold run10
  split
  · rfl
  · rw [if_neg (by rw [h]; simp)]
theorem run10_long {t c : ByteArray} {s : Int} (h : 40 < c.size) : run10 t s c = none := by
  unfold run10
  split
  · rfl
  · rw [if_neg (by omega)]
theorem run10_yes {t c : ByteArray} {s : Int} {nd : Node} (hP : readP t.toList = some nd) (hs : isSt s = true) (hc : c.size ≤ 40) {x : R10} (hx : go10 c.data.toList nd (at10 s) = x) : run10 t s c = if x.stuck = false ∧ x.pos = c.size then some x else none := by
  unfold run10
  rw [hP]
  subst hx
  by_cases h : (go10 c.data.toList nd (at10 s)).stuck = false ∧ (go10 c.data.toList nd (at10 s)).pos = c.size
  · simp only
    rw [if_pos h, if_pos ⟨hs, hc, h⟩]
  · simp only
    rw [if_neg h, if_neg (fun q => h q.2.2)]
theorem size_dl (c : ByteArray) : c.data.toList.length = c.size := by rw [Array.length_toList]; rfl
theorem bytes_dl (c : ByteArray) : (⟨c.data.toList.toArray⟩ : ByteArray) = c := by rw [Array.toArray_toList]
/-- How a run from the beginning goes on. -/
theorem run10_went {nd : Node} {t c : ByteArray} {s : Int} (hP : readP t.toList = some nd) (hs : isSt s = true) (hc : c.size ≤ 40) : nd.ok ∧ (go10 c.data.toList nd (at10 s)).tr.length ≤ 1000000 ∧ (at10 s).st < 9 ∧ (go10 c.data.toList nd (at10 s)).st < 9 ∧ (go10 c.data.toList nd (at10 s)).pos ≤ c.size := by
  obtain ⟨hok, hl⟩ := readP_iff.1 hP
  have hw := went_go c.data.toList nd (at10 s)
  have h0 := hw.more
  have h1 := hw.le (Nat.zero_le _)
  rw [size_dl] at h1
  have hsz : nd.size ≤ 60 := Nat.le_trans (size_le_text nd hok) (by rw [← hl.1]; exact hl.2.1)
  have hst : (at10 s).st < 9 := by
    have := of_decide_eq_true hs
    show s.toNat < 9
    omega
  refine ⟨hok, ?_, hst, hw.st hst, h1⟩
  have e1 : (at10 s).pos = 0 := rfl
  have e2 : (at10 s).tr.length = 0 := rfl
  rw [e1, e2] at h0
  have : nd.size * (1 + ((go10 c.data.toList nd (at10 s)).pos - 0)) ≤ 60 * 41 := Nat.mul_le_mul hsz (by omega)
  omega
/-- What a run from a text leaves. -/
def MRun (t : ByteArray) (s : Int) (c : ByteArray) (w : World) (e : Ending) (w' : World) : Prop := Below w.heap.size w w' ∧
  match run10 t s c with
  | none => ∃ v, e = .returned (.tuple #[.pointer v, .bool false])
  | some r => ∃ rb tv, e = .returned (.tuple #[.pointer (some ⟨rb, 0, none⟩), .bool true]) ∧ RnAt w' rb c r tv ∧ IRow w' w.heap.size tv r.tr
theorem mrun_none {t : ByteArray} {s : Int} {c : ByteArray} (h : run10 t s c = none) {w w' : World} {v : Option Addr} (hb : Below w.heap.size w w') : MRun t s c w (.returned (.tuple #[.pointer v, .bool false])) w' := by
  refine ⟨hb, ?_⟩
  rw [h]
  exact ⟨v, rfl⟩
theorem irow_zero (W : World) (B : Nat) (hB : B ≤ W.heap.size) : IRow (W.alloc (.cells #[] 3)) B (.slice (some ⟨W.heap.size, 0, none⟩) 0 0) [] :=
  World.ownsRow_made W #[] 0 hB (Nat.zero_le _) rfl
set_option maxHeartbeats 2000000 in
theorem ml10_none (t c : ByteArray) (ht : t.size ≤ 9000000) (hP : readP t.toList = none) (s : Int) (w : World) :
    Calls Tryd.prog 15 #[.string t, .int .i64 s, .string c] w (MRun t s c w) := by
  have hr := read42 t ht
  have HP := Lib.hid hP
  clear hP
  go_enter Tryd.func15, Tryd.ntmps15
  go_wp2_with (go_at_call 17; refine (hr _).mono ?_; rintro e W1 ⟨hb1, hm⟩; rw [HP.out] at hm; subst hm)
  go_ret2
  exact mrun_none (run10_none HP.out s c) (((hb1.alloc hb1.size _).alloc (by have := hb1.size; simp; omega) _).alloc (by have := hb1.size; simp; omega) _)
set_option maxHeartbeats 2000000 in
theorem ml10_st (t c : ByteArray) (ht : t.size ≤ 9000000) {nd : Node} (hP : readP t.toList = some nd) (s : Int) (hs : isSt s = false) (w : World) :
    Calls Tryd.prog 15 #[.string t, .int .i64 s, .string c] w (MRun t s c w) := by
  have hr := read42 t ht
  have HP := Lib.hid hP
  have HS := Lib.hid hs
  clear hP hs
  go_enter Tryd.func15, Tryd.ntmps15
  go_wp2_with (first
    | (go_at_call 17; refine (hr _).mono ?_; rintro e W1 ⟨hb1, hm⟩; rw [HP.out] at hm; obtain ⟨k1, s1, ad, n, cap, rfl, hnd⟩ := hm)
    | (go_at_call 18; refine (inB40 _ _ _ _).mono ?_; rintro e w' ⟨rfl, rfl⟩; rw [show inB s 0 8 = false from HS.out]))
  go_ret2
  exact mrun_none (run10_st HS.out) (((hb1.alloc hb1.size _).alloc (by have := hb1.size; simp; omega) _).alloc (by have := hb1.size; simp; omega) _)
set_option maxHeartbeats 2000000 in
theorem ml10_long (t c : ByteArray) (ht : t.size ≤ 9000000) {nd : Node} (hP : readP t.toList = some nd) (s : Int) (hs : isSt s = true) (hc : 40 < c.size) (w : World) :
    Calls Tryd.prog 15 #[.string t, .int .i64 s, .string c] w (MRun t s c w) := by
  have hr := read42 t ht
  have HP := Lib.hid hP
  have HS := Lib.hid hs
  have hc1 : (40 : Int) < (c.size : Int) := by omega
  clear hP hs
  go_enter Tryd.func15, Tryd.ntmps15
  go_wp2_with (first
    | (go_at_call 17; refine (hr _).mono ?_; rintro e W1 ⟨hb1, hm⟩; rw [HP.out] at hm; obtain ⟨k1, s1, ad, n, cap, rfl, hnd⟩ := hm)
    | (go_at_call 18; refine (inB40 _ _ _ _).mono ?_; rintro e w' ⟨rfl, rfl⟩; rw [show inB s 0 8 = true from HS.out]))
  go_ret2
  exact mrun_none (run10_long hc) (((hb1.alloc hb1.size _).alloc (by have := hb1.size; simp; omega) _).alloc (by have := hb1.size; simp; omega) _)
set_option maxHeartbeats 4000000 in
theorem ml10_run (t c : ByteArray) (ht : t.size ≤ 9000000) {nd : Node} (hP : readP t.toList = some nd) (s : Int) (hs : isSt s = true) (hc : c.size ≤ 40) (w : World) :
    Calls Tryd.prog 15 #[.string t, .int .i64 s, .string c] w (MRun t s c w) := by
  have hr := read42 t ht
  obtain ⟨hok, htl, hs0, hs1, hpl⟩ := run10_went (t := t) hP hs hc
  have hres := run10_yes (t := t) hP hs hc rfl
  have hgo := mgo10 c.data.toList (by rw [size_dl]; omega) nd hok
  have HP := Lib.hid hP
  have HS := Lib.hid hs
  have hc1 : ¬ (40 : Int) < (c.size : Int) := by omega
  have hss : ((at10 s).st : Int) = s := by
    have := of_decide_eq_true hs
    show ((s.toNat : Nat) : Int) = s
    omega
  clear hP hs
  go_enter Tryd.func15, Tryd.ntmps15
  go_wp2_with (first
    | (go_at_call 17; refine (hr _).mono ?_; rintro e W1 ⟨hb1, hm⟩; rw [HP.out] at hm; obtain ⟨k1, s1, ad, n, cap, rfl, hnd⟩ := hm)
    | (go_at_call 18; refine (inB40 _ _ _ _).mono ?_; rintro e w' ⟨rfl, rfl⟩; rw [show inB s 0 8 = true from HS.out]))
  have hn := hnd
  obtain ⟨V, hV⟩ : ∃ V, V = ((W1.alloc (.cells #[.int .u8 k1, .string s1, .slice ad n cap] 41)).alloc (.cells #[] 3)).alloc (.cells #[.string c, .int .i64 0, .int .i64 s, .int .i64 0, .bool false, .slice (some ⟨W1.heap.size + 1, 0, none⟩) 0 0] 34) := ⟨_, rfl⟩
  have hA : Below W1.heap.size W1 V := by rw [hV]; exact ((((Below.refl _ _).alloc (Nat.le_refl _) _).alloc (by simp) _).alloc (by simp; omega) _)
  have hR : RnAt V (W1.heap.size + 1 + 1) ⟨c.data.toList.toArray⟩ (at10 s) (.slice (some ⟨W1.heap.size + 1, 0, none⟩) 0 0) := by
    have h0 := heap_alloc_new ((W1.alloc (.cells #[.int .u8 k1, .string s1, .slice ad n cap] 41)).alloc (.cells #[] 3)) (.cells #[.string c, .int .i64 0, .int .i64 s, .int .i64 0, .bool false, .slice (some ⟨W1.heap.size + 1, 0, none⟩) 0 0] 34)
    rw [← hV, World.size_alloc, World.size_alloc] at h0
    unfold RnAt
    rw [h0, hss, bytes_dl]
    rfl
  have hI : IRow V W1.heap.size (.slice (some ⟨W1.heap.size + 1, 0, none⟩) 0 0) (at10 s).tr := by
    have h0 := irow_zero (W1.alloc (.cells #[.int .u8 k1, .string s1, .slice ad n cap] 41)) W1.heap.size (by simp)
    rw [World.size_alloc] at h0
    rw [hV]
    exact h0.below ((Below.refl _ _).alloc (Nat.le_refl _) _)
  have hz : V.heap.size = W1.heap.size + 1 + 1 + 1 := by rw [hV]; simp
  have hx := hgo V w.heap.size W1.heap.size k1 s1 ad n cap (W1.heap.size + 1 + 1) W1.heap.size (at10 s) _ (hn.below hA (Nat.le_refl _)) (by omega) (Nat.le_refl _) (by omega) hR hI (Nat.zero_le _) hs0 htl
  rw [← hV]
  generalize go10 c.data.toList nd (at10 s) = x at *
  refine hx.mono ?_
  rintro e W2 ⟨rfl, tv2, hR2, hI2, hF2⟩
  have hb2 : Below w.heap.size w W2 := (hb1.trans (hA.mono hb1.size)).trans (hF2.below (by have := hb1.size; omega) (fun k e => by have := hI.own k e; have := hb1.size; omega) (by have := hb1.size; omega))
  rw [bytes_dl] at hR2
  obtain ⟨a0, a1, a2, a3, a4, a5⟩ := hR2.cells
  have HR := Lib.hid hres
  have HN := Lib.hid (show IRow W2 w.heap.size tv2 x.tr from hI2.mono hb1.size)
  have hp40 : (x.pos : Int) ≤ 40 := by omega
  clear hV hA hR hI hz hx hgo hnd hn hF2 hb1 hres
  cases hst : x.stuck with
  | true =>
    rw [hst] at a4
    go_wp2_with fail
    go_quiet (fail)
    go_wp2_with fail
    go_ret2
    exact mrun_none (by rw [HR.out, if_neg (by rw [hst]; simp)]) (below_drewN hb2 _)
  | false =>
    rw [hst] at a4
    by_cases hq : x.pos = c.size
    · have hqi : ((x.pos : Int) == (c.size : Int)) = true := by simp; omega
      go_wp2_with fail
      go_quiet (fail)
      go_wp2_with fail
      go_ret2
      refine ⟨below_drewN hb2 _, ?_⟩
      rw [HR.out, if_pos ⟨hst, hq⟩]
      exact ⟨_, tv2, rfl, hR2, HN.out⟩
    · have hqi : ((x.pos : Int) == (c.size : Int)) = false := by simp; omega
      go_wp2_with fail
      go_quiet (fail)
      go_wp2_with fail
      go_ret2
      exact mrun_none (by rw [HR.out, if_neg (fun h => hq h.2)]) (below_drewN hb2 _)
theorem ml10 (t c : ByteArray) (ht : t.size ≤ 9000000) (s : Int) (w : World) :
    Calls Tryd.prog 15 #[.string t, .int .i64 s, .string c] w (MRun t s c w) := by
  cases hP : readP t.toList with
  | none => exact ml10_none t c ht hP s w
  | some nd =>
    cases hs : isSt s with
    | false => exact ml10_st t c ht hP s hs w
    | true =>
      by_cases hc : c.size ≤ 40
      · exact ml10_run t c ht hP s hs hc w
      · exact ml10_long t c ht hP s hs (by omega) w
end Go.Proofs.YtfoifcbpognjaaaDoor

