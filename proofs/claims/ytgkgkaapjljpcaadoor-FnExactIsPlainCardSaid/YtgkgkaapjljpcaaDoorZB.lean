/- Chapter 11, the program: its rules for one kind of program, and the first one that fits. -/
import Derived.Test.YtgkgkaapjljpcaaDoorNC
import Derived.Test.YtgkgkaapjljpcaaDoorZA
namespace Go.Proofs.YtgkgkaapjljpcaaDoor
open Go.ChangeShapes Go.WideShapes Go.ChangeAt Go.RowKit Go.Shelf
attribute [local go_sem] Oper.semAt_some
set_option maxRecDepth 100000

/-- What a rule answers: what a program becomes, and whether it fits. -/
def Fits (r : Option Node) (W : World) (e : Ending) (W' : World) : Prop := Below W.heap.size W W' ∧
  match r with
  | some n => e = .returned (.tuple #[nodeV n, .bool true])
  | none => ∃ x, e = .returned (.tuple #[x, .bool false])
def r1N (p q : Node) : Option Node := if isA p 46 = true then some q else if isA q 46 = true then some p else none
def r2N (p : Node) : Option Node := if isA p 33 = true then some p else none
def r3N (p q : Node) : Option Node := if testN p = true ∧ p.text = q.text then some p else none
def r4N (p q : Node) : Option Node := if overN p q = true then some q else none
/-- The first of two that there is. -/
def orN (a b : Option Node) : Option Node := match a with
  | some x => some x
  | none => b
theorem topSeq_or (p q : Node) : topSeq p q = orN (r1N p q) (orN (r2N p) (orN (r3N p q) (orN (r4N p q) (leanN p q)))) := by
  unfold topSeq r1N r2N r3N r4N
  split
  · rfl
  · split
    · rfl
    · split
      · rfl
      · split
        · rfl
        · split
          · rfl
          · rfl

theorem kind_dot {nd : Node} (h : nd.ok) {c : UInt8} (hc : c = 46 ∨ c = 33) : (kindN nd == [c]) = isA nd c := by
  cases nd with
  | atom a => rfl
  | loop p => rcases hc with rfl | rfl <;> rfl
  | pair k p q => obtain ⟨rfl | rfl, _, _⟩ := h <;> rcases hc with rfl | rfl <;> rfl

theorem two_new {T U : TypeId} {x y : Value} {w : World} {t : TypeId} : (w.alloc (.cells #[.iface T x, .iface U y] t)).cell? ⟨w.heap.size, 0, none⟩ = some (.iface T x) ∧ (w.alloc (.cells #[.iface T x, .iface U y] t)).cell? ⟨w.heap.size, 1, none⟩ = some (.iface U y) := by
  have n0 := heap_alloc_new w (.cells #[.iface T x, .iface U y] t)
  exact ⟨by rw [cell_of_row _ w.heap.size 0 _ t (0, 0) n0]; rfl, by rw [cell_of_row _ w.heap.size 1 _ t (0, 0) n0]; rfl⟩
set_option maxHeartbeats 2000000 in
theorem rule1 (p q : Node) (hp : p.ok) (hq : q.ok) (w : World) :
    Calls Tryd.prog 71 #[.agg #[nodeV p, nodeV q]] w (Fits (r1N p q) w) := by
  have hkp := pkindN p hp
  have hkq := pkindN q hq
  have e1 := kind_dot hp (c := 46) (.inl rfl)
  have e2 := kind_dot hq (c := 46) (.inl rfl)
  obtain ⟨T, x, hv⟩ := nodeV_iface p
  obtain ⟨U, y, hv2⟩ := nodeV_iface q
  have HV := Lib.hid hv
  have HV2 := Lib.hid hv2
  unfold Fits r1N
  rw [hv, hv2]
  rw [hv] at hkp
  rw [hv2] at hkq
  clear hv hv2
  generalize kindN p = kp at hkp e1
  generalize kindN q = kq at hkq e2
  obtain ⟨c0, c1⟩ := @two_new T U x y w 107
  have hA : Below w.heap.size w (w.alloc (.cells #[.iface T x, .iface U y] 107)) := (Below.refl _ _).alloc (Nat.le_refl _) _
  have hsz : w.heap.size < (w.alloc (.cells #[.iface T x, .iface U y] 107)).heap.size := by simp
  cases h1 : isA p 46 with
  | true =>
    rw [h1] at e1
    go_enter Tryd.func71, Tryd.ntmps71
    go_wp2_with (go_at_call 103; refine (hkp _).mono ?_; rintro e W1 ⟨rfl, hb1⟩; have d1 := (hb1.cell (p := ⟨w.heap.size, 1, none⟩) hsz).trans c1)
    go_ret2
    exact ⟨hA.trans (hb1.mono hA.size), congrArg (fun z => Ending.returned (.tuple #[z, .bool true])) HV2.out.symm⟩
  | false =>
    rw [h1] at e1
    cases h2 : isA q 46 with
    | true =>
      rw [h2] at e2
      go_enter Tryd.func71, Tryd.ntmps71
      go_wp2_with (go_at_call 103; refine (hkp _).mono ?_; rintro e W1 ⟨rfl, hb1⟩; have d1 := (hb1.cell (p := ⟨w.heap.size, 1, none⟩) hsz).trans c1; have d0 := (hb1.cell (p := ⟨w.heap.size, 0, none⟩) hsz).trans c0; have hsz2 := Nat.lt_of_lt_of_le hsz hb1.size)
      go_region_with (go_at_call 103; refine (hkq _).mono ?_; rintro e W2 ⟨rfl, hb2⟩; have k1 := (hb2.cell (p := ⟨w.heap.size, 1, none⟩) hsz2).trans d1; have k0 := (hb2.cell (p := ⟨w.heap.size, 0, none⟩) hsz2).trans d0)
      all_goals go_wp2_with fail
      all_goals go_ret2
      all_goals
        have hW := hA.trans (hb1.mono hA.size)
        have hE : Below w.heap.size w W2 := by first | exact hW.trans (hb2.mono hW.size) | exact hW.drew.trans (hb2.mono hW.size) | exact hW.drew.drew.trans (hb2.mono hW.size)
        first | exact ⟨hE, congrArg (fun z => Ending.returned (.tuple #[z, .bool true])) HV.out.symm⟩ | exact ⟨hE.drew, congrArg (fun z => Ending.returned (.tuple #[z, .bool true])) HV.out.symm⟩
    | false =>
      rw [h2] at e2
      go_enter Tryd.func71, Tryd.ntmps71
      go_wp2_with (go_at_call 103; refine (hkp _).mono ?_; rintro e W1 ⟨rfl, hb1⟩; have d1 := (hb1.cell (p := ⟨w.heap.size, 1, none⟩) hsz).trans c1; have d0 := (hb1.cell (p := ⟨w.heap.size, 0, none⟩) hsz).trans c0; have hsz2 := Nat.lt_of_lt_of_le hsz hb1.size)
      go_region_with (go_at_call 103; refine (hkq _).mono ?_; rintro e W2 ⟨rfl, hb2⟩; have k1 := (hb2.cell (p := ⟨w.heap.size, 1, none⟩) hsz2).trans d1; have k0 := (hb2.cell (p := ⟨w.heap.size, 0, none⟩) hsz2).trans d0)
      all_goals go_wp2_with fail
      all_goals go_ret2
      all_goals
        have hW := hA.trans (hb1.mono hA.size)
        have hE : Below w.heap.size w W2 := by first | exact hW.trans (hb2.mono hW.size) | exact hW.drew.trans (hb2.mono hW.size) | exact hW.drew.drew.trans (hb2.mono hW.size)
        first | exact ⟨hE, _, rfl⟩ | exact ⟨hE.drew, _, rfl⟩

set_option maxHeartbeats 2000000 in
theorem rule2 (p q : Node) (hp : p.ok) (w : World) :
    Calls Tryd.prog 72 #[.agg #[nodeV p, nodeV q]] w (Fits (r2N p) w) := by
  have hkp := pkindN p hp
  have e1 := kind_dot hp (c := 33) (.inr rfl)
  obtain ⟨T, x, hv⟩ := nodeV_iface p
  obtain ⟨U, y, hv2⟩ := nodeV_iface q
  have HV := Lib.hid hv
  unfold Fits r2N
  rw [hv, hv2]
  rw [hv] at hkp
  clear hv hv2
  generalize kindN p = kp at hkp e1
  obtain ⟨c0, c1⟩ := @two_new T U x y w 107
  have hA : Below w.heap.size w (w.alloc (.cells #[.iface T x, .iface U y] 107)) := (Below.refl _ _).alloc (Nat.le_refl _) _
  have hsz : w.heap.size < (w.alloc (.cells #[.iface T x, .iface U y] 107)).heap.size := by simp
  cases h1 : isA p 33 with
  | true =>
    rw [h1] at e1
    go_enter Tryd.func72, Tryd.ntmps72
    go_wp2_with fail
    go_region_with (go_at_call 103; refine (hkp _).mono ?_; rintro e W1 ⟨rfl, hb1⟩; have d0 := (hb1.cell (p := ⟨w.heap.size, 0, none⟩) hsz).trans c0)
    all_goals go_wp2_with fail
    all_goals go_ret2
    all_goals
      have hE : Below w.heap.size w W1 := by first | exact hA.trans (hb1.mono hA.size) | exact hA.drew.trans (hb1.mono hA.size) | exact hA.drew.drew.trans (hb1.mono hA.size)
      first | exact ⟨hE, congrArg (fun z => Ending.returned (.tuple #[z, .bool true])) HV.out.symm⟩ | exact ⟨hE.drew, congrArg (fun z => Ending.returned (.tuple #[z, .bool true])) HV.out.symm⟩
  | false =>
    rw [h1] at e1
    go_enter Tryd.func72, Tryd.ntmps72
    go_wp2_with fail
    go_region_with (go_at_call 103; refine (hkp _).mono ?_; rintro e W1 ⟨rfl, hb1⟩; have d0 := (hb1.cell (p := ⟨w.heap.size, 0, none⟩) hsz).trans c0)
    all_goals go_wp2_with fail
    all_goals go_ret2
    all_goals
      have hE : Below w.heap.size w W1 := by first | exact hA.trans (hb1.mono hA.size) | exact hA.drew.trans (hb1.mono hA.size) | exact hA.drew.drew.trans (hb1.mono hA.size)
      first | exact ⟨hE, _, rfl⟩ | exact ⟨hE.drew, _, rfl⟩

/-! ### Is it a test -/
theorem kind_pos {nd : Node} (h : nd.ok) : ∃ c r, kindN nd = c :: r ∧ testN nd = (c == 91) := by
  cases nd with
  | atom a =>
    cases a with
    | nil =>
      exfalso
      rcases h with h | h | h | ⟨t, _, h⟩
      · cases h
      · cases h
      · revert h; decide
      · cases h
    | cons c r => exact ⟨c, r, rfl, rfl⟩
  | loop p => exact ⟨123, [], rfl, rfl⟩
  | pair k p q => obtain ⟨rfl | rfl, _, _⟩ := h <;> exact ⟨_, [], rfl, rfl⟩
theorem first_byte (c : UInt8) (r : List UInt8) (h : 0 < (⟨(c :: r).toArray⟩ : ByteArray).size) : (⟨(c :: r).toArray⟩ : ByteArray)[0]'h = c := rfl
theorem byte_eq (c d : UInt8) : ((c.toNat : Int) == (d.toNat : Int)) = (c == d) := by
  rw [Bool.eq_iff_iff, beq_iff_eq, beq_iff_eq]
  exact ⟨fun h => UInt8.toNat_inj.1 (by omega), fun h => by rw [h]⟩
theorem ptest (nd : Node) (hok : nd.ok) (w : World) : Calls Tryd.prog 104 #[nodeV nd] w fun e w' => e = .returned (.bool (testN nd)) ∧ Below w.heap.size w w' := by
  have hk := pkindN nd hok
  obtain ⟨c, r, e1, e2⟩ := kind_pos hok
  rw [e2]
  rw [e1] at hk
  obtain ⟨T, x, hv⟩ := nodeV_iface nd
  rw [hv] at hk ⊢
  have e3 := first_byte c r
  go_enter Tryd.func104, Tryd.ntmps104
  go_wp2_with (go_at_call 103; refine (hk _).mono ?_; rintro e W1 ⟨rfl, hb1⟩)
  go_ret
  exact ⟨congrArg (fun b => Ending.returned (.bool b)) (byte_eq c 91), hb1⟩
end Go.Proofs.YtgkgkaapjljpcaaDoor

