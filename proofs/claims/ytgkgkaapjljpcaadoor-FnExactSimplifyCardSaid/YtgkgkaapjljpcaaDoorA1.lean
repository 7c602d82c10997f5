/- The tests' comparisons: the table of function values, the sides of a test, and where a test holds. Where a test holds: the program's own function and the model's, over the nine states. Where a test holds, by the model. -/
import Derived.Test.YtgkgkaapjljpcaaDoorBase1
import Derived.Maps.OwnOps
import Derived.Maps.OwnSet
namespace Go.Proofs.YtgkgkaapjljpcaaDoor
open Go.ChangeShapes Go.WideShapes Go.ChangeAt Go.RowKit Go.Shelf Go.Maps
set_option maxRecDepth 100000
attribute [local go_sem] Oper.semAt_some

/-- What a side of a test is in a state: a variable's value, or the digit. -/
def sideV (c : Int) (x y : Int) : Int := if c = 120 then x else if c = 121 then y else c - 48

theorem valueOf54 (x y c : Int) (c0 : 0 ≤ c) (c1 : c ≤ 255) (w : World) :
    Calls Tryd.prog 140 #[.agg #[.int .i64 x, .int .i64 y], .int .u8 c] w fun e w' => e = .returned (.int .i64 (sideV c x y)) ∧ Below w.heap.size w w' := by
  by_cases h1 : c = 120
  · subst h1
    go_enter Tryd.func140, Tryd.ntmps140
    go_wp2
    go_ret
    exact ⟨rfl, (Below.refl _ _).alloc (Nat.le_refl _) _⟩
  · by_cases h2 : c = 121
    · subst h2
      go_enter Tryd.func140, Tryd.ntmps140
      go_wp2
      go_ret
      exact ⟨rfl, (Below.refl _ _).alloc (Nat.le_refl _) _⟩
    · have e1 : (c == 120) = false := by simpa using h1
      have e2 : (c == 121) = false := by simpa using h2
      have e3 : sideV c x y = c - 48 := by unfold sideV; rw [if_neg h1, if_neg h2]
      rw [e3]
      clear e3
      go_enter Tryd.func140, Tryd.ntmps140
      go_wp2
      go_ret
      exact ⟨rfl, (Below.refl _ _).alloc (Nat.le_refl _) _⟩

theorem value58 (c s : Int) (c0 : 0 ≤ c) (c1 : c ≤ 255) (s0 : 0 ≤ s) (s8 : s ≤ 8) (w : World) :
    Calls Tryd.prog 120 #[.int .u8 c, .int .i64 s] w fun e w' => e = .returned (.int .i64 (sideV c (s / 3) (s % 3))) ∧ w = w' := by
  by_cases h1 : c = 120
  · subst h1
    go_enter Tryd.func120, Tryd.ntmps120
    go_wp2
    go_ret
    exact ⟨rfl, rfl⟩
  · by_cases h2 : c = 121
    · subst h2
      go_enter Tryd.func120, Tryd.ntmps120
      go_wp2
      go_ret
      exact ⟨rfl, rfl⟩
    · have e1 : (c == 120) = false := by simpa using h1
      have e2 : (c == 121) = false := by simpa using h2
      have e3 : sideV c (s / 3) (s % 3) = c - 48 := by unfold sideV; rw [if_neg h1, if_neg h2]
      rw [e3]
      clear e3
      go_enter Tryd.func120, Tryd.ntmps120
      go_wp2
      go_ret
      exact ⟨rfl, rfl⟩

theorem eq60 (a b : Int) (w : World) : Calls Tryd.prog 145 #[.int .i64 a, .int .i64 b] w fun e w' => e = .returned (.bool (a == b)) ∧ w = w' := by
  go_enter Tryd.func145, Tryd.ntmps145
  go_wp2
  go_ret
  exact ⟨rfl, rfl⟩
theorem ne61 (a b : Int) (w : World) : Calls Tryd.prog 146 #[.int .i64 a, .int .i64 b] w fun e w' => e = .returned (.bool (a != b)) ∧ w = w' := by
  go_enter Tryd.func146, Tryd.ntmps146
  go_wp2
  go_ret
  exact ⟨rfl, rfl⟩
theorem lt62 (a b : Int) (w : World) : Calls Tryd.prog 147 #[.int .i64 a, .int .i64 b] w fun e w' => e = .returned (.bool (decide (a < b))) ∧ w = w' := by
  go_enter Tryd.func147, Tryd.ntmps147
  go_wp2
  go_ret
  exact ⟨rfl, rfl⟩

/-- How a function of the program reads that captures nothing: by its number. -/
def funElem (v : Value) : Option (DataW Unit × List MemPlace) :=
  match v with
  | .func (.func f) a b => if a = #[] ∧ b = #[] then some (.lit (.int .i64 f), []) else none
  | .nilFunc => some (.nil, [])
  | _ => none

theorem funElem_mk (f : Nat) : funElem (.func (.func f) #[] #[]) = some (.lit (.int .i64 f), []) := by simp [funElem]
theorem funElem_inv {v : Value} {z : Int} {ps : List MemPlace} (h : funElem v = some (.lit (.int .i64 z), ps)) : ∃ f : Nat, v = .func (.func f) #[] #[] ∧ z = (f : Int) := by
  unfold funElem at h
  split at h
  · split at h
    · rename_i hc
      obtain ⟨rfl, rfl⟩ := hc
      simp at h
      exact ⟨_, rfl, h.1.symm⟩
    · cases h
  · simp at h
  · cases h

theorem lawU8 : Keyed Tryd.prog 5 := int_keyed Tryd.underlying5

/-- The table of comparisons, as it reads. -/
def cmpD : DataW Unit := (((DataW.map []).put (.int .u8 61) (.lit (.int .i64 145))).put (.int .u8 35) (.lit (.int .i64 146))).put (.int .u8 60) (.lit (.int .i64 147))

theorem comparisons52 (w : World) :
    Calls Tryd.prog 138 #[] w fun e w' => e = .returned (.map (some w.heap.size)) ∧ w'.ownsMap Tryd.prog 5 funElem w.heap.size 3 cmpD ∧ Below w.heap.size w w' := by
  have hmm := @run_makeMap Tryd.prog
  have h0 := World.ownsMap_made w Tryd.prog 5 funElem
  obtain ⟨w1, r1, h1, g1⟩ := h0.update lawU8 Tryd.underlying179 (by unfold maxLen; omega) (key := .int .u8 61) (keyOf_int_mk Tryd.underlying5 (by decide)) (funElem_mk 145)
  obtain ⟨w2, r2, h2, g2⟩ := h1.update lawU8 Tryd.underlying179 (by unfold maxLen; omega) (key := .int .u8 35) (keyOf_int_mk Tryd.underlying5 (by decide)) (funElem_mk 146)
  obtain ⟨w3, r3, h3, g3⟩ := h2.update lawU8 Tryd.underlying179 (by unfold maxLen; omega) (key := .int .u8 60) (keyOf_int_mk Tryd.underlying5 (by decide)) (funElem_mk 147)
  have s1 : w.heap.size ≤ w1.heap.size := Nat.le_trans (by simp) g1.size
  have s2 : w.heap.size ≤ w2.heap.size := Nat.le_trans s1 g2.size
  go_enter Tryd.func138, Tryd.ntmps138
  go_wp2
  go_ret
  exact ⟨rfl, h3, ((((Below.refl _ w).alloc (Nat.le_refl _) _).grown g1 (by simp) (fun j e => by cases e; exact Nat.le_refl _)).grown g2 s1 (fun j e => by cases e; exact Nat.le_refl _)).grown g3 s2 (fun j e => by cases e; exact Nat.le_refl _)⟩

theorem zero66 (w : World) : (zeroValue 178).run Tryd.prog w = .ok .nilFunc w := by kernel_rfl

/-- What stands at a sign. -/
theorem cmp_at {W : World} {b : Nat} (h : W.ownsMap Tryd.prog 5 funElem b 3 cmpD) (c : Int) (f : Nat) (hc : (c = 61 ∧ f = 145) ∨ (c = 35 ∧ f = 146) ∨ (c = 60 ∧ f = 147)) :
    (Instr.lookup 179 (.map (some b)) (.int .u8 c) false).run Tryd.prog W = .ok (.func (.func f) #[] #[]) W := by
  have hw : (Lit.int .u8 c).wf = true := by rcases hc with ⟨rfl, _⟩ | ⟨rfl, _⟩ | ⟨rfl, _⟩ <;> decide
  obtain ⟨v, ps, hrun, hv⟩ := h.lookup lawU8 Tryd.underlying179 (zero66 W) (show funElem .nilFunc = some (.nil, []) by rfl) (key := .int .u8 c) (keyOf_int_mk Tryd.underlying5 hw)
  have hd : cmpD.atKey (.int .u8 c) .nil = .lit (.int .i64 f) := by rcases hc with ⟨rfl, rfl⟩ | ⟨rfl, rfl⟩ | ⟨rfl, rfl⟩ <;> rfl
  rw [hd] at hv
  obtain ⟨g, rfl, hg⟩ := funElem_inv hv
  have : g = f := by omega
  subst this
  exact hrun
end Go.Proofs.YtgkgkaapjljpcaaDoor

namespace Go.Proofs.YtgkgkaapjljpcaaDoor
open Go.ChangeShapes Go.WideShapes Go.ChangeAt Go.RowKit Go.Shelf Go.Maps
set_option maxRecDepth 100000
attribute [local go_sem] Oper.semAt_some

/-- Does a test (its three bytes) hold in a state. -/
def holdsB (c0 c1 c2 : Int) (s : Nat) : Bool :=
  if c1 = 61 then sideV c0 ((s : Int) / 3) ((s : Int) % 3) == sideV c2 ((s : Int) / 3) ((s : Int) % 3)
  else if c1 = 35 then sideV c0 ((s : Int) / 3) ((s : Int) % 3) != sideV c2 ((s : Int) / 3) ((s : Int) % 3)
  else decide (sideV c0 ((s : Int) / 3) ((s : Int) % 3) < sideV c2 ((s : Int) / 3) ((s : Int) % 3))
/-- The set of the states below k in which it holds. -/
def whereB (c0 c1 c2 : Int) : Nat → Int
  | 0 => 0
  | k + 1 => if holdsB c0 c1 c2 k = true then bits .or .i64 (whereB c0 c1 c2 k) (2 ^ k) else whereB c0 c1 c2 k
theorem where_hit {c0 c1 c2 : Int} {k : Nat} (h : holdsB c0 c1 c2 k = true) : whereB c0 c1 c2 (k + 1) = bits .or .i64 (whereB c0 c1 c2 k) (2 ^ k) := by rw [whereB, if_pos h]
theorem where_miss {c0 c1 c2 : Int} {k : Nat} (h : holdsB c0 c1 c2 k = false) : whereB c0 c1 c2 (k + 1) = whereB c0 c1 c2 k := by rw [whereB, if_neg (by simp [h])]

theorem pow_bd9 : ∀ z : Fin 9, (0 : Int) ≤ 2 ^ z.val ∧ (2 : Int) ^ z.val ≤ 256 := by decide

theorem with55 (n : Int) (i : Nat) (i8 : i ≤ 8) (W : World) :
    Calls Tryd.prog 127 #[.int .i64 n, .int .i64 (i : Int)] W fun e W' => e = .returned (.int .i64 (bits .or .i64 n (2 ^ i))) ∧ W = W' := by
  have z0 : (0 : Int) ≤ (i : Int) := by omega
  have z8 : (i : Int) ≤ 8 := by omega
  have tz0 := (pow_bd9 ⟨i, by omega⟩).1
  have tz1 := (pow_bd9 ⟨i, by omega⟩).2
  dsimp only at tz0 tz1
  go_enter Tryd.func127, Tryd.ntmps127
  go_wp2
  go_ret
  exact ⟨rfl, rfl⟩

/-- Behind the making of a state's values: they lie at block g; nothing that was there is written. -/
def Mid (w : World) (g : Nat) (x y : Int) (W : World) : Prop :=
  Below w.heap.size w W ∧ g < W.heap.size ∧ W.cell? ⟨g, 0, none⟩ = some (.int .i64 x) ∧ W.cell? ⟨g, 1, none⟩ = some (.int .i64 y)
theorem Mid.next {w W W' : World} {g : Nat} {x y : Int} (h : Mid w g x y W) (hb : Below W.heap.size W W') : Mid w g x y W' :=
  ⟨h.1.trans (hb.mono h.1.size), Nat.lt_of_lt_of_le h.2.1 hb.size, (hb.cell (p := ⟨g, 0, none⟩) h.2.1).trans h.2.2.1, (hb.cell (p := ⟨g, 1, none⟩) h.2.1).trans h.2.2.2⟩
theorem Mid.drew {w W : World} {g : Nat} {x y : Int} (h : Mid w g x y W) : Mid w g x y W.drew := ⟨h.1.drew, h.2.1, h.2.2.1, h.2.2.2⟩
theorem Mid.made {w wr w2 : World} (hB : Below w.heap.size w wr) (hb : Below wr.heap.size wr w2) (x y : Int) :
    Mid w w2.heap.size x y (w2.alloc (.cells #[.int .i64 x, .int .i64 y] 182)) :=
  ⟨(hB.trans (hb.mono hB.size)).alloc (Nat.le_trans hB.size hb.size) _, by simp, by rw [cell_of_row _ w2.heap.size 0 _ 182 (0, 0) (heap_alloc_new w2 _)]; rfl, by rw [cell_of_row _ w2.heap.size 1 _ 182 (0, 0) (heap_alloc_new w2 _)]; rfl⟩

set_option maxHeartbeats 1000000 in
theorem sot_eq (c0 c2 : UInt8) (w : World) :
    Calls Tryd.prog 133 #[.string ⟨#[c0, 61, c2]⟩] w fun e w' => e = .returned (.int .i64 (whereB c0.toNat 61 c2.toNat 9)) ∧ Below w.heap.size w w' := by
  have a0 : (0 : Int) ≤ (c0.toNat : Int) := by omega
  have a1 : (c0.toNat : Int) ≤ 255 := by have := c0.toNat_lt; omega
  have b0 : (0 : Int) ≤ (c2.toNat : Int) := by omega
  have b1 : (c2.toNat : Int) ≤ 255 := by have := c2.toNat_lt; omega
  have hA : ∀ h : 0 < (⟨#[c0, 61, c2]⟩ : ByteArray).size, (⟨#[c0, 61, c2]⟩ : ByteArray)[0]'h = c0 := fun _ => rfl
  have hB : ∀ h : 1 < (⟨#[c0, 61, c2]⟩ : ByteArray).size, (⟨#[c0, 61, c2]⟩ : ByteArray)[1]'h = 61 := fun _ => rfl
  have hC : ∀ h : 2 < (⟨#[c0, 61, c2]⟩ : ByteArray).size, (⟨#[c0, 61, c2]⟩ : ByteArray)[2]'h = c2 := fun _ => rfl
  go_enter Tryd.func133, Tryd.ntmps133
  go_wp2_with fail
  go_region_with (first | (go_at_call 138; refine (comparisons52 _).mono ?_; rintro e w1 ⟨rfl, hm1, hb1⟩; have hlk : (Instr.lookup 179 (.map (some w.heap.size)) (.int .u8 61) false).run Tryd.prog w1 = .ok (.func (.func 145) #[] #[]) w1 := cmp_at hm1 _ _ (.inl ⟨rfl, rfl⟩)))
  all_goals go_wp2
  all_goals (
    go_loopw [4, 11] (fun s i wr => ∃ k : Nat, k ≤ 9 ∧ i = .int .i64 k ∧ s = .int .i64 (whereB c0.toNat 61 c2.toNat k) ∧ Below w.heap.size w wr) (fun _ i _ => 9 - (intOf i).toNat)
    case atStart => exact ⟨0, by omega, rfl, rfl, (Below.refl _ _).drew.trans hb1⟩
    case round =>
      obtain ⟨k, hk, rfl, rfl, hB2⟩ := hrel
      by_cases hlt : k < 9
      · have k0 : (0 : Int) ≤ (k : Int) := by omega
        have k8 : (k : Int) ≤ 8 := by omega
        go_wp2_with (go_at_call 139; refine (vi41 _ _ k0 k8).mono ?_; rintro e w2 ⟨rfl, hb2⟩)
        have hM := Mid.made hB2 hb2 ((k : Int) / 3) ((k : Int) % 3)
        obtain ⟨g, hg⟩ : ∃ g, g = w2.heap.size := ⟨_, rfl⟩
        obtain ⟨U, hU⟩ : ∃ U, U = w2.alloc (.cells #[.int .i64 ((k : Int) / 3), .int .i64 ((k : Int) % 3)] 182) := ⟨_, rfl⟩
        rw [← hU, ← hg] at hM ⊢
        have hx := hM.2.2.1
        have hy := hM.2.2.2
        have hMd := hM.drew
        clear hU hg
        cases hh : holdsB c0.toNat 61 c2.toNat k with
        | true =>
          have he : (sideV c0.toNat ((k : Int) / 3) ((k : Int) % 3) == sideV c2.toNat ((k : Int) / 3) ((k : Int) % 3)) = true := hh
          have hu := Lib.hid (where_hit hh)
          clear hh
          go_region_held3 (fun w' => w'.cell? ⟨g, 0, none⟩ = some (.int .i64 ((k : Int) / 3)) ∧ w'.cell? ⟨g, 1, none⟩ = some (.int .i64 ((k : Int) % 3))) (first | exact ⟨hx3, hy3⟩ | exact ⟨hx, hy⟩ | go_keep) (first | (go_at_call 140; refine (valueOf54 _ _ _ (by assumption) (by assumption) _).mono ?_; rintro e w3 ⟨rfl, hb3⟩; have hM3 := Mid.next (by first | exact hMd | assumption) hb3; have hx3 := hM3.2.2.1; have hy3 := hM3.2.2.2) | (go_at_call 145; refine (eq60 _ _ _).mono ?_; rintro e w3 ⟨rfl, rfl⟩))
          all_goals go_wp2_with (go_at_call 127; refine (with55 _ k (by omega) _).mono ?_; rintro e w4 ⟨rfl, rfl⟩)
          all_goals
            go_roundw
            case rel => exact ⟨k + 1, by omega, by go_num, by rw [hu.out], hM3.1⟩
            case measure => simp [intOf]; omega
        | false =>
          have he : (sideV c0.toNat ((k : Int) / 3) ((k : Int) % 3) == sideV c2.toNat ((k : Int) / 3) ((k : Int) % 3)) = false := hh
          have hu := Lib.hid (where_miss hh)
          clear hh
          go_region_held3 (fun w' => w'.cell? ⟨g, 0, none⟩ = some (.int .i64 ((k : Int) / 3)) ∧ w'.cell? ⟨g, 1, none⟩ = some (.int .i64 ((k : Int) % 3))) (first | exact ⟨hx3, hy3⟩ | exact ⟨hx, hy⟩ | go_keep) (first | (go_at_call 140; refine (valueOf54 _ _ _ (by assumption) (by assumption) _).mono ?_; rintro e w3 ⟨rfl, hb3⟩; have hM3 := Mid.next (by first | exact hMd | assumption) hb3; have hx3 := hM3.2.2.1; have hy3 := hM3.2.2.2) | (go_at_call 145; refine (eq60 _ _ _).mono ?_; rintro e w3 ⟨rfl, rfl⟩))
          all_goals go_wp2
          all_goals
            go_roundw
            case rel => exact ⟨k + 1, by omega, by go_num, by rw [hu.out], hM3.1⟩
            case measure => simp [intOf]; omega
      · obtain rfl : k = 9 := by omega
        go_wp2
        go_ret
        exact ⟨rfl, hB2⟩)

set_option maxHeartbeats 1000000 in
theorem sot_ne (c0 c2 : UInt8) (w : World) :
    Calls Tryd.prog 133 #[.string ⟨#[c0, 35, c2]⟩] w fun e w' => e = .returned (.int .i64 (whereB c0.toNat 35 c2.toNat 9)) ∧ Below w.heap.size w w' := by
  have a0 : (0 : Int) ≤ (c0.toNat : Int) := by omega
  have a1 : (c0.toNat : Int) ≤ 255 := by have := c0.toNat_lt; omega
  have b0 : (0 : Int) ≤ (c2.toNat : Int) := by omega
  have b1 : (c2.toNat : Int) ≤ 255 := by have := c2.toNat_lt; omega
  have hA : ∀ h : 0 < (⟨#[c0, 35, c2]⟩ : ByteArray).size, (⟨#[c0, 35, c2]⟩ : ByteArray)[0]'h = c0 := fun _ => rfl
  have hB : ∀ h : 1 < (⟨#[c0, 35, c2]⟩ : ByteArray).size, (⟨#[c0, 35, c2]⟩ : ByteArray)[1]'h = 35 := fun _ => rfl
  have hC : ∀ h : 2 < (⟨#[c0, 35, c2]⟩ : ByteArray).size, (⟨#[c0, 35, c2]⟩ : ByteArray)[2]'h = c2 := fun _ => rfl
  go_enter Tryd.func133, Tryd.ntmps133
  go_wp2_with fail
  go_region_with (first | (go_at_call 138; refine (comparisons52 _).mono ?_; rintro e w1 ⟨rfl, hm1, hb1⟩; have hlk : (Instr.lookup 179 (.map (some w.heap.size)) (.int .u8 35) false).run Tryd.prog w1 = .ok (.func (.func 146) #[] #[]) w1 := cmp_at hm1 _ _ (.inr (.inl ⟨rfl, rfl⟩))))
  all_goals go_wp2
  all_goals (
    go_loopw [4, 11] (fun s i wr => ∃ k : Nat, k ≤ 9 ∧ i = .int .i64 k ∧ s = .int .i64 (whereB c0.toNat 35 c2.toNat k) ∧ Below w.heap.size w wr) (fun _ i _ => 9 - (intOf i).toNat)
    case atStart => exact ⟨0, by omega, rfl, rfl, (Below.refl _ _).drew.trans hb1⟩
    case round =>
      obtain ⟨k, hk, rfl, rfl, hB2⟩ := hrel
      by_cases hlt : k < 9
      · have k0 : (0 : Int) ≤ (k : Int) := by omega
        have k8 : (k : Int) ≤ 8 := by omega
        go_wp2_with (go_at_call 139; refine (vi41 _ _ k0 k8).mono ?_; rintro e w2 ⟨rfl, hb2⟩)
        have hM := Mid.made hB2 hb2 ((k : Int) / 3) ((k : Int) % 3)
        obtain ⟨g, hg⟩ : ∃ g, g = w2.heap.size := ⟨_, rfl⟩
        obtain ⟨U, hU⟩ : ∃ U, U = w2.alloc (.cells #[.int .i64 ((k : Int) / 3), .int .i64 ((k : Int) % 3)] 182) := ⟨_, rfl⟩
        rw [← hU, ← hg] at hM ⊢
        have hx := hM.2.2.1
        have hy := hM.2.2.2
        have hMd := hM.drew
        clear hU hg
        cases hh : holdsB c0.toNat 35 c2.toNat k with
        | true =>
          have he : (sideV c0.toNat ((k : Int) / 3) ((k : Int) % 3) != sideV c2.toNat ((k : Int) / 3) ((k : Int) % 3)) = true := hh
          have hu := Lib.hid (where_hit hh)
          clear hh
          go_region_held3 (fun w' => w'.cell? ⟨g, 0, none⟩ = some (.int .i64 ((k : Int) / 3)) ∧ w'.cell? ⟨g, 1, none⟩ = some (.int .i64 ((k : Int) % 3))) (first | exact ⟨hx3, hy3⟩ | exact ⟨hx, hy⟩ | go_keep) (first | (go_at_call 140; refine (valueOf54 _ _ _ (by assumption) (by assumption) _).mono ?_; rintro e w3 ⟨rfl, hb3⟩; have hM3 := Mid.next (by first | exact hMd | assumption) hb3; have hx3 := hM3.2.2.1; have hy3 := hM3.2.2.2) | (go_at_call 146; refine (ne61 _ _ _).mono ?_; rintro e w3 ⟨rfl, rfl⟩))
          all_goals go_wp2_with (go_at_call 127; refine (with55 _ k (by omega) _).mono ?_; rintro e w4 ⟨rfl, rfl⟩)
          all_goals
            go_roundw
            case rel => exact ⟨k + 1, by omega, by go_num, by rw [hu.out], hM3.1⟩
            case measure => simp [intOf]; omega
        | false =>
          have he : (sideV c0.toNat ((k : Int) / 3) ((k : Int) % 3) != sideV c2.toNat ((k : Int) / 3) ((k : Int) % 3)) = false := hh
          have hu := Lib.hid (where_miss hh)
          clear hh
          go_region_held3 (fun w' => w'.cell? ⟨g, 0, none⟩ = some (.int .i64 ((k : Int) / 3)) ∧ w'.cell? ⟨g, 1, none⟩ = some (.int .i64 ((k : Int) % 3))) (first | exact ⟨hx3, hy3⟩ | exact ⟨hx, hy⟩ | go_keep) (first | (go_at_call 140; refine (valueOf54 _ _ _ (by assumption) (by assumption) _).mono ?_; rintro e w3 ⟨rfl, hb3⟩; have hM3 := Mid.next (by first | exact hMd | assumption) hb3; have hx3 := hM3.2.2.1; have hy3 := hM3.2.2.2) | (go_at_call 146; refine (ne61 _ _ _).mono ?_; rintro e w3 ⟨rfl, rfl⟩))
          all_goals go_wp2
          all_goals
            go_roundw
            case rel => exact ⟨k + 1, by omega, by go_num, by rw [hu.out], hM3.1⟩
            case measure => simp [intOf]; omega
      · obtain rfl : k = 9 := by omega
        go_wp2
        go_ret
        exact ⟨rfl, hB2⟩)

set_option maxHeartbeats 1000000 in
theorem sot_lt (c0 c2 : UInt8) (w : World) :
    Calls Tryd.prog 133 #[.string ⟨#[c0, 60, c2]⟩] w fun e w' => e = .returned (.int .i64 (whereB c0.toNat 60 c2.toNat 9)) ∧ Below w.heap.size w w' := by
  have a0 : (0 : Int) ≤ (c0.toNat : Int) := by omega
  have a1 : (c0.toNat : Int) ≤ 255 := by have := c0.toNat_lt; omega
  have b0 : (0 : Int) ≤ (c2.toNat : Int) := by omega
  have b1 : (c2.toNat : Int) ≤ 255 := by have := c2.toNat_lt; omega
  have hA : ∀ h : 0 < (⟨#[c0, 60, c2]⟩ : ByteArray).size, (⟨#[c0, 60, c2]⟩ : ByteArray)[0]'h = c0 := fun _ => rfl
  have hB : ∀ h : 1 < (⟨#[c0, 60, c2]⟩ : ByteArray).size, (⟨#[c0, 60, c2]⟩ : ByteArray)[1]'h = 60 := fun _ => rfl
  have hC : ∀ h : 2 < (⟨#[c0, 60, c2]⟩ : ByteArray).size, (⟨#[c0, 60, c2]⟩ : ByteArray)[2]'h = c2 := fun _ => rfl
  go_enter Tryd.func133, Tryd.ntmps133
  go_wp2_with fail
  go_region_with (first | (go_at_call 138; refine (comparisons52 _).mono ?_; rintro e w1 ⟨rfl, hm1, hb1⟩; have hlk : (Instr.lookup 179 (.map (some w.heap.size)) (.int .u8 60) false).run Tryd.prog w1 = .ok (.func (.func 147) #[] #[]) w1 := cmp_at hm1 _ _ (.inr (.inr ⟨rfl, rfl⟩))))
  all_goals go_wp2
  all_goals (
    go_loopw [4, 11] (fun s i wr => ∃ k : Nat, k ≤ 9 ∧ i = .int .i64 k ∧ s = .int .i64 (whereB c0.toNat 60 c2.toNat k) ∧ Below w.heap.size w wr) (fun _ i _ => 9 - (intOf i).toNat)
    case atStart => exact ⟨0, by omega, rfl, rfl, (Below.refl _ _).drew.trans hb1⟩
    case round =>
      obtain ⟨k, hk, rfl, rfl, hB2⟩ := hrel
      by_cases hlt : k < 9
      · have k0 : (0 : Int) ≤ (k : Int) := by omega
        have k8 : (k : Int) ≤ 8 := by omega
        go_wp2_with (go_at_call 139; refine (vi41 _ _ k0 k8).mono ?_; rintro e w2 ⟨rfl, hb2⟩)
        have hM := Mid.made hB2 hb2 ((k : Int) / 3) ((k : Int) % 3)
        obtain ⟨g, hg⟩ : ∃ g, g = w2.heap.size := ⟨_, rfl⟩
        obtain ⟨U, hU⟩ : ∃ U, U = w2.alloc (.cells #[.int .i64 ((k : Int) / 3), .int .i64 ((k : Int) % 3)] 182) := ⟨_, rfl⟩
        rw [← hU, ← hg] at hM ⊢
        have hx := hM.2.2.1
        have hy := hM.2.2.2
        have hMd := hM.drew
        clear hU hg
        cases hh : holdsB c0.toNat 60 c2.toNat k with
        | true =>
          have he : (decide (sideV c0.toNat ((k : Int) / 3) ((k : Int) % 3) < sideV c2.toNat ((k : Int) / 3) ((k : Int) % 3))) = true := hh
          have hu := Lib.hid (where_hit hh)
          clear hh
          go_region_held3 (fun w' => w'.cell? ⟨g, 0, none⟩ = some (.int .i64 ((k : Int) / 3)) ∧ w'.cell? ⟨g, 1, none⟩ = some (.int .i64 ((k : Int) % 3))) (first | exact ⟨hx3, hy3⟩ | exact ⟨hx, hy⟩ | go_keep) (first | (go_at_call 140; refine (valueOf54 _ _ _ (by assumption) (by assumption) _).mono ?_; rintro e w3 ⟨rfl, hb3⟩; have hM3 := Mid.next (by first | exact hMd | assumption) hb3; have hx3 := hM3.2.2.1; have hy3 := hM3.2.2.2) | (go_at_call 147; refine (lt62 _ _ _).mono ?_; rintro e w3 ⟨rfl, rfl⟩))
          all_goals go_wp2_with (go_at_call 127; refine (with55 _ k (by omega) _).mono ?_; rintro e w4 ⟨rfl, rfl⟩)
          all_goals
            go_roundw
            case rel => exact ⟨k + 1, by omega, by go_num, by rw [hu.out], hM3.1⟩
            case measure => simp [intOf]; omega
        | false =>
          have he : (decide (sideV c0.toNat ((k : Int) / 3) ((k : Int) % 3) < sideV c2.toNat ((k : Int) / 3) ((k : Int) % 3))) = false := hh
          have hu := Lib.hid (where_miss hh)
          clear hh
          go_region_held3 (fun w' => w'.cell? ⟨g, 0, none⟩ = some (.int .i64 ((k : Int) / 3)) ∧ w'.cell? ⟨g, 1, none⟩ = some (.int .i64 ((k : Int) % 3))) (first | exact ⟨hx3, hy3⟩ | exact ⟨hx, hy⟩ | go_keep) (first | (go_at_call 140; refine (valueOf54 _ _ _ (by assumption) (by assumption) _).mono ?_; rintro e w3 ⟨rfl, hb3⟩; have hM3 := Mid.next (by first | exact hMd | assumption) hb3; have hx3 := hM3.2.2.1; have hy3 := hM3.2.2.2) | (go_at_call 147; refine (lt62 _ _ _).mono ?_; rintro e w3 ⟨rfl, rfl⟩))
          all_goals go_wp2
          all_goals
            go_roundw
            case rel => exact ⟨k + 1, by omega, by go_num, by rw [hu.out], hM3.1⟩
            case measure => simp [intOf]; omega
      · obtain rfl : k = 9 := by omega
        go_wp2
        go_ret
        exact ⟨rfl, hB2⟩)

/-- Where a test of three bytes with one of the signs holds. -/
theorem sot34 (c0 c1 c2 : UInt8) (h : c1 = 61 ∨ c1 = 35 ∨ c1 = 60) (w : World) :
    Calls Tryd.prog 133 #[.string ⟨#[c0, c1, c2]⟩] w fun e w' => e = .returned (.int .i64 (whereB c0.toNat c1.toNat c2.toNat 9)) ∧ Below w.heap.size w w' := by
  rcases h with rfl | rfl | rfl
  · exact sot_eq c0 c2 w
  · exact sot_ne c0 c2 w
  · exact sot_lt c0 c2 w
end Go.Proofs.YtgkgkaapjljpcaaDoor

namespace Go.Proofs.YtgkgkaapjljpcaaDoor
open Go.ChangeShapes Go.WideShapes Go.ChangeAt Go.RowKit Go.Shelf Go.Maps
set_option maxRecDepth 100000
attribute [local go_sem] Oper.semAt_some

theorem holds43 (c0 c1 c2 : UInt8) (h : c1 = 61 ∨ c1 = 35 ∨ c1 = 60) (k : Nat) (hk : k ≤ 8) (w : World) :
    Calls Tryd.prog 118 #[.string ⟨#[c0, c1, c2]⟩, .int .i64 (k : Int)] w fun e w' => e = .returned (.bool (holdsB c0.toNat c1.toNat c2.toNat k)) ∧ Below w.heap.size w w' := by
  have a0 : (0 : Int) ≤ (c0.toNat : Int) := by omega
  have a1 : (c0.toNat : Int) ≤ 255 := by have := c0.toNat_lt; omega
  have b0 : (0 : Int) ≤ (c2.toNat : Int) := by omega
  have b1 : (c2.toNat : Int) ≤ 255 := by have := c2.toNat_lt; omega
  have k0 : (0 : Int) ≤ (k : Int) := by omega
  have k8 : (k : Int) ≤ 8 := by omega
  have hA : ∀ h : 0 < (⟨#[c0, c1, c2]⟩ : ByteArray).size, (⟨#[c0, c1, c2]⟩ : ByteArray)[0]'h = c0 := fun _ => rfl
  have hB : ∀ h : 1 < (⟨#[c0, c1, c2]⟩ : ByteArray).size, (⟨#[c0, c1, c2]⟩ : ByteArray)[1]'h = c1 := fun _ => rfl
  have hC : ∀ h : 2 < (⟨#[c0, c1, c2]⟩ : ByteArray).size, (⟨#[c0, c1, c2]⟩ : ByteArray)[2]'h = c2 := fun _ => rfl
  rcases h with rfl | rfl | rfl <;>
  · go_enter Tryd.func118, Tryd.ntmps118
    go_wp2_with fail
    go_quiet (first | (go_at_call 120; refine Calls.quiet_of_same ((value58 _ _ (by assumption) (by assumption) k0 k8 _).mono fun _ _ h => ⟨h.1, h.2.symm⟩)))
    go_wp2
    go_ret
    exact ⟨rfl, below_drewN (Below.refl _ _) _⟩

set_option maxHeartbeats 1000000 in
theorem where35 (c0 c1 c2 : UInt8) (h : c1 = 61 ∨ c1 = 35 ∨ c1 = 60) (w : World) :
    Calls Tryd.prog 92 #[.string ⟨#[c0, c1, c2]⟩] w fun e w' => e = .returned (.int .i64 (whereB c0.toNat c1.toNat c2.toNat 9)) ∧ Below w.heap.size w w' := by
  go_enter Tryd.func92, Tryd.ntmps92
  go_wp2
  go_loopw [3, 5] (fun s i wr => ∃ k : Nat, k ≤ 9 ∧ i = .int .i64 k ∧ s = .int .i64 (whereB c0.toNat c1.toNat c2.toNat k) ∧ Below w.heap.size w wr) (fun _ i _ => 9 - (intOf i).toNat)
  case atStart => exact ⟨0, by omega, rfl, rfl, Below.refl _ _⟩
  case round =>
    obtain ⟨k, hk, rfl, rfl, hB2⟩ := hrel
    by_cases hlt : k < 9
    · have k0 : (0 : Int) ≤ (k : Int) := by omega
      have k8 : (k : Int) ≤ 8 := by omega
      have tz0 := (pow_bd9 ⟨k, by omega⟩).1
      have tz1 := (pow_bd9 ⟨k, by omega⟩).2
      dsimp only at tz0 tz1
      cases hh : holdsB c0.toNat c1.toNat c2.toNat k with
      | true =>
        have hu := Lib.hid (where_hit hh)
        have H := Lib.hid hh
        clear hh
        go_wp2_with (go_at_call 118; refine (holds43 c0 c1 c2 h k (by omega) _).mono ?_; rintro e w2 ⟨rfl, hb2⟩; rw [H.out])
        go_roundw
        case rel => exact ⟨k + 1, by omega, by go_num, by rw [hu.out], hB2.trans (hb2.mono hB2.size)⟩
        case measure => simp [intOf]; omega
      | false =>
        have hu := Lib.hid (where_miss hh)
        have H := Lib.hid hh
        clear hh
        go_wp2_with (go_at_call 118; refine (holds43 c0 c1 c2 h k (by omega) _).mono ?_; rintro e w2 ⟨rfl, hb2⟩; rw [H.out])
        go_roundw
        case rel => exact ⟨k + 1, by omega, by go_num, by rw [hu.out], hB2.trans (hb2.mono hB2.size)⟩
        case measure => simp [intOf]; omega
    · obtain rfl : k = 9 := by omega
      go_wp2
      go_ret
      exact ⟨rfl, hB2⟩
end Go.Proofs.YtgkgkaapjljpcaaDoor

