/- Reading a word and reading a set, in the program (chapter 1, for seats with doors). -/
import Derived.Test.YtcppphjdgpkhcaaDoorTSp
import Derived.Test.YtcppphjdgpkhcaaDoorR1
namespace Go.Proofs.YtcppphjdgpkhcaaDoor
open Go.ChangeShapes Go.WideShapes Go.ChangeAt Go.RowKit Go.Shelf

set_option maxRecDepth 100000
theorem maker29 (n : Nat) (t : ByteArray) (w : World) :
    CallsIn Fence.wide n Tryd.prog 58 #[.string t, .string ⟨#[44]⟩] w fun e w' => e = .returned (.func (.func 84) #[] #[.pointer (some ⟨w.heap.size + 1, 0, none⟩), .pointer (some ⟨w.heap.size, 0, none⟩), .pointer (some ⟨w.heap.size + 2, 0, none⟩)]) ∧
      w' = ((w.alloc (.cells #[.string t] 9)).alloc (.cells #[.string ⟨#[44]⟩] 9)).alloc (.cells #[.int .i64 0] 3) := by
  refine callsIn_wide.2 ?_
  go_enter Tryd.func58, Tryd.ntmps58
  go_wp2
  go_ret
  exact ⟨rfl, rfl⟩

theorem mk_of {x : ByteArray} {a b : UInt8} (h : x.data.toList = [a, b]) : x = ⟨#[a, b]⟩ := by
  obtain ⟨⟨l⟩⟩ := x
  simp at h
  subst h
  rfl

set_option maxHeartbeats 1000000 in
theorem rs_two (a b : UInt8) (W : World) (u : TypeId) (v : Value) (hE : W.cell? ⟨4, 0, none⟩ = some (.iface u v)) (hz : 4 < W.heap.size) :
    Calls Tryd.prog 59 #[.string ⟨#[a, b]⟩] W fun e W' => e = .returned (.tuple #[.int .i64 (stateOf ((a.toNat : Int) - 48) ((b.toNat : Int) - 48)), if stateOk ((a.toNat : Int) - 48) ((b.toNat : Int) - 48) = true then .nilIface else .iface u v]) ∧ Below W.heap.size W W' := by
  have a0 : (0 : Int) ≤ (a.toNat : Int) := by omega
  have a1 : (a.toNat : Int) ≤ 255 := by have := a.toNat_lt; omega
  have b0 : (0 : Int) ≤ (b.toNat : Int) := by omega
  have b1 : (b.toNat : Int) ≤ 255 := by have := b.toNat_lt; omega
  have hA : ∀ h : 0 < (⟨#[a, b]⟩ : ByteArray).size, (⟨#[a, b]⟩ : ByteArray)[0]'h = a := fun _ => rfl
  have hB : ∀ h : 1 < (⟨#[a, b]⟩ : ByteArray).size, (⟨#[a, b]⟩ : ByteArray)[1]'h = b := fun _ => rfl
  have HZ := Lib.hid hz
  have hd : W.drew.cell? ⟨4, 0, none⟩ = some (.iface u v) := hE
  cases hok : stateOk ((a.toNat : Int) - 48) ((b.toNat : Int) - 48) with
  | true =>
    go_enter Tryd.func59, Tryd.ntmps59
    go_wp2_with fail
    go_region_with (first | (go_at_call 70; refine (sw39 _ _ _).mono ?_; rintro e W1 ⟨rfl, hb⟩))
    all_goals go_wp2
    all_goals
      go_ret2
      exact ⟨rfl, (Below.refl _ _).drew.trans hb⟩
  | false =>
    have hst : stateOf ((a.toNat : Int) - 48) ((b.toNat : Int) - 48) = 0 := by
      have h := of_decide_eq_false hok
      exact if_neg h
    rw [hst]
    go_enter Tryd.func59, Tryd.ntmps59
    go_wp2_with fail
    go_region_with (first | (go_at_call 70; refine (sw39 _ _ _).mono ?_; rintro e W1 ⟨rfl, hb⟩; have hE1 : W1.cell? ⟨4, 0, none⟩ = some (.iface u v) := (Below.cell hb (p := ⟨4, 0, none⟩) HZ.out).trans hE))
    all_goals go_wp2_with fail
    all_goals go_quiet (fail)
    all_goals go_wp2
    all_goals
      go_ret2
      exact ⟨rfl, below_drewN ((Below.refl _ _).drew.trans hb) _⟩

theorem rs_len (x : ByteArray) (W : World) (u : TypeId) (v : Value) (hE : W.cell? ⟨4, 0, none⟩ = some (.iface u v)) (hx : ¬ x.size = 2) (hx1 : x.size ≤ 1048576) :
    Calls Tryd.prog 59 #[.string x] W fun e W' => e = .returned (.tuple #[.int .i64 0, .iface u v]) ∧ Below W.heap.size W W' := by
  have h1 : ((x.size : Int) == 2) = false := by simp; omega
  have h2 : (x.size : Int) ≤ 1048576 := by omega
  have h3 : ((x.size : Int) != 2) = true := by simp; omega
  go_enter Tryd.func59, Tryd.ntmps59
  go_wp2_with fail
  go_quiet (fail)
  go_wp2
  go_ret2
  exact ⟨rfl, below_drewN (Below.refl _ _) _⟩

theorem rs30some (x : ByteArray) (z : Fin 9) (W : World) (u : TypeId) (v : Value) (hE : W.cell? ⟨4, 0, none⟩ = some (.iface u v)) (hz : 4 < W.heap.size) (h : wordOf x.data.toList = some z) :
    Calls Tryd.prog 59 #[.string x] W fun e W' => e = .returned (.tuple #[.int .i64 (z.val : Int), .nilIface]) ∧ Below W.heap.size W W' := by
  have h2 := two_wordOf h
  obtain rfl := mk_of h2
  have e : ∀ y : Fin 9, stateOf (((UInt8.ofNat (48 + y.val / 3)).toNat : Int) - 48) (((UInt8.ofNat (48 + y.val % 3)).toNat : Int) - 48) = (y.val : Int) ∧ stateOk (((UInt8.ofNat (48 + y.val / 3)).toNat : Int) - 48) (((UInt8.ofNat (48 + y.val % 3)).toNat : Int) - 48) = true := by decide
  refine (rs_two _ _ W u v hE hz).mono fun e' W' ⟨he, hb⟩ => ?_
  rw [(e z).1, if_pos (e z).2] at he
  exact ⟨he, hb⟩
theorem rs30none (x : ByteArray) (W : World) (u : TypeId) (v : Value) (hE : W.cell? ⟨4, 0, none⟩ = some (.iface u v)) (hz : 4 < W.heap.size) (hx1 : x.size ≤ 1048576) (h : wordOf x.data.toList = none) :
    Calls Tryd.prog 59 #[.string x] W fun e W' => e = .returned (.tuple #[.int .i64 0, .iface u v]) ∧ Below W.heap.size W W' := by
  by_cases hx : x.size = 2
  · have hl : x.data.toList.length = 2 := by rw [Array.length_toList]; exact hx
    obtain ⟨a, b, hab⟩ : ∃ a b, x.data.toList = [a, b] := by
      match x.data.toList, hl with
      | [a, b], _ => exact ⟨a, b, rfl⟩
    obtain rfl := mk_of hab
    have hn : ¬ ((48 ≤ a.toNat ∧ a.toNat ≤ 50) ∧ (48 ≤ b.toNat ∧ b.toNat ≤ 50)) := by
      intro hh
      have e : wordOf [a, b] = some ⟨3 * (a.toNat - 48) + (b.toNat - 48), by omega⟩ := dif_pos hh
      rw [show (⟨#[a, b]⟩ : ByteArray).data.toList = [a, b] from rfl, e] at h
      cases h
    have hk : stateOk ((a.toNat : Int) - 48) ((b.toNat : Int) - 48) = false := decide_eq_false (by omega)
    have hst : stateOf ((a.toNat : Int) - 48) ((b.toNat : Int) - 48) = 0 := if_neg (of_decide_eq_false hk)
    refine (rs_two a b W u v hE hz).mono fun e' W' ⟨he, hb⟩ => ?_
    rw [hst, hk] at he
    exact ⟨he, hb⟩
  · exact rs_len x W u v hE hx hx1

attribute [local go_sem] Oper.semAt_some

theorem two_bd : ∀ z : Fin 9, (0 : Int) ≤ 2 ^ z.val ∧ (2 : Int) ^ z.val ≤ 256 := by decide
theorem or_powS (n : Nat) (z : Fin 9) (hn : n < 512) : bits .or .i64 (n : Int) (2 ^ z.val) = ((n ||| 2 ^ z.val : Nat) : Int) := by
  have e : ((2 : Int) ^ z.val) = ((2 ^ z.val : Nat) : Int) := by simp
  have hb : 2 ^ z.val < 512 := by
    have : ∀ z : Fin 9, 2 ^ z.val < 512 := by decide
    exact this z
  rw [e]
  exact or_nat n _ (by omega) (by omega)

theorem with31 (n : Nat) (z : Fin 9) (hn : n < 512) (W : World) :
    Calls Tryd.prog 60 #[.int .i64 (n : Int), .int .i64 (z.val : Int)] W fun e W' => e = .returned (.int .i64 ((n ||| 2 ^ z.val : Nat) : Int)) ∧ W = W' := by
  have z0 : (0 : Int) ≤ (z.val : Int) := by omega
  have z8 : (z.val : Int) ≤ 8 := by have := z.2; omega
  have tz0 := (two_bd z).1
  have tz1 := (two_bd z).2
  have HO := Lib.hid (or_powS n z hn)
  go_enter Tryd.func60, Tryd.ntmps60
  go_wp2
  go_ret
  exact ⟨by rw [← HO.out]; rfl, rfl⟩

/-- Why a text is none: a word that says no state, or states that do not ascend. -/
def Bad (pre : List (List UInt8)) : Prop := (∃ ws w, pre = ws ++ [w] ∧ wordOf w = none) ∨ ∃ xs, allW pre = some xs ∧ asc xs = false
theorem bad_none {t : List UInt8} (h0 : t ≠ [45]) {pre : List (List UInt8)} (hp : pre <+: cutC t) (h : Bad pre) : parseL t = none := by
  unfold parseL
  rw [if_neg h0]
  rcases h with ⟨ws, w, rfl, hw⟩ | ⟨xs, hx, ha⟩
  · rw [allW_bad hw ws hp]
  · obtain ⟨r, hr⟩ := hp
    cases hc : allW (cutC t) with
    | none => rfl
    | some ys =>
      rw [← hr] at hc
      obtain ⟨us, zs, hu, e⟩ := allW_prefix hc
      rw [hx] at hu
      cases hu
      show (if asc ys = true then some (orL ys) else none) = none
      rw [if_neg]
      intro h
      rw [e] at h
      rw [asc_left h] at ha
      cases ha
theorem good_some {t : List UInt8} (h0 : t ≠ [45]) {xs : List (Fin 9)} (h : allW (cutC t) = some xs) (ha : asc xs = true) : parseL t = some (orL xs) := by
  unfold parseL
  rw [if_neg h0, h]
  show (if asc xs = true then some (orL xs) else none) = _
  rw [if_pos ha]

/-- What the loop holds between two rounds; H: the heap's size when the call began. -/
def MidS (w : World) (pre : List Wd) (W : World) : Prop :=
  (∃ xs, allW (pre.map bytesW) = some xs ∧ asc xs = true ∧ Boxed W (w.heap.size + 2) 75 (.int .i64 (orL xs : Int)) ∧ Boxed W (w.heap.size + 3) 3 (.int .i64 (next xs : Int))) ∧
    Boxed W w.heap.size 75 (.int .i64 0) ∧ Boxed W (w.heap.size + 1) 38 .nilIface ∧ w.heap.size + 7 ≤ W.heap.size ∧ Below w.heap.size w W
def LeftS (w : World) (pre : List Wd) (W : World) : Prop :=
  Bad (pre.map bytesW) ∧ Boxed W w.heap.size 75 (.int .i64 0) ∧ (∃ u v, Boxed W (w.heap.size + 1) 38 (.iface u v)) ∧ Below w.heap.size w W

theorem boxed_grown {W W' : World} {B : Nat} {t : TypeId} {v : Value} {row : Option Nat} (h : Boxed W B t v) (hg : W.grownBy W' row) (hr : ∀ r, row = some r → ∃ o : Obj, W.heap[r]? = some o ∧ o.isCells = false) : Boxed W' B t v :=
  h.kept hg (fun e' => by obtain ⟨o, ho, hc⟩ := hr B e'.symm; rw [show W.heap[B]? = _ from h] at ho; cases ho; cases hc)

theorem mid_own (w : World) (B : Nat) (hB : w.heap.size ≤ B) : OwnFrom B (MidS w) := by
  intro s A C row ⟨⟨xs, h1, h2, h3, h4⟩, h5, h6, h7, h8⟩ hg hr
  have hr' := fun r e => (hr r e).2
  exact ⟨⟨xs, h1, h2, boxed_grown h3 hg hr', boxed_grown h4 hg hr'⟩, boxed_grown h5 hg hr', boxed_grown h6 hg hr', Nat.le_trans h7 hg.size, h8.grown hg h8.size (fun k e => Nat.le_trans hB (hr k e).1)⟩
theorem left_own (w : World) (B : Nat) (hB : w.heap.size ≤ B) : OwnFrom B (LeftS w) := by
  intro s A C row ⟨h1, h2, ⟨u, v, h3⟩, h4⟩ hg hr
  have hr' := fun r e => (hr r e).2
  exact ⟨h1, boxed_grown h2 hg hr', ⟨u, v, boxed_grown h3 hg hr'⟩, h4.grown hg h4.size (fun k e => Nat.le_trans hB (hr k e).1)⟩
theorem mid_write (w : World) (pre : List Wd) (W : World) (v : Value) (h : MidS w pre W) : MidS w pre (W.setCell ⟨w.heap.size + 4, 0, none⟩ v) := by
  obtain ⟨⟨xs, h1, h2, h3, h4⟩, h5, h6, h7, h8⟩ := h
  exact ⟨⟨xs, h1, h2, h3.other (by omega) v, h4.other (by omega) v⟩, h5.other (by omega) v, h6.other (by omega) v, by simpa [World.setCell] using h7, h8.setCell (p := ⟨w.heap.size + 4, 0, none⟩) (by simp) v⟩

theorem boxedB {W W' : World} {B : Nat} {t : TypeId} {v : Value} (h : Boxed W B t v) (hb : Below W.heap.size W W') : Boxed W' B t v := (hb.block B h.lt).trans h
theorem caps_below {W W' : World} {c : List Nat} (hb : Below W.heap.size W W') (hc : ∀ b ∈ c, b < W.heap.size) : Caps c W W' := fun b h => hb.block b (hc b h)

def SetRead (t : ByteArray) (w : World) (e : Ending) (W' : World) : Prop :=
  ((∃ k : Nat, parseL t.data.toList = some k ∧ e = .returned (.tuple #[.int .i64 (k : Int), .nilIface])) ∨
    (parseL t.data.toList = none ∧ ∃ u v, e = .returned (.tuple #[.int .i64 0, .iface u v]))) ∧ Below w.heap.size w W'

theorem cell_still {W : World} {h : Nat} {v : Value} (hz : 1 < h) (u : Value) (e : W.cell? ⟨1, 0, none⟩ = some v) : (W.setCell ⟨h, 0, none⟩ u).cell? ⟨1, 0, none⟩ = some v :=
  (World.cell?_of_block (a := ⟨1, 0, none⟩) (Below.heap_setCell W ⟨h, 0, none⟩ u 1 (by show 1 ≠ h; omega))).trans e

/-- The two results are read out of their cells. -/
theorem results_set (W : World) (h : Nat) (p q : Value) (tmps : Array Value) (h2 : tmps[2]?.getD undef = .pointer (some ⟨h, 0, none⟩)) (h3 : tmps[3]?.getD undef = .pointer (some ⟨h + 1, 0, none⟩))
    (b0 : Boxed W h 75 p) (b1 : Boxed W (h + 1) 38 q) : (results Tryd.f50 tmps).run Tryd.prog W = .ok (.tuple #[p, q]) W := by
  have c0 := b0.cell
  have c1 := b1.cell
  simp [results, Tryd.results50, go_sem, h2, h3, c0, c1]

set_option maxRecDepth 100000 in
set_option maxHeartbeats 4000000 in
theorem rset16_in (n : Nat) (hn : 3 ≤ n) (t : ByteArray) (ht : t.size ≤ 1048576) (h0 : t.data.toList ≠ [45]) (w : World) (u0 u1 : TypeId) (v0 v1 : Value)
    (hE0 : w.cell? ⟨1, 0, none⟩ = some (.iface u0 v0)) (hE1 : w.cell? ⟨4, 0, none⟩ = some (.iface u1 v1)) (hz : 4 < w.heap.size ∧ 1 < w.heap.size) :
    CallsIn Fence.wide n Tryd.prog 50 #[.string t] w (SetRead t w) := by
  have h1 : 1 ≤ n := by omega
  have hmx : Tryd.prog.follows .mixedOrders = true := by kernel_rfl
  have hne : (t.toList == [45]) = false := by
    rw [Lib.toList_data]; simpa using h0
  have HE0 := Lib.hid hE0
  have HE1 := Lib.hid hE1
  have HZ := Lib.hid hz
  have H0 := Lib.hid h0
  clear hE0 hE1 hz h0
  refine callsIn_of_wp_marks Tryd.func50 rfl trivial ?_ rfl
  simp only [Tryd.ntmps50, List.size_toArray, List.length_cons, List.length_nil, Nat.reduceAdd, Nat.reduceSub, Array.replicate_succ, Array.replicate_zero, List.push_toArray, List.append_toArray, List.nil_append, List.cons_append]
  gi_wp2_with (refine ⟨trivial, ?_⟩; gi_at_call 58; refine (maker29 (n - 1) t _).mono ?_; rintro e w' ⟨rfl, rfl⟩)
  simp only [Nat.add_assoc, Nat.reduceAdd]
  obtain ⟨W7, hW7⟩ : ∃ X, X = (((((((w.alloc (.cells #[.int .i64 0] 75)).alloc (.cells #[.nilIface] 38)).alloc (.cells #[.int .i64 0] 75)).alloc (.cells #[.int .i64 0] 3)).alloc (.cells #[.string t] 9)).alloc (.cells #[.string ⟨#[44]⟩] 9)).alloc (.cells #[.int .i64 0] 3)) := ⟨_, rfl⟩
  rw [← hW7]
  have z7 : W7.heap.size = w.heap.size + 7 := by rw [hW7]; simp
  have b0 : Boxed W7 w.heap.size 75 (.int .i64 0) := by
    rw [hW7]; exact ((((((Boxed.new w 75 (.int .i64 0)).alloc _).alloc _).alloc _).alloc _).alloc _).alloc _
  have b1 : Boxed W7 (w.heap.size + 1) 38 .nilIface := by
    have := (((((Boxed.new (w.alloc (.cells #[.int .i64 0] 75)) 38 .nilIface).alloc (.cells #[.int .i64 0] 75)).alloc (.cells #[.int .i64 0] 3)).alloc (.cells #[.string t] 9)).alloc (.cells #[.string ⟨#[44]⟩] 9)).alloc (.cells #[.int .i64 0] 3)
    rw [World.size_alloc] at this; rw [hW7]; exact this
  have b2 : Boxed W7 (w.heap.size + 2) 75 (.int .i64 0) := by
    have := ((((Boxed.new ((w.alloc (.cells #[.int .i64 0] 75)).alloc (.cells #[.nilIface] 38)) 75 (.int .i64 0)).alloc (.cells #[.int .i64 0] 3)).alloc (.cells #[.string t] 9)).alloc (.cells #[.string ⟨#[44]⟩] 9)).alloc (.cells #[.int .i64 0] 3)
    rw [World.size_alloc, World.size_alloc] at this; rw [hW7]; exact this
  have b3 : Boxed W7 (w.heap.size + 3) 3 (.int .i64 0) := by
    have := (((Boxed.new (((w.alloc (.cells #[.int .i64 0] 75)).alloc (.cells #[.nilIface] 38)).alloc (.cells #[.int .i64 0] 75)) 3 (.int .i64 0)).alloc (.cells #[.string t] 9)).alloc (.cells #[.string ⟨#[44]⟩] 9)).alloc (.cells #[.int .i64 0] 3)
    rw [World.size_alloc, World.size_alloc, World.size_alloc] at this; rw [hW7]; exact this
  have b4 : Boxed W7 (w.heap.size + 4) 9 (.string t) := by
    have := ((Boxed.new ((((w.alloc (.cells #[.int .i64 0] 75)).alloc (.cells #[.nilIface] 38)).alloc (.cells #[.int .i64 0] 75)).alloc (.cells #[.int .i64 0] 3)) 9 (.string t)).alloc (.cells #[.string ⟨#[44]⟩] 9)).alloc (.cells #[.int .i64 0] 3)
    rw [World.size_alloc, World.size_alloc, World.size_alloc, World.size_alloc] at this; rw [hW7]; exact this
  have b5 : Boxed W7 (w.heap.size + 5) 9 (.string ⟨#[44]⟩) := by
    have := (Boxed.new (((((w.alloc (.cells #[.int .i64 0] 75)).alloc (.cells #[.nilIface] 38)).alloc (.cells #[.int .i64 0] 75)).alloc (.cells #[.int .i64 0] 3)).alloc (.cells #[.string t] 9)) 9 (.string ⟨#[44]⟩)).alloc (.cells #[.int .i64 0] 3)
    rw [World.size_alloc, World.size_alloc, World.size_alloc, World.size_alloc, World.size_alloc] at this; rw [hW7]; exact this
  have b6 : Boxed W7 (w.heap.size + 6) 3 (.int .i64 0) := by
    have := Boxed.new ((((((w.alloc (.cells #[.int .i64 0] 75)).alloc (.cells #[.nilIface] 38)).alloc (.cells #[.int .i64 0] 75)).alloc (.cells #[.int .i64 0] 3)).alloc (.cells #[.string t] 9)).alloc (.cells #[.string ⟨#[44]⟩] 9)) 3 (.int .i64 0)
    rw [World.size_alloc, World.size_alloc, World.size_alloc, World.size_alloc, World.size_alloc, World.size_alloc] at this; rw [hW7]; exact this
  have bel7 : Below w.heap.size w W7 := by
    rw [hW7]
    exact ((((((((Below.refl _ w).alloc (Nat.le_refl _) _).alloc (by simp) _).alloc (by simp; omega) _).alloc (by simp; omega) _).alloc (by simp; omega) _).alloc (by simp; omega) _).alloc (by simp; omega) _)
  clear hW7
  refine range_state rfl h1 (gf := 84) (lb := #[.pointer (some ⟨w.heap.size + 5, 0, none⟩), .pointer (some ⟨w.heap.size + 4, 0, none⟩), .pointer (some ⟨w.heap.size + 6, 0, none⟩)]) rfl trivial (enters_of Tryd.func84 (by kernel_rfl) rfl)
    (encs := encW) (cap := [w.heap.size + 5, w.heap.size + 4, w.heap.size + 6]) (bs := w.heap.size + 4) (S := fun ys => ys.map bytesW = cutC t.data.toList) (Sp := fun pre => pre.map bytesW <+: cutC t.data.toList) (N := t.size + 1)
    (fun l J Jx W hW _ _ hJw hY hJ0 => split_in (n - 1) (by omega) l (w.heap.size + 5) (w.heap.size + 4) (w.heap.size + 6) t ht (by omega) (by omega) J Jx hJw hY W (boxedB b5 hW).cell (boxedB b4 hW) (boxedB b6 hW).cell hJ0)
    (by intro b hb; simp at hb; omega) (by omega) (fun _ => rfl)
    (MidS w) (LeftS w) (mid_own w _ bel7.size) (left_own w _ bel7.size) (mid_write w)
    ⟨⟨[], rfl, rfl, b2, b3⟩, b0, b1, by omega, bel7⟩
    (fun x => { tmps := #[.string t, undef, .pointer (some ⟨w.heap.size, 0, none⟩), .pointer (some ⟨w.heap.size + 1, 0, none⟩), .pointer (some ⟨w.heap.size + 2, 0, none⟩), .pointer (some ⟨w.heap.size + 3, 0, none⟩), .string x.1, undef, undef, .string t, .bool false, .string t, .func (.func 84) #[] #[.pointer (some ⟨w.heap.size + 5, 0, none⟩), .pointer (some ⟨w.heap.size + 4, 0, none⟩), .pointer (some ⟨w.heap.size + 6, 0, none⟩)], .string x.1, undef, undef, undef, undef, undef, undef, undef, undef, undef, undef, undef, undef, undef, undef, undef, undef, undef, undef], defers := [] }) ?assign ?body ?done ?stop
  case assign =>
    intro l x W K hK
    simp only [encW]
    gi_wp2
    exact hK
  case body =>
    rintro l pre x W ⟨⟨xs, g1, g2, x2, x3⟩, x0, x1, sz, bel⟩ hlt
    have hE1 : W.cell? ⟨4, 0, none⟩ = some (.iface u1 v1) := (bel.cell (p := ⟨4, 0, none⟩) HZ.out.1).trans HE1.out
    have hz : 4 < W.heap.size := Nat.lt_of_lt_of_le HZ.out.1 bel.size
    have hd : 1 ≤ n - 1 - 1 := by omega
    have hxs := orL_lt xs
    have HX := Lib.hid hxs
    have HG := Lib.hid g1
    have HA := Lib.hid g2
    have HT := Lib.hid hz
    have HW := Lib.hid hE1
    have HS := Lib.hid sz
    clear hlt g1 g2 hxs hz hE1 sz
    cases hw : wordOf (bytesW x) with
    | none =>
      have HN := Lib.hid hw
      clear hw
      gi_wp2_with (refine ⟨trivial, ?_⟩; gi_at_call 59; refine (CallsIn.inRound l (callsIn_wide.2 (rs30none x.1 _ u1 v1 HW.out HT.out x.2 HN.out))).mono ?_; rintro e W1 ⟨rfl, hb⟩; have y0 := boxedB x0 hb; have y1 := boxedB x1 hb; have c0 := y0.cell; have c1 := y1.cell; have f0 := y0.frozen; have f1 := y1.frozen)
      exact ⟨((keeps_of_below hb).trans (KeepsOthers.setCell _ _ _)).trans (KeepsOthers.setCell _ _ _), .inl ⟨pre.map bytesW, bytesW x, by rw [List.map_append]; rfl, HN.out⟩,
        (y0.set _).other (by omega) _, ⟨u1, v1, (y1.other (by omega) _).set _⟩,
        ((bel.trans (hb.mono bel.size)).setCell (p := ⟨w.heap.size, 0, none⟩) (Nat.le_refl _) _).setCell (p := ⟨w.heap.size + 1, 0, none⟩) (by simp) _⟩
    | some z =>
      have HN := Lib.hid hw
      clear hw
      have z0 : (0 : Int) ≤ (z.val : Int) := by omega
      have z8 : (z.val : Int) ≤ 8 := by have := z.2; omega
      have nx0 : (0 : Int) ≤ (next xs : Int) := by omega
      by_cases hasc : next xs ≤ z.val
      · have ha : ((z.val : Int) < (next xs : Int)) = False := by simp; omega
        gi_wp2_with (refine ⟨trivial, ?_⟩; first | (gi_at_call 59; refine (CallsIn.inRound l (callsIn_wide.2 (rs30some x.1 z _ u1 v1 HW.out HT.out HN.out))).mono ?_; rintro e W1 ⟨rfl, hb⟩; have y2 := boxedB x2 hb; have y3 := boxedB x3 hb; have c2 := y2.cell; have c3 := y3.cell; have f2 := y2.frozen; have f3 := y3.frozen) | (gi_at_call 60; refine (CallsIn.inRound l (callsIn_wide.2 (with31 (orL xs) z HX.out _))).mono ?_; rintro e W2 ⟨rfl, rfl⟩))
        have hsz := HS.out
        refine ⟨((keeps_of_below hb).trans (KeepsOthers.setCell _ _ _)).trans (KeepsOthers.setCell _ _ _), ?_, ⟨⟨xs ++ [z], ?_, ?_, ?_, ?_⟩, ?_, ?_, ?_, ?_⟩⟩
        · intro b hb'
          have hb2 : b = w.heap.size + 5 ∨ b = w.heap.size + 4 ∨ b = w.heap.size + 6 := by simpa using hb'
          exact (Below.heap_setCell _ _ _ _ (by simp; omega)).trans ((Below.heap_setCell _ _ _ _ (by simp; omega)).trans (hb.block b (by omega)))
        · rw [List.map_append]; exact allW_snoc HG.out HN.out
        · rw [asc_snoc, HA.out]; simpa using hasc
        · rw [orL_snoc]; exact (y2.set _).other (by omega) _
        · rw [next_snoc]; exact (y3.other (by omega) _).set _
        · exact ((boxedB x0 hb).other (by omega) _).other (by omega) _
        · exact ((boxedB x1 hb).other (by omega) _).other (by omega) _
        · have := hb.size; simp [World.setCell]; omega
        · exact ((bel.trans (hb.mono bel.size)).setCell (p := ⟨w.heap.size + 2, 0, none⟩) (by simp) _).setCell (p := ⟨w.heap.size + 3, 0, none⟩) (by simp) _
      · have ha : (z.val : Int) < (next xs : Int) := by omega
        gi_wp2_with (refine ⟨trivial, ?_⟩; first | (gi_at_call 59; refine (CallsIn.inRound l (callsIn_wide.2 (rs30some x.1 z _ u1 v1 HW.out HT.out HN.out))).mono ?_; rintro e W1 ⟨rfl, hb⟩; have y0 := boxedB x0 hb; have y1 := boxedB x1 hb; have y3 := boxedB x3 hb; have c0 := y0.cell; have c1 := y1.cell; have c3 := y3.cell; have f0 := y0.frozen; have f1 := y1.frozen; have e0 := ((bel.trans (hb.mono bel.size)).cell (p := ⟨1, 0, none⟩) HZ.out.2).trans HE0.out; have e1 := cell_still HZ.out.2 (.int .i64 0) e0))
        gi_region_with_o (fail)
        all_goals gi_wp2
        all_goals exact ⟨(((keeps_of_below hb).trans (KeepsOthers.setCell _ _ _)).trans (KeepsOthers.setCell _ _ _)).trans (KeepsOthers.drew _), .inr ⟨xs ++ [z], by rw [List.map_append]; exact allW_snoc HG.out HN.out, by rw [asc_snoc, HA.out]; simp; omega⟩,
          (y0.set _).other (by omega) _, ⟨u0, v0, (y1.other (by omega) _).set _⟩,
          (((bel.trans (hb.mono bel.size)).setCell (p := ⟨w.heap.size, 0, none⟩) (Nat.le_refl _) _).setCell (p := ⟨w.heap.size + 1, 0, none⟩) (by simp) _).drew⟩
  case done =>
    rintro D ys W hD hS ⟨⟨xs, g1, g2, x2, x3⟩, x0, x1, sz, bel⟩ hK
    have c2 := x2.cell
    have c0 := x0.cell
    have c1 := x1.cell
    have f0 := x0.frozen
    have f1 := x1.frozen
    have HG := Lib.hid (good_some H0.out (by rw [← hS]; exact g1) g2)
    clear hS g1 g2
    gi_wp2
    have hK2 := ((KeepsOthers.setCell W ⟨w.heap.size, 0, none⟩ (.int .i64 (orL xs : Int))).trans (KeepsOthers.setCell _ ⟨w.heap.size + 1, 0, none⟩ .nilIface)).same D _ hK rfl
    refine ⟨by simp, .inl ⟨_, _, rfl, run_takeDeferred hK2, ?_⟩⟩
    have y0 := ((x0.set (.int .i64 (orL xs : Int))).other (B' := w.heap.size + 1) (by omega) .nilIface)
    have y1 := ((x1.other (B' := w.heap.size) (by omega) (.int .i64 (orL xs : Int))).set .nilIface)
    have B2 := (bel.setCell (p := ⟨w.heap.size, 0, none⟩) (Nat.le_refl _) (.int .i64 (orL xs : Int))).setCell (p := ⟨w.heap.size + 1, 0, none⟩) (by simp) .nilIface
    refine ⟨_, results_set _ w.heap.size _ _ _ rfl rfl (boxed_grown y0 (grownBy_putObj' _ D _) (fun r e => by cases e; exact ⟨_, hK2, rfl⟩)) (boxed_grown y1 (grownBy_putObj' _ D _) (fun r e => by cases e; exact ⟨_, hK2, rfl⟩)), .inl ⟨orL xs, HG.out, rfl⟩, ?_⟩
    exact B2.trans (belowK_b (w := w) (Nat.le_refl _) _ D _ _ (by omega) hK2 rfl rfl)
  case stop =>
    rintro D pre W hD hS ⟨hbad, x0, ⟨u, v, x1⟩, bel⟩ hK
    have HG := Lib.hid (bad_none H0.out hS hbad)
    clear hS hbad
    gi_wp2
    refine ⟨by simp, .inl ⟨_, _, rfl, run_takeDeferred hK, ?_⟩⟩
    have hrow : ∀ r, some D = some r → ∃ o : Obj, W.heap[r]? = some o ∧ o.isCells = false := fun r e => by cases e; exact ⟨_, hK, rfl⟩
    refine ⟨_, results_set _ w.heap.size _ _ _ rfl rfl (boxed_grown x0 (grownBy_putObj' _ D _) hrow) (boxed_grown x1 (grownBy_putObj' _ D _) hrow), .inr ⟨HG.out, u, v, rfl⟩, ?_⟩
    exact bel.trans (belowK_b (w := w) (Nat.le_refl _) _ D _ _ (by omega) hK rfl rfl)
theorem rset16 (t : ByteArray) (ht : t.size ≤ 1048576) (w : World) (u0 u1 : TypeId) (v0 v1 : Value)
    (hE0 : w.cell? ⟨1, 0, none⟩ = some (.iface u0 v0)) (hE1 : w.cell? ⟨4, 0, none⟩ = some (.iface u1 v1)) (hz : 4 < w.heap.size ∧ 1 < w.heap.size) :
    Calls Tryd.prog 50 #[.string t] w (SetRead t w) := by
  by_cases h0 : t.data.toList = [45]
  · obtain rfl : t = ⟨#[45]⟩ := by rw [← ba_eq t, h0]
    have hp : parseL [45] = some 0 := by unfold parseL; rw [if_pos rfl]
    have HP := Lib.hid hp
    clear hE0 hE1 hz ht h0 hp
    go_enter Tryd.func50, Tryd.ntmps50
    go_wp2
    refine bodyPost_ret (v := .tuple #[.int .i64 0, .nilIface]) (by simp [results, Tryd.results50, go_sem]) rfl ⟨.inl ⟨0, HP.out, rfl⟩, ?_⟩
    exact ((((Below.refl _ _).alloc (Nat.le_refl _) _).alloc (by simp) _))
  · exact callsIn_wide.1 (rset16_in 3 (Nat.le_refl _) t ht h0 w u0 u1 v0 v1 hE0 hE1 hz)

end Go.Proofs.YtcppphjdgpkhcaaDoor

