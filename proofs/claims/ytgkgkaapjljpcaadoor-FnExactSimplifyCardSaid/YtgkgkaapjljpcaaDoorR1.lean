/- The program's outcomes: sets with one state, outcomes joined and told apart, what an assignment makes of a state. -/
import Derived.Test.YtgkgkaapjljpcaaDoorRn
import Derived.Test.YtgkgkaapjljpcaaDoorA1
namespace Go.Proofs.YtgkgkaapjljpcaaDoor
open Go.ChangeShapes Go.WideShapes Go.ChangeAt Go.RowKit Go.Shelf
attribute [local go_sem] Oper.semAt_some
set_option maxRecDepth 100000

theorem or_pow (a n : Nat) (ha : a < 512) (hn : n ≤ 8) : bits .or .i64 (a : Int) (2 ^ n) = ((a ||| 2 ^ n : Nat) : Int) := by
  have h := pow_lt n hn
  have e : (2 : Int) ^ n = ((2 ^ n : Nat) : Int) := by rw [Int.natCast_pow]; rfl
  rw [e]
  exact or_nat a (2 ^ n) (by omega) (by omega)
theorem withN (a n : Nat) (ha : a < 512) (hn : n ≤ 8) (W : World) :
    Calls Tryd.prog 127 #[.int .i64 (a : Int), .int .i64 (n : Int)] W fun e W' => e = .returned (.int .i64 ((a ||| 2 ^ n : Nat) : Int)) ∧ W = W' := by
  have := with55 (a : Int) n hn W
  rwa [or_pow a n ha hn] at this

theorem only49 (n : Nat) (hn : n ≤ 8) (w : World) :
    Calls Tryd.prog 107 #[.int .i64 (n : Int)] w fun e w' => e = .returned (.int .i64 ((2 ^ n : Nat) : Int)) ∧ w = w' := by
  have h := withN 0 n (by omega) hn
  rw [Nat.zero_or] at h
  go_enter Tryd.func107, Tryd.ntmps107
  go_wp2_with (go_at_call 127; refine (h _).mono ?_; rintro e w' ⟨rfl, rfl⟩)
  go_ret
  exact ⟨rfl, rfl⟩

/-- Both are sets. -/
def Small (x : Nat × Nat) : Prop := x.1 < 512 ∧ x.2 < 512
theorem Small.or {x y : Nat × Nat} (hx : Small x) (hy : Small y) : Small (both2 x y) := ⟨or_lt hx.1 hy.1, or_lt hx.2 hy.2⟩

set_option maxHeartbeats 1000000 in
theorem with44 (x y : Nat × Nat) (hx : Small x) (hy : Small y) (w : World) :
    Calls Tryd.prog 63 #[outV x, outV y] w fun e w' => e = .returned (outV (both2 x y)) ∧ Below w.heap.size w w' := by
  obtain ⟨a, b⟩ := x
  obtain ⟨c, d⟩ := y
  obtain ⟨ha, hb⟩ := hx
  obtain ⟨hc, hd⟩ := hy
  dsimp only at ha hb hc hd
  have h1 := or_nat a c (by omega) (by omega)
  have h2 := or_nat b d (by omega) (by omega)
  show Calls Tryd.prog 63 #[.agg #[.int .i64 (a : Int), .int .i64 (b : Int)], .agg #[.int .i64 (c : Int), .int .i64 (d : Int)]] w _
  go_enter Tryd.func63, Tryd.ntmps63
  go_wp2_with fail
  exact bodyPost_ret (v := outV (both2 (a, b) (c, d))) (by simp [results, Tryd.results63, outV, both2, go_sem]) rfl ⟨rfl, (((Below.refl _ _).alloc (Nat.le_refl _) _).alloc (by simp) _).alloc (by simp; omega) _⟩


/-! ### The values that an assignment gives -/
def Vals (W : World) (g : Nat) (l : List Nat) : Prop := ∀ (j : Nat) v, l[j]? = some v → W.cell? ⟨g, j, none⟩ = some (.int .i64 (v : Int))
theorem Vals.grown {W W' : World} {g : Nat} {l : List Nat} {row : Option Nat} (h : Vals W g l) (hg : W.grownBy W' row) (hlt : g < W.heap.size) (hne : some g ≠ row) : Vals W' g l := fun j v hj =>
  (World.cell?_of_block (w := W) (w' := W') (a := ⟨g, j, none⟩) (hg.block g hlt hne)).trans (h j v hj)
/-- Own cells, all of them. -/
def Made (w : World) (l : List Nat) (e : Ending) (w' : World) : Prop := ∃ g, e = .returned (.slice (some ⟨g, 0, none⟩) l.length l.length) ∧ w.heap.size ≤ g ∧ g < w'.heap.size ∧ Vals w' g l ∧ Below w.heap.size w w'

theorem vals_any (x y i : Int) (w : World) :
    Calls Tryd.prog 143 #[.agg #[.int .i64 x, .int .i64 y], .int .i64 i, .int .u8 63] w (Made w [0, 1, 2]) := by
  go_enter Tryd.func143, Tryd.ntmps143
  go_wp2_with fail
  go_ret
  have hn := heap_alloc_new (w.alloc (.cells #[.int .i64 x, .int .i64 y] 182)) (.cells #[.int .i64 0, .int .i64 1, .int .i64 2] 3)
  rw [World.size_alloc] at hn
  refine ⟨_, rfl, by simp, by simp, fun j v hj => ?_, ((Below.refl _ _).alloc (Nat.le_refl _) _).alloc (by simp) _⟩
  match j, hj with
  | 0, h => cases h; rw [cell_of_row _ (w.heap.size + 1) 0 _ 3 (0, 0) hn]; rfl
  | 1, h => cases h; rw [cell_of_row _ (w.heap.size + 1) 1 _ 3 (0, 0) hn]; rfl
  | 2, h => cases h; rw [cell_of_row _ (w.heap.size + 1) 2 _ 3 (0, 0) hn]; rfl
  | j + 3, h => simp at h
theorem vals_one {w U : World} {v : Nat} (hB : Below w.heap.size w U) : Made w [v] (.returned (.slice (some ⟨U.heap.size, 0, none⟩) 1 1)) (U.alloc (.cells #[.int .i64 (v : Int)] 3)) := by
  have hn := heap_alloc_new U (.cells #[.int .i64 (v : Int)] 3)
  refine ⟨_, rfl, hB.size, by simp, fun j v' hj => ?_, hB.alloc hB.size _⟩
  match j, hj with
  | 0, h => cases h; rw [cell_of_row _ U.heap.size 0 _ 3 (0, 0) hn]; rfl
  | j + 1, h => simp at h
theorem vals_plus0 (x y v : Nat) (hx : x ≤ 2) (hv : ((x : Int) + 1) % 3 = (v : Int)) (w : World) :
    Calls Tryd.prog 143 #[.agg #[.int .i64 (x : Int), .int .i64 (y : Int)], .int .i64 0, .int .u8 43] w (Made w [v]) := by
  go_enter Tryd.func143, Tryd.ntmps143
  go_wp2_with fail
  go_ret
  have h := vals_one (w := w) (v := v) ((Below.refl _ _).alloc (Nat.le_refl _) (.cells #[.int .i64 (x : Int), .int .i64 (y : Int)] 182))
  rw [World.size_alloc] at h
  exact h
theorem vals_plus1 (x y v : Nat) (hy : y ≤ 2) (hv : ((y : Int) + 1) % 3 = (v : Int)) (w : World) :
    Calls Tryd.prog 143 #[.agg #[.int .i64 (x : Int), .int .i64 (y : Int)], .int .i64 1, .int .u8 43] w (Made w [v]) := by
  go_enter Tryd.func143, Tryd.ntmps143
  go_wp2_with fail
  go_ret
  have h := vals_one (w := w) (v := v) ((Below.refl _ _).alloc (Nat.le_refl _) (.cells #[.int .i64 (x : Int), .int .i64 (y : Int)] 182))
  rw [World.size_alloc] at h
  exact h
theorem vals_plain (x y i v : Nat) (d : UInt8) (hd : d = 48 ∨ d = 49 ∨ d = 50 ∨ d = 120 ∨ d = 121) (hv : sideV (d.toNat : Int) (x : Int) (y : Int) = (v : Int)) (w : World) :
    Calls Tryd.prog 143 #[.agg #[.int .i64 (x : Int), .int .i64 (y : Int)], .int .i64 i, .int .u8 (d.toNat : Int)] w (Made w [v]) := by
  have d1 : ((d.toNat : Int) == 43) = false := by rcases hd with rfl | rfl | rfl | rfl | rfl <;> rfl
  have d2 : ((d.toNat : Int) == 63) = false := by rcases hd with rfl | rfl | rfl | rfl | rfl <;> rfl
  have hd255 : (d.toNat : Int) ≤ 255 := by have := d.toNat_lt; omega
  have hd0 : (0 : Int) ≤ (d.toNat : Int) := by omega
  go_enter Tryd.func143, Tryd.ntmps143
  go_wp2_with (go_at_call 140; refine (valueOf54 _ _ _ hd0 hd255 _).mono ?_; rintro e W1 ⟨rfl, hb1⟩; rw [hv])
  go_ret
  exact vals_one (((Below.refl _ _).alloc (Nat.le_refl _) _).trans (hb1.mono (by simp)))

/-! ### What an assignment makes of a state -/
theorem grown_trans_b {A B C : World} {r : Option Nat} (h : A.grownBy B r) (k : Below B.heap.size B C) : A.grownBy C r :=
  ⟨k.os.trans h.os, k.tape.trans h.tape, k.output.trans h.output, Nat.le_trans h.size k.size, fun b hb hr => (k.block b (Nat.lt_of_lt_of_le hb h.size)).trans (h.block b hb hr)⟩
theorem grown_set {A B : World} {g o : Nat} (h : A.grownBy B (some g)) (v : Value) : A.grownBy (B.setCell ⟨g, o, none⟩ v) (some g) :=
  ⟨h.os, h.tape, h.output, by simp; exact h.size, fun b hb hr => by
    rw [heap_setCell_other _ _ b _ (by intro e; exact hr (by simpa using e))]
    exact h.block b hb hr⟩
theorem below_self_grown (A : World) (r : Option Nat) : A.grownBy A r := ⟨rfl, rfl, rfl, Nat.le_refl _, fun _ _ _ => rfl⟩
def putL (c : UInt8) (s : Nat) (l : List Nat) : Nat := l.foldl (fun a v => a ||| putS c s v) 0
theorem putL_take {c : UInt8} {s : Nat} {l : List Nat} {k v : Nat} (h : l[k]? = some v) : putL c s (l.take (k + 1)) = putL c s (l.take k) ||| putS c s v := by
  have e : l.take (k + 1) = l.take k ++ [v] := by rw [List.take_add_one, h]; rfl
  rw [e]; simp [putL, List.foldl_append]
theorem putL_lt {c : UInt8} {s : Nat} (hs : s < 9) : ∀ l : List Nat, (∀ v ∈ l, v ≤ 2) → putL c s l < 512 := by
  have h : ∀ (l : List Nat) (a : Nat), a < 512 → (∀ v ∈ l, v ≤ 2) → l.foldl (fun a v => a ||| putS c s v) a < 512 := by
    intro l
    induction l with
    | nil => intro a ha _; exact ha
    | cons x l ih =>
      intro a ha hl
      refine ih _ (or_lt ha ?_) (fun v hv => hl v (List.mem_cons_of_mem _ hv))
      have := hl x (List.mem_cons_self ..)
      unfold putS
      split <;> exact pow_lt _ (by omega)
  exact fun l => h l 0 (by decide)
/-- The variable's block: two numbers. -/
def Two2 (W : World) (b : Nat) (x y : Int) : Prop := W.heap[b]? = some (.cells #[.int .i64 x, .int .i64 y] 182 (0, 0))
theorem Two2.cells {W : World} {b : Nat} {x y : Int} (h : Two2 W b x y) : W.cell? ⟨b, 0, none⟩ = some (.int .i64 x) ∧ W.cell? ⟨b, 1, none⟩ = some (.int .i64 y) ∧ W.frozen? ⟨b, 0, none⟩ = false ∧ W.frozen? ⟨b, 1, none⟩ = false := by
  unfold Two2 at h
  exact ⟨by simp [World.cell?, h], by simp [World.cell?, h], by simp [World.frozen?, h], by simp [World.frozen?, h]⟩
theorem Two2.set0 {W : World} {b : Nat} {x y : Int} (h : Two2 W b x y) (z : Int) : Two2 (W.setCell ⟨b, 0, none⟩ (.int .i64 z)) b z y := by
  unfold Two2 at *
  rw [heap_setCell_same W b 0 _ 182 _ h]; rfl
theorem Two2.set1 {W : World} {b : Nat} {x y : Int} (h : Two2 W b x y) (z : Int) : Two2 (W.setCell ⟨b, 1, none⟩ (.int .i64 z)) b x z := by
  unfold Two2 at *
  rw [heap_setCell_same W b 1 _ 182 _ h]; rfl
theorem Two2.below {W W' : World} {b : Nat} {x y : Int} (h : Two2 W b x y) (hb : Below W.heap.size W W') : Two2 W' b x y := by
  unfold Two2 at *
  rw [hb.block b (Array.getElem?_eq_some_iff.1 h).1]; exact h

theorem state_nat {x y : Nat} (hx : x ≤ 2) (hy : y ≤ 2) : stateOf (x : Int) (y : Int) = ((3 * x + y : Nat) : Int) ∧ stateOk (x : Int) (y : Int) = true := by
  unfold stateOf stateOk
  have h : (0 ≤ (x : Int) ∧ (x : Int) ≤ 2) ∧ (0 ≤ (y : Int) ∧ (y : Int) ≤ 2) := by omega
  rw [if_pos h]
  exact ⟨by omega, decide_eq_true h⟩
theorem mem_at {l : List Nat} {k : Nat} (hk : k < l.length) : ∃ v, l[k]? = some v ∧ v ∈ l := ⟨_, List.getElem?_eq_getElem hk, List.getElem_mem hk⟩

theorem putx (s v : Nat) : putS 120 s v = 2 ^ (3 * v + s % 3) := rfl
theorem puty (s v : Nat) : putS 121 s v = 2 ^ (3 * (s / 3) + v) := rfl

set_option maxHeartbeats 1000000 in
theorem asg66x (d : UInt8) (s : Nat) (hs : s < 9) (l : List Nat) (hl : l.length ≤ 3) (h2 : ∀ v ∈ l, v ≤ 2)
    (hv : ∀ W : World, Calls Tryd.prog 143 #[.agg #[.int .i64 ((s : Int) / 3), .int .i64 ((s : Int) % 3)], .int .i64 0, .int .u8 (d.toNat : Int)] W (Made W l)) (w : World) :
    Calls Tryd.prog 135 #[.string ⟨#[120, d]⟩, .int .i64 (s : Int)] w fun e w' => e = .returned (.int .i64 ((putL 120 s l : Nat) : Int)) ∧ Below w.heap.size w w' := by
  have hA : ∀ h : 0 < (⟨#[120, d]⟩ : ByteArray).size, (⟨#[120, d]⟩ : ByteArray)[0]'h = 120 := fun _ => rfl
  have hB : ∀ h : 1 < (⟨#[120, d]⟩ : ByteArray).size, (⟨#[120, d]⟩ : ByteArray)[1]'h = d := fun _ => rfl
  have s0 : (0 : Int) ≤ (s : Int) := by omega
  have s8 : (s : Int) ≤ 8 := by omega
  go_enter Tryd.func135, Tryd.ntmps135
  go_wp2_with (go_at_call 139; refine (vi41 _ _ s0 s8).mono ?_; rintro e W1 ⟨rfl, hb1⟩)
  obtain ⟨U, hU⟩ : ∃ U, U = W1.alloc (.cells #[.int .i64 ((s : Int) / 3), .int .i64 ((s : Int) % 3)] 182) := ⟨_, rfl⟩
  obtain ⟨b, hb⟩ : ∃ b, b = W1.heap.size := ⟨_, rfl⟩
  have hT : Two2 U b ((s : Int) / 3) ((s : Int) % 3) := by rw [hU, hb]; exact heap_alloc_new W1 _
  have hBU : Below w.heap.size w U := by rw [hU]; exact hb1.alloc hb1.size _
  have hbw : w.heap.size ≤ b := by rw [hb]; exact hb1.size
  have hbU : b < U.heap.size := (Array.getElem?_eq_some_iff.1 hT).1
  rw [← hU, ← hb]
  clear hU hb
  obtain ⟨x0, x1, _, _⟩ := hT.cells
  have HT := Lib.hid hT
  clear hT
  go_region_held3 (fun w' => w'.cell? ⟨b, 0, none⟩ = some (.int .i64 ((s : Int) / 3)) ∧ w'.cell? ⟨b, 1, none⟩ = some (.int .i64 ((s : Int) % 3)))
    (first | exact ⟨x0, x1⟩ | exact ⟨y0, y1⟩ | go_keep)
    (first | (go_at_call 143; refine (hv _).mono ?_; rintro e W2 ⟨g, rfl, hg1, hg2, hvals, hb2⟩; have hT2 : Two2 W2 b ((s : Int) / 3) ((s : Int) % 3) := Two2.below (by exact HT.out) hb2; obtain ⟨y0, y1, _, _⟩ := hT2.cells))
  have hl3 : (l.length : Int) ≤ 3 := by omega
  have hgb : some g ≠ some b := by intro e; cases e; exact absurd hg1 (by simp; omega)
  have hBW : Below w.heap.size w W2 := by first | exact hBU.trans (hb2.mono hBU.size) | exact hBU.drew.trans (hb2.mono hBU.size) | exact hBU.drew.drew.trans (hb2.mono hBU.size)
  clear hb2 hg1 x0 x1 y0 y1 HT hbU hBU hb1
  go_wp2
  go_loopw [7, 24] (fun o i wr => ∃ k : Nat, k ≤ l.length ∧ i = .int .i64 (k : Int) ∧ o = .int .i64 ((putL 120 s (l.take k) : Nat) : Int) ∧ (∃ z, Two2 wr b z ((s : Int) % 3)) ∧ W2.grownBy wr (some b)) (fun _ i _ => l.length - (intOf i).toNat)
  case atStart => exact ⟨0, by omega, rfl, by simp [putL], ⟨_, hT2⟩, below_self_grown W2 _⟩
  case round =>
    obtain ⟨k, hk, rfl, rfl, ⟨z, hz⟩, hG⟩ := hrel
    by_cases hlt : k < l.length
    · obtain ⟨v, hvk, hvm⟩ := mem_at hlt
      have hv2 := h2 v hvm
      have hp := Lib.hid (putL_take (c := 120) (s := s) hvk)
      have e0 := hvals.grown hG hg2 hgb k v hvk
      obtain ⟨c0, c1, f0, f1⟩ := hz.cells
      have hz' := hz.set0 (v : Int)
      obtain ⟨d0, d1, _, _⟩ := hz'.cells
      have hG' := grown_set (o := 0) hG (.int .i64 (v : Int))
      have hS := state_nat hv2 (y := s % 3) (by omega)
      rw [show ((s % 3 : Nat) : Int) = (s : Int) % 3 by omega] at hS
      have HS := Lib.hid hS
      clear hS
      have ha : putL 120 s (l.take k) < 512 := putL_lt hs _ (fun u hu => h2 u (List.mem_of_mem_take hu))
      have hlt' : (k : Int) < (l.length : Int) := by omega
      have hk0 : (0 : Int) ≤ (k : Int) := by omega
      go_wp2_with (first
        | (go_at_call 144; refine (sw39 _ _ _).mono ?_; rintro e W3 ⟨rfl, hb3⟩)
        | (go_at_call 127; rw [HS.out.1]; refine (withN _ _ ha (by omega) _).mono ?_; rintro e W4 ⟨rfl, rfl⟩))
      go_roundw
      case rel => exact ⟨k + 1, by omega, by go_num, by rw [hp.out, putx], ⟨_, hz'.below hb3⟩, grown_trans_b hG' hb3⟩
      case measure => simp [intOf]; omega
    · obtain rfl : k = l.length := by omega
      go_wp2
      go_ret
      exact ⟨by rw [List.take_length]; rfl, hBW.grown hG hBW.size (fun i e => by cases e; exact hbw)⟩

set_option maxHeartbeats 1000000 in
theorem asg66y (d : UInt8) (s : Nat) (hs : s < 9) (l : List Nat) (hl : l.length ≤ 3) (h2 : ∀ v ∈ l, v ≤ 2)
    (hv : ∀ W : World, Calls Tryd.prog 143 #[.agg #[.int .i64 ((s : Int) / 3), .int .i64 ((s : Int) % 3)], .int .i64 1, .int .u8 (d.toNat : Int)] W (Made W l)) (w : World) :
    Calls Tryd.prog 135 #[.string ⟨#[121, d]⟩, .int .i64 (s : Int)] w fun e w' => e = .returned (.int .i64 ((putL 121 s l : Nat) : Int)) ∧ Below w.heap.size w w' := by
  have hA : ∀ h : 0 < (⟨#[121, d]⟩ : ByteArray).size, (⟨#[121, d]⟩ : ByteArray)[0]'h = 121 := fun _ => rfl
  have hB : ∀ h : 1 < (⟨#[121, d]⟩ : ByteArray).size, (⟨#[121, d]⟩ : ByteArray)[1]'h = d := fun _ => rfl
  have s0 : (0 : Int) ≤ (s : Int) := by omega
  have s8 : (s : Int) ≤ 8 := by omega
  go_enter Tryd.func135, Tryd.ntmps135
  go_wp2_with (go_at_call 139; refine (vi41 _ _ s0 s8).mono ?_; rintro e W1 ⟨rfl, hb1⟩)
  obtain ⟨U, hU⟩ : ∃ U, U = W1.alloc (.cells #[.int .i64 ((s : Int) / 3), .int .i64 ((s : Int) % 3)] 182) := ⟨_, rfl⟩
  obtain ⟨b, hb⟩ : ∃ b, b = W1.heap.size := ⟨_, rfl⟩
  have hT : Two2 U b ((s : Int) / 3) ((s : Int) % 3) := by rw [hU, hb]; exact heap_alloc_new W1 _
  have hBU : Below w.heap.size w U := by rw [hU]; exact hb1.alloc hb1.size _
  have hbw : w.heap.size ≤ b := by rw [hb]; exact hb1.size
  have hbU : b < U.heap.size := (Array.getElem?_eq_some_iff.1 hT).1
  rw [← hU, ← hb]
  clear hU hb
  obtain ⟨x0, x1, _, _⟩ := hT.cells
  have HT := Lib.hid hT
  clear hT
  go_region_held3 (fun w' => w'.cell? ⟨b, 0, none⟩ = some (.int .i64 ((s : Int) / 3)) ∧ w'.cell? ⟨b, 1, none⟩ = some (.int .i64 ((s : Int) % 3)))
    (first | exact ⟨x0, x1⟩ | exact ⟨y0, y1⟩ | go_keep)
    (first | (go_at_call 143; refine (hv _).mono ?_; rintro e W2 ⟨g, rfl, hg1, hg2, hvals, hb2⟩; have hT2 : Two2 W2 b ((s : Int) / 3) ((s : Int) % 3) := Two2.below (by exact HT.out) hb2; obtain ⟨y0, y1, _, _⟩ := hT2.cells))
  have hl3 : (l.length : Int) ≤ 3 := by omega
  have hgb : some g ≠ some b := by intro e; cases e; exact absurd hg1 (by simp; omega)
  have hBW : Below w.heap.size w W2 := by first | exact hBU.trans (hb2.mono hBU.size) | exact hBU.drew.trans (hb2.mono hBU.size) | exact hBU.drew.drew.trans (hb2.mono hBU.size)
  clear hb2 hg1 x0 x1 y0 y1 HT hbU hBU hb1
  go_wp2
  go_loopw [7, 24] (fun o i wr => ∃ k : Nat, k ≤ l.length ∧ i = .int .i64 (k : Int) ∧ o = .int .i64 ((putL 121 s (l.take k) : Nat) : Int) ∧ (∃ z, Two2 wr b ((s : Int) / 3) z) ∧ W2.grownBy wr (some b)) (fun _ i _ => l.length - (intOf i).toNat)
  case atStart => exact ⟨0, by omega, rfl, by simp [putL], ⟨_, hT2⟩, below_self_grown W2 _⟩
  case round =>
    obtain ⟨k, hk, rfl, rfl, ⟨z, hz⟩, hG⟩ := hrel
    by_cases hlt : k < l.length
    · obtain ⟨v, hvk, hvm⟩ := mem_at hlt
      have hv2 := h2 v hvm
      have hp := Lib.hid (putL_take (c := 121) (s := s) hvk)
      have e0 := hvals.grown hG hg2 hgb k v hvk
      obtain ⟨c0, c1, f0, f1⟩ := hz.cells
      have hz' := hz.set1 (v : Int)
      obtain ⟨d0, d1, _, _⟩ := hz'.cells
      have hG' := grown_set (o := 1) hG (.int .i64 (v : Int))
      have hS := state_nat (x := s / 3) (by omega) hv2
      rw [show ((s / 3 : Nat) : Int) = (s : Int) / 3 by omega] at hS
      have HS := Lib.hid hS
      clear hS
      have ha : putL 121 s (l.take k) < 512 := putL_lt hs _ (fun u hu => h2 u (List.mem_of_mem_take hu))
      have hlt' : (k : Int) < (l.length : Int) := by omega
      have hk0 : (0 : Int) ≤ (k : Int) := by omega
      go_wp2_with (first
        | (go_at_call 144; refine (sw39 _ _ _).mono ?_; rintro e W3 ⟨rfl, hb3⟩)
        | (go_at_call 127; rw [HS.out.1]; refine (withN _ _ ha (by omega) _).mono ?_; rintro e W4 ⟨rfl, rfl⟩))
      go_roundw
      case rel => exact ⟨k + 1, by omega, by go_num, by rw [hp.out, puty], ⟨_, hz'.below hb3⟩, grown_trans_b hG' hb3⟩
      case measure => simp [intOf]; omega
    · obtain rfl : k = l.length := by omega
      go_wp2
      go_ret
      exact ⟨by rw [List.take_length]; rfl, hBW.grown hG hBW.size (fun i e => by cases e; exact hbw)⟩

theorem two_shape : (twos.all fun p => match p with | [c, d] => (c == 120 || c == 121) && (d == 43 || d == 63 || d == 48 || d == 49 || d == 50 || d == 120 || d == 121) | _ => false) = true := by decide
theorem two_cases {c d : UInt8} (h : [c, d] ∈ twos) : (c = 120 ∨ c = 121) ∧ (d = 43 ∨ d = 63 ∨ (d = 48 ∨ d = 49 ∨ d = 50 ∨ d = 120 ∨ d = 121)) := by
  have := List.all_eq_true.1 two_shape _ h
  simp only [Bool.and_eq_true, Bool.or_eq_true, beq_iff_eq] at this
  refine ⟨this.1, ?_⟩
  rcases this.2 with ((((((h | h) | h) | h) | h) | h) | h) <;> simp [h]
theorem side_n (d : UInt8) (hd : d = 48 ∨ d = 49 ∨ d = 50 ∨ d = 120 ∨ d = 121) (s : Nat) (hs : s < 9) : ∃ v : Nat, v ≤ 2 ∧ sideV (d.toNat : Int) ((s : Int) / 3) ((s : Int) % 3) = (v : Int) ∧ ∀ c, asgS c d s = putS c s v := by
  rcases hd with rfl | rfl | rfl | rfl | rfl
  · exact ⟨0, by omega, rfl, fun c => rfl⟩
  · exact ⟨1, by omega, rfl, fun c => rfl⟩
  · exact ⟨2, by omega, rfl, fun c => rfl⟩
  · exact ⟨s / 3, by omega, by show (s : Int) / 3 = _; omega, fun c => rfl⟩
  · exact ⟨s % 3, by omega, by show (s : Int) % 3 = _; omega, fun c => rfl⟩
theorem putL_one (c : UInt8) (s v : Nat) : putL c s [v] = putS c s v := by simp [putL]
theorem putL_any (c : UInt8) (s : Nat) : putL c s [0, 1, 2] = asgS c 63 s := by simp [putL, asgS]
theorem third {s : Nat} : ((s / 3 : Nat) : Int) = (s : Int) / 3 := by omega
theorem third' {s : Nat} : ((s % 3 : Nat) : Int) = (s : Int) % 3 := by omega
/-- What an assignment makes of a state. -/
theorem asg66 (c d : UInt8) (h : [c, d] ∈ twos) (s : Nat) (hs : s < 9) (w : World) :
    Calls Tryd.prog 135 #[.string ⟨#[c, d]⟩, .int .i64 (s : Int)] w fun e w' => e = .returned (.int .i64 ((asgS c d s : Nat) : Int)) ∧ Below w.heap.size w w' := by
  obtain ⟨hc, hd⟩ := two_cases h
  have hs3 : s / 3 ≤ 2 := by omega
  have hs3' : s % 3 ≤ 2 := by omega
  rcases hd with rfl | rfl | hd
  · rcases hc with rfl | rfl
    · have e : asgS 120 43 s = putL 120 s [(s / 3 + 1) % 3] := by rw [putL_one]; rfl
      rw [e]
      refine asg66x 43 s hs [(s / 3 + 1) % 3] (by simp) (by simp; omega) (fun W => ?_) w
      have := vals_plus0 (s / 3) (s % 3) ((s / 3 + 1) % 3) hs3 (by omega) W
      rwa [third, third'] at this
    · have e : asgS 121 43 s = putL 121 s [(s % 3 + 1) % 3] := by rw [putL_one]; rfl
      rw [e]
      refine asg66y 43 s hs [(s % 3 + 1) % 3] (by simp) (by simp; omega) (fun W => ?_) w
      have := vals_plus1 (s / 3) (s % 3) ((s % 3 + 1) % 3) hs3' (by omega) W
      rwa [third, third'] at this
  · rw [← putL_any]
    rcases hc with rfl | rfl
    · exact asg66x 63 s hs [0, 1, 2] (by simp) (by simp) (fun W => vals_any _ _ _ W) w
    · exact asg66y 63 s hs [0, 1, 2] (by simp) (by simp) (fun W => vals_any _ _ _ W) w
  · obtain ⟨v, hv2, hsv, hasg⟩ := side_n d hd s hs
    rw [hasg, ← putL_one]
    rcases hc with rfl | rfl
    · refine asg66x d s hs [v] (by simp) (by simpa using hv2) (fun W => ?_) w
      have := vals_plain (s / 3) (s % 3) 0 v d hd (by rw [third, third']; exact hsv) W
      rwa [third, third'] at this
    · refine asg66y d s hs [v] (by simp) (by simpa using hv2) (fun W => ?_) w
      have := vals_plain (s / 3) (s % 3) 1 v d hd (by rw [third, third']; exact hsv) W
      rwa [third, third'] at this
end Go.Proofs.YtgkgkaapjljpcaaDoor

