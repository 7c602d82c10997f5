/- The model's reader of programs: two programs with a sign between them. The model's reader of programs: two programs behind a sign that there is. The model's reader of programs: whatever text is left. -/
import Derived.Test.YtgkgkaapjljpcaaDoorQA
namespace Go.Proofs.YtgkgkaapjljpcaaDoor
open Go.ChangeShapes Go.WideShapes Go.ChangeAt Go.RowKit Go.Shelf
attribute [local go_sem] Oper.semAt_some
set_option maxRecDepth 100000

theorem rd_pair (n : Nat) (r : List UInt8) : rd (n + 1) (40 :: r) = match rd n r with
      | some (p, s :: r') =>
        if s = 59 ∨ s = 124 then
          match rd n r' with
          | some (q, e :: r'') => if e = 41 then some (.pair s p q, r'') else none
          | _ => none
        else none
      | _ => none := by
  rw [rd.eq_def]
  dsimp only
  rw [if_neg (by decide), if_neg (by decide), if_neg (by decide), if_neg (by decide), if_pos rfl]
  rfl

theorem var_drew {Z : World} {g : Nat} {k : Int} {s : ByteArray} {ad : Option Addr} {m cap : Nat} (h : Var Z g k s ad m cap) : Var Z.drew g k s ad m cap := h
theorem grown_drew {W Z : World} {row : Option Nat} (h : W.grownBy Z row) : W.grownBy Z.drew row := ⟨h.os, h.tape, h.output, h.size, h.block⟩
theorem blank {sg : ByteArray} (h : sg = ⟨#[]⟩ ∨ ∃ e, sg = ⟨#[e]⟩) : ∃ (X : ByteArray) (z : UInt8), sg ++ ⟨#[32]⟩ = X ∧ (∀ h : 0 < X.size, X[0]'h = z) ∧ 0 < X.size ∧ sg.size ≤ 1 := by
  rcases h with rfl | ⟨e, rfl⟩
  · exact ⟨⟨#[32]⟩, 32, by apply ByteArray.ext; rw [ByteArray.data_append]; simp, fun _ => rfl, by decide, by decide⟩
  · exact ⟨⟨#[e, 32]⟩, e, cat_two e [32], fun _ => rfl, by simp [ByteArray.size], by simp [ByteArray.size]⟩
theorem NodeIs.drew {Z : World} {lo hi : Nat} {nd : Node} {k : Int} {s : ByteArray} {ad : Option Addr} {n cap : Nat} (h : NodeIs Z lo hi nd k s ad n cap) : NodeIs Z.drew lo hi nd k s ad n cap := NodeIs.same (show Same lo hi Z Z.drew from fun _ _ _ => rfl) h
theorem nil_sign {t : ByteArray} (ht : t.size ≤ 9000000) {rb i : Nat} {b : Bool} (hi : i ≤ t.size) (hl : t.toList.drop i = []) {W : World} (h : Rdr W rb t i b) :
    ∃ sg : ByteArray, (sg = ⟨#[]⟩ ∨ ∃ e, sg = ⟨#[e]⟩) ∧ Calls Tryd.prog 115 #[.pointer (some ⟨rb, 0, none⟩), .int .i64 1] W fun e W' => e = .returned (.string sg) ∧ Rdr W' rb t i true ∧ W.grownBy W' (some rb) :=
  ⟨⟨#[]⟩, .inl rfl, take1_nil ht hi hl h⟩
/-- The cells of a row of two programs that was just laid. -/
theorem six_cells (U : World) (a0 a1 a2 a3 a4 a5 : Value) : ∀ (o : Nat) v, [a0, a1, a2, a3, a4, a5][o]? = some v → (U.alloc (.cells #[a0, a1, a2, a3, a4, a5] 52)).cell? ⟨U.heap.size, o, none⟩ = some v := by
  intro o v h
  rw [cell_of_row _ U.heap.size o _ 52 (0, 0) (heap_alloc_new U _)]
  match o, h with
  | 0, h => exact h
  | 1, h => exact h
  | 2, h => exact h
  | 3, h => exact h
  | 4, h => exact h
  | 5, h => exact h
  | o + 6, h => cases h

set_option maxHeartbeats 4000000 in
theorem pair_first (t : ByteArray) (ht : t.size ≤ 9000000) (rb n i : Nat) (IH : Reads t rb n) (W : World) (hr : Rdr W rb t i false) {r : List UInt8} (hl : t.toList.drop i = 40 :: r) (hn : r.length ≤ n) (hrn : rd n r = none) :
    Calls Tryd.prog 91 #[.pointer (some ⟨rb, 0, none⟩)] W (ReadTo t rb (n + 1) i W) := by
  obtain ⟨hx, hi, hd⟩ := ext_cons hl
  have hlt := hr.lt
  have HRD := Lib.hid (rd_pair n r)
  rw [← hl] at HRD
  rw [hrn] at HRD
  dsimp only at HRD
  go_enter Tryd.func91, Tryd.ntmps91
  go_wp2_with fail
  go_at_call 115
  refine (take1 ht hl (hr.grown (World.grownBy_alloc W _ none) (by simp))).mono ?_
  rintro e W1 ⟨rfl, hr1, hg1⟩
  have hv := (Var.new W 0 ⟨#[]⟩ none 0 0).grown hg1 (by simp; omega)
  obtain ⟨c0, c1, c2, f1, f2⟩ := hr1.cells
  have hG := grown_trans (World.grownBy_alloc W _ (some rb)) hg1
  have hrb1 := hr1.lt
  have s01 : W.heap.size + 1 ≤ W1.heap.size := by have := hg1.size; simp at this; exact this
  go_wp2_with fail
  go_at_call 60
  refine (part_read t rb n (i + 1) IH W1 hi (by rw [hd]; exact hn) hr1).mono ?_
  rintro e W2 ⟨k, s, ad, m, cap, rfl, hg2, hm⟩
  rw [hd, hrn] at hm
  obtain ⟨j, hj, hr2⟩ := hm
  have hv2 := hv.grown hg2 (by simp; omega)
  have hG2 := grown_trans2 hG hg2
  have s12 := hg2.size
  have hA := World.grownBy_alloc W2 (.cells #[.int .u8 k, .string s, .slice ad m cap] 52) none
  have hr3 := hr2.grown hA (by simp)
  have hv3 := hv2.grown hA (by simp)
  have hx3 := Var.new W2 k s ad m cap
  have hG3 := grown_alloc hG2 (.cells #[.int .u8 k, .string s, .slice ad m cap] 52)
  have hK3 := World.grownBy_alloc W2 (.cells #[.int .u8 k, .string s, .slice ad m cap] 52) (some rb)
  go_wp2_with fail
  cases hjd : t.toList.drop j with
  | nil =>
    obtain ⟨sg, hsg, hT⟩ := nil_sign ht hj hjd hr3
    go_at_call 115
    refine (hT).mono ?_
    rintro e W3 ⟨rfl, hr4, hg4⟩
    have hv4 := hv3.grown hg4 (by simp; omega)
    have hx4 := hx3.grown hg4 (by simp; omega)
    have hG4 := grown_trans2 hG3 hg4
    have hK4 := grown_trans2 hK3 hg4
    have s34 := hg4.size
    rw [World.size_alloc] at s34
    obtain ⟨d0, d1, d2, k1, k2⟩ := hr4.cells
    have hR5 := hr4.bad true
    have hv5 := hv4.grown hR5.2 (by simp; omega)
    have hx5 := hx4.grown hR5.2 (by simp; omega)
    have hG5 := setCell_grown (o := 2) hG4 (.inl rfl) (.bool true)
    have hK5 := setCell_grown (o := 2) hK4 (.inl rfl) (.bool true)
    have s5 : (W3.setCell ⟨rb, 2, none⟩ (.bool true)).heap.size = W3.heap.size := by simp
    go_wp2_with fail
    go_at_call 60
    refine (part_bad t rb j _ hR5.1).mono ?_
    rintro e W5 ⟨⟨k2, s2, ad2, m2, cap2, rfl⟩, hr6, hg6⟩
    have hv6 := hv5.grown hg6 (by simp; omega)
    have hx6 := hx5.grown hg6 (by simp; omega)
    have hG6 := grown_trans2 hG5 hg6
    have hK6 := grown_trans2 hK5 hg6
    have s56 := hg6.size
    have hA7 := World.grownBy_alloc W5 (.cells #[.int .u8 k2, .string s2, .slice ad2 m2 cap2] 52) none
    have hr7 := hr6.grown hA7 (by simp)
    have hv7 := hv6.grown hA7 (by simp)
    have hx7 := hx6.grown hA7 (by simp)
    have hy7 := Var.new W5 k2 s2 ad2 m2 cap2
    have hG7 := grown_alloc hG6 (.cells #[.int .u8 k2, .string s2, .slice ad2 m2 cap2] 52)
    have hK7 := grown_alloc hK6 (.cells #[.int .u8 k2, .string s2, .slice ad2 m2 cap2] 52)
    have hM7 := World.grownBy_alloc W5 (.cells #[.int .u8 k2, .string s2, .slice ad2 m2 cap2] 52) (some rb)
    obtain ⟨e0, e1, e2, l1, l2⟩ := hr7.cells
    have hR8 := hr7.bad true
    have hv8 := hv7.grown hR8.2 (by simp; omega)
    have hx8 := hx7.grown hR8.2 (by simp; omega)
    have hy8 := hy7.grown hR8.2 (by have := hr6.lt; simp; omega)
    have hG8 := setCell_grown (o := 2) hG7 (.inl rfl) (.bool true)
    go_wp2_with fail
    obtain ⟨U, hU⟩ : ∃ U, U = (W5.alloc (.cells #[.int .u8 k2, .string s2, .slice ad2 m2 cap2] 52)).setCell ⟨rb, 2, none⟩ (.bool true) := ⟨_, rfl⟩
    obtain ⟨g2, hgg2⟩ : ∃ g2, g2 = W2.heap.size := ⟨_, rfl⟩
    obtain ⟨g5, hgg5⟩ : ∃ g5, g5 = W5.heap.size := ⟨_, rfl⟩
    obtain ⟨g0, hgg0⟩ : ∃ g0, g0 = W.heap.size := ⟨_, rfl⟩
    rw [← hU, ← hgg2, ← hgg5, ← hgg0]
    rw [← hU] at hR8 hv8 hx8 hy8 hG8
    rw [← hgg2] at hx8
    rw [← hgg5] at hy8
    rw [← hgg0] at hv8
    obtain ⟨X, z, hcat, hX0, hXs, hsz1⟩ := blank (sg := sg) hsg
    have hXi : (0 : Int) < (X.size : Int) := by omega
    have hsl : ¬ 9223372036854775807 < (sg).size + 1 := by omega
    obtain ⟨p0, p1, p2, _⟩ := hx8.cells
    obtain ⟨q0, q1, q2, _⟩ := hy8.cells
    have hvA := hv8.grown (World.grownBy_alloc U (.cells #[.int .u8 k, .string s, .slice ad m cap, .int .u8 k2, .string s2, .slice ad2 m2 cap2] 52) none) (by simp)
    have hrA := hR8.1.grown (World.grownBy_alloc U (.cells #[.int .u8 k, .string s, .slice ad m cap, .int .u8 k2, .string s2, .slice ad2 m2 cap2] 52) none) (by simp)
    have hGA := grown_alloc hG8 (.cells #[.int .u8 k, .string s, .slice ad m cap, .int .u8 k2, .string s2, .slice ad2 m2 cap2] 52)
    obtain ⟨o0, o1, o2, n0, n1, n2⟩ := hvA.cells
    have HG2 := Lib.hid hgg2
    have HG5 := Lib.hid hgg5
    have HG0 := Lib.hid hgg0
    have HZ := Lib.hid hsz1
    have HCt := Lib.hid hcat
    have HX0 := Lib.hid hX0
    clear hU hgg2 hgg5 hgg0 hsz1
    go_region
    go_wp2_with fail
    have hg0 := HG0.out
    refine ret_node (var_drew (set3_var hvA _ _ _ _ _)) rfl rfl ?_
    refine ⟨_, _, _, _, _, rfl, grown_drew (set3_grown hGA (by omega) _ _ _ _ _), ?_⟩
    rw [HRD.out]
    exact ⟨j, hj, Rdr.drew (set3_rdr hrA (by omega) _ _ _ _ _)⟩
  | cons e r2 =>
    obtain ⟨_, hj2, _⟩ := ext_cons hjd
    go_at_call 115
    refine (take1 ht hjd hr3).mono ?_
    rintro e W3 ⟨rfl, hr4, hg4⟩
    have hv4 := hv3.grown hg4 (by simp; omega)
    have hx4 := hx3.grown hg4 (by simp; omega)
    have hG4 := grown_trans2 hG3 hg4
    have hK4 := grown_trans2 hK3 hg4
    have s34 := hg4.size
    rw [World.size_alloc] at s34
    obtain ⟨d0, d1, d2, k1, k2⟩ := hr4.cells
    have hR5 := hr4.bad true
    have hv5 := hv4.grown hR5.2 (by simp; omega)
    have hx5 := hx4.grown hR5.2 (by simp; omega)
    have hG5 := setCell_grown (o := 2) hG4 (.inl rfl) (.bool true)
    have hK5 := setCell_grown (o := 2) hK4 (.inl rfl) (.bool true)
    have s5 : (W3.setCell ⟨rb, 2, none⟩ (.bool true)).heap.size = W3.heap.size := by simp
    go_wp2_with fail
    go_at_call 60
    refine (part_bad t rb (j + 1) _ hR5.1).mono ?_
    rintro e W5 ⟨⟨k2, s2, ad2, m2, cap2, rfl⟩, hr6, hg6⟩
    have hv6 := hv5.grown hg6 (by simp; omega)
    have hx6 := hx5.grown hg6 (by simp; omega)
    have hG6 := grown_trans2 hG5 hg6
    have hK6 := grown_trans2 hK5 hg6
    have s56 := hg6.size
    have hA7 := World.grownBy_alloc W5 (.cells #[.int .u8 k2, .string s2, .slice ad2 m2 cap2] 52) none
    have hr7 := hr6.grown hA7 (by simp)
    have hv7 := hv6.grown hA7 (by simp)
    have hx7 := hx6.grown hA7 (by simp)
    have hy7 := Var.new W5 k2 s2 ad2 m2 cap2
    have hG7 := grown_alloc hG6 (.cells #[.int .u8 k2, .string s2, .slice ad2 m2 cap2] 52)
    have hK7 := grown_alloc hK6 (.cells #[.int .u8 k2, .string s2, .slice ad2 m2 cap2] 52)
    have hM7 := World.grownBy_alloc W5 (.cells #[.int .u8 k2, .string s2, .slice ad2 m2 cap2] 52) (some rb)
    obtain ⟨e0, e1, e2, l1, l2⟩ := hr7.cells
    have hR8 := hr7.bad true
    have hv8 := hv7.grown hR8.2 (by simp; omega)
    have hx8 := hx7.grown hR8.2 (by simp; omega)
    have hy8 := hy7.grown hR8.2 (by have := hr6.lt; simp; omega)
    have hG8 := setCell_grown (o := 2) hG7 (.inl rfl) (.bool true)
    go_wp2_with fail
    obtain ⟨U, hU⟩ : ∃ U, U = (W5.alloc (.cells #[.int .u8 k2, .string s2, .slice ad2 m2 cap2] 52)).setCell ⟨rb, 2, none⟩ (.bool true) := ⟨_, rfl⟩
    obtain ⟨g2, hgg2⟩ : ∃ g2, g2 = W2.heap.size := ⟨_, rfl⟩
    obtain ⟨g5, hgg5⟩ : ∃ g5, g5 = W5.heap.size := ⟨_, rfl⟩
    obtain ⟨g0, hgg0⟩ : ∃ g0, g0 = W.heap.size := ⟨_, rfl⟩
    rw [← hU, ← hgg2, ← hgg5, ← hgg0]
    rw [← hU] at hR8 hv8 hx8 hy8 hG8
    rw [← hgg2] at hx8
    rw [← hgg5] at hy8
    rw [← hgg0] at hv8
    obtain ⟨X, z, hcat, hX0, hXs, hsz1⟩ := blank (sg := ⟨#[e]⟩) (.inr ⟨_, rfl⟩)
    have hXi : (0 : Int) < (X.size : Int) := by omega
    have hsl : ¬ 9223372036854775807 < (⟨#[e]⟩ : ByteArray).size + 1 := by omega
    obtain ⟨p0, p1, p2, _⟩ := hx8.cells
    obtain ⟨q0, q1, q2, _⟩ := hy8.cells
    have hvA := hv8.grown (World.grownBy_alloc U (.cells #[.int .u8 k, .string s, .slice ad m cap, .int .u8 k2, .string s2, .slice ad2 m2 cap2] 52) none) (by simp)
    have hrA := hR8.1.grown (World.grownBy_alloc U (.cells #[.int .u8 k, .string s, .slice ad m cap, .int .u8 k2, .string s2, .slice ad2 m2 cap2] 52) none) (by simp)
    have hGA := grown_alloc hG8 (.cells #[.int .u8 k, .string s, .slice ad m cap, .int .u8 k2, .string s2, .slice ad2 m2 cap2] 52)
    obtain ⟨o0, o1, o2, n0, n1, n2⟩ := hvA.cells
    have HG2 := Lib.hid hgg2
    have HG5 := Lib.hid hgg5
    have HG0 := Lib.hid hgg0
    have HZ := Lib.hid hsz1
    have HCt := Lib.hid hcat
    have HX0 := Lib.hid hX0
    clear hU hgg2 hgg5 hgg0 hsz1
    go_region
    go_wp2_with fail
    have hg0 := HG0.out
    refine ret_node (var_drew (set3_var hvA _ _ _ _ _)) rfl rfl ?_
    refine ⟨_, _, _, _, _, rfl, grown_drew (set3_grown hGA (by omega) _ _ _ _ _), ?_⟩
    rw [HRD.out]
    exact ⟨j + 1, hj2, Rdr.drew (set3_rdr hrA (by omega) _ _ _ _ _)⟩

set_option maxHeartbeats 4000000 in
theorem pair_nosign (t : ByteArray) (ht : t.size ≤ 9000000) (rb n i : Nat) (IH : Reads t rb n) (W : World) (hr : Rdr W rb t i false) {r : List UInt8} (hl : t.toList.drop i = 40 :: r) (hn : r.length ≤ n) {p : Node} (hrn : rd n r = some (p, [])) :
    Calls Tryd.prog 91 #[.pointer (some ⟨rb, 0, none⟩)] W (ReadTo t rb (n + 1) i W) := by
  obtain ⟨hx, hi, hd⟩ := ext_cons hl
  have hlt := hr.lt
  have HRD := Lib.hid (rd_pair n r)
  rw [← hl] at HRD
  rw [hrn] at HRD
  dsimp only at HRD
  go_enter Tryd.func91, Tryd.ntmps91
  go_wp2_with fail
  go_at_call 115
  refine (take1 ht hl (hr.grown (World.grownBy_alloc W _ none) (by simp))).mono ?_
  rintro e W1 ⟨rfl, hr1, hg1⟩
  have hv := (Var.new W 0 ⟨#[]⟩ none 0 0).grown hg1 (by simp; omega)
  obtain ⟨c0, c1, c2, f1, f2⟩ := hr1.cells
  have hG := grown_trans (World.grownBy_alloc W _ (some rb)) hg1
  have hrb1 := hr1.lt
  have s01 : W.heap.size + 1 ≤ W1.heap.size := by have := hg1.size; simp at this; exact this
  go_wp2_with fail
  go_at_call 60
  refine (part_read t rb n (i + 1) IH W1 hi (by rw [hd]; exact hn) hr1).mono ?_
  rintro e W2 ⟨k, s, ad, m, cap, rfl, hg2, hm⟩
  rw [hd, hrn] at hm
  obtain ⟨j, hj, hjd, hr2, hnd⟩ := hm
  have hv2 := hv.grown hg2 (by simp; omega)
  have hG2 := grown_trans2 hG hg2
  have s12 := hg2.size
  have hA := World.grownBy_alloc W2 (.cells #[.int .u8 k, .string s, .slice ad m cap] 52) none
  have hr3 := hr2.grown hA (by simp)
  have hv3 := hv2.grown hA (by simp)
  have hx3 := Var.new W2 k s ad m cap
  have hG3 := grown_alloc hG2 (.cells #[.int .u8 k, .string s, .slice ad m cap] 52)
  have hK3 := World.grownBy_alloc W2 (.cells #[.int .u8 k, .string s, .slice ad m cap] 52) (some rb)
  go_wp2_with fail
  obtain ⟨sg, hsg, hT⟩ := nil_sign ht hj hjd hr3
  go_at_call 115
  refine (hT).mono ?_
  rintro e W3 ⟨rfl, hr4, hg4⟩
  have hv4 := hv3.grown hg4 (by simp; omega)
  have hx4 := hx3.grown hg4 (by simp; omega)
  have hG4 := grown_trans2 hG3 hg4
  have hK4 := grown_trans2 hK3 hg4
  have s34 := hg4.size
  rw [World.size_alloc] at s34
  obtain ⟨d0, d1, d2, k1, k2⟩ := hr4.cells
  have hR5 := hr4.bad true
  have hv5 := hv4.grown hR5.2 (by simp; omega)
  have hx5 := hx4.grown hR5.2 (by simp; omega)
  have hG5 := setCell_grown (o := 2) hG4 (.inl rfl) (.bool true)
  have hK5 := setCell_grown (o := 2) hK4 (.inl rfl) (.bool true)
  have s5 : (W3.setCell ⟨rb, 2, none⟩ (.bool true)).heap.size = W3.heap.size := by simp
  go_wp2_with fail
  go_at_call 60
  refine (part_bad t rb j _ hR5.1).mono ?_
  rintro e W5 ⟨⟨k2, s2, ad2, m2, cap2, rfl⟩, hr6, hg6⟩
  have hv6 := hv5.grown hg6 (by simp; omega)
  have hx6 := hx5.grown hg6 (by simp; omega)
  have hG6 := grown_trans2 hG5 hg6
  have hK6 := grown_trans2 hK5 hg6
  have s56 := hg6.size
  have hA7 := World.grownBy_alloc W5 (.cells #[.int .u8 k2, .string s2, .slice ad2 m2 cap2] 52) none
  have hr7 := hr6.grown hA7 (by simp)
  have hv7 := hv6.grown hA7 (by simp)
  have hx7 := hx6.grown hA7 (by simp)
  have hy7 := Var.new W5 k2 s2 ad2 m2 cap2
  have hG7 := grown_alloc hG6 (.cells #[.int .u8 k2, .string s2, .slice ad2 m2 cap2] 52)
  have hK7 := grown_alloc hK6 (.cells #[.int .u8 k2, .string s2, .slice ad2 m2 cap2] 52)
  have hM7 := World.grownBy_alloc W5 (.cells #[.int .u8 k2, .string s2, .slice ad2 m2 cap2] 52) (some rb)
  obtain ⟨e0, e1, e2, l1, l2⟩ := hr7.cells
  have hR8 := hr7.bad true
  have hv8 := hv7.grown hR8.2 (by simp; omega)
  have hx8 := hx7.grown hR8.2 (by simp; omega)
  have hy8 := hy7.grown hR8.2 (by have := hr6.lt; simp; omega)
  have hG8 := setCell_grown (o := 2) hG7 (.inl rfl) (.bool true)
  go_wp2_with fail
  obtain ⟨U, hU⟩ : ∃ U, U = (W5.alloc (.cells #[.int .u8 k2, .string s2, .slice ad2 m2 cap2] 52)).setCell ⟨rb, 2, none⟩ (.bool true) := ⟨_, rfl⟩
  obtain ⟨g2, hgg2⟩ : ∃ g2, g2 = W2.heap.size := ⟨_, rfl⟩
  obtain ⟨g5, hgg5⟩ : ∃ g5, g5 = W5.heap.size := ⟨_, rfl⟩
  obtain ⟨g0, hgg0⟩ : ∃ g0, g0 = W.heap.size := ⟨_, rfl⟩
  rw [← hU, ← hgg2, ← hgg5, ← hgg0]
  rw [← hU] at hR8 hv8 hx8 hy8 hG8
  rw [← hgg2] at hx8
  rw [← hgg5] at hy8
  rw [← hgg0] at hv8
  obtain ⟨X, z, hcat, hX0, hXs, hsz1⟩ := blank (sg := sg) hsg
  have hXi : (0 : Int) < (X.size : Int) := by omega
  have hsl : ¬ 9223372036854775807 < (sg).size + 1 := by omega
  obtain ⟨p0, p1, p2, _⟩ := hx8.cells
  obtain ⟨q0, q1, q2, _⟩ := hy8.cells
  have hvA := hv8.grown (World.grownBy_alloc U (.cells #[.int .u8 k, .string s, .slice ad m cap, .int .u8 k2, .string s2, .slice ad2 m2 cap2] 52) none) (by simp)
  have hrA := hR8.1.grown (World.grownBy_alloc U (.cells #[.int .u8 k, .string s, .slice ad m cap, .int .u8 k2, .string s2, .slice ad2 m2 cap2] 52) none) (by simp)
  have hGA := grown_alloc hG8 (.cells #[.int .u8 k, .string s, .slice ad m cap, .int .u8 k2, .string s2, .slice ad2 m2 cap2] 52)
  obtain ⟨o0, o1, o2, n0, n1, n2⟩ := hvA.cells
  have HG2 := Lib.hid hgg2
  have HG5 := Lib.hid hgg5
  have HG0 := Lib.hid hgg0
  have HZ := Lib.hid hsz1
  have HCt := Lib.hid hcat
  have HX0 := Lib.hid hX0
  clear hU hgg2 hgg5 hgg0 hsz1
  go_region
  go_wp2_with fail
  have hg0 := HG0.out
  refine ret_node (var_drew (set3_var hvA _ _ _ _ _)) rfl rfl ?_
  refine ⟨_, _, _, _, _, rfl, grown_drew (set3_grown hGA (by omega) _ _ _ _ _), ?_⟩
  rw [HRD.out]
  exact ⟨j, hj, Rdr.drew (set3_rdr hrA (by omega) _ _ _ _ _)⟩

set_option maxHeartbeats 4000000 in
theorem pair_other (t : ByteArray) (ht : t.size ≤ 9000000) (rb n i : Nat) (IH : Reads t rb n) (W : World) (hr : Rdr W rb t i false) {r : List UInt8} (hl : t.toList.drop i = 40 :: r) (hn : r.length ≤ n) {p : Node} {sb : UInt8} {r2 : List UInt8} (hrn : rd n r = some (p, sb :: r2)) (hs : ¬ (sb = 59 ∨ sb = 124)) :
    Calls Tryd.prog 91 #[.pointer (some ⟨rb, 0, none⟩)] W (ReadTo t rb (n + 1) i W) := by
  obtain ⟨hx, hi, hd⟩ := ext_cons hl
  have hlt := hr.lt
  have HRD := Lib.hid (rd_pair n r)
  rw [← hl] at HRD
  rw [hrn] at HRD
  dsimp only at HRD
  rw [if_neg hs] at HRD
  have m1 : (sb == 59) = false := by simpa using fun e => hs (.inl e)
  have m2 : (sb != 59) = true := by simpa using fun e => hs (.inl e)
  have m3 : (sb == 124) = false := by simpa using fun e => hs (.inr e)
  have m4 : (sb != 124) = true := by simpa using fun e => hs (.inr e)
  go_enter Tryd.func91, Tryd.ntmps91
  go_wp2_with fail
  go_at_call 115
  refine (take1 ht hl (hr.grown (World.grownBy_alloc W _ none) (by simp))).mono ?_
  rintro e W1 ⟨rfl, hr1, hg1⟩
  have hv := (Var.new W 0 ⟨#[]⟩ none 0 0).grown hg1 (by simp; omega)
  obtain ⟨c0, c1, c2, f1, f2⟩ := hr1.cells
  have hG := grown_trans (World.grownBy_alloc W _ (some rb)) hg1
  have hrb1 := hr1.lt
  have s01 : W.heap.size + 1 ≤ W1.heap.size := by have := hg1.size; simp at this; exact this
  go_wp2_with fail
  go_at_call 60
  refine (part_read t rb n (i + 1) IH W1 hi (by rw [hd]; exact hn) hr1).mono ?_
  rintro e W2 ⟨k, s, ad, m, cap, rfl, hg2, hm⟩
  rw [hd, hrn] at hm
  obtain ⟨j, hj, hjd, hr2, hnd⟩ := hm
  have hv2 := hv.grown hg2 (by simp; omega)
  have hG2 := grown_trans2 hG hg2
  have s12 := hg2.size
  have hA := World.grownBy_alloc W2 (.cells #[.int .u8 k, .string s, .slice ad m cap] 52) none
  have hr3 := hr2.grown hA (by simp)
  have hv3 := hv2.grown hA (by simp)
  have hx3 := Var.new W2 k s ad m cap
  have hG3 := grown_alloc hG2 (.cells #[.int .u8 k, .string s, .slice ad m cap] 52)
  have hK3 := World.grownBy_alloc W2 (.cells #[.int .u8 k, .string s, .slice ad m cap] 52) (some rb)
  go_wp2_with fail
  obtain ⟨_, hj2, _⟩ := ext_cons hjd
  go_at_call 115
  refine (take1 ht hjd hr3).mono ?_
  rintro e W3 ⟨rfl, hr4, hg4⟩
  have hv4 := hv3.grown hg4 (by simp; omega)
  have hx4 := hx3.grown hg4 (by simp; omega)
  have hG4 := grown_trans2 hG3 hg4
  have hK4 := grown_trans2 hK3 hg4
  have s34 := hg4.size
  rw [World.size_alloc] at s34
  obtain ⟨d0, d1, d2, k1, k2⟩ := hr4.cells
  have hR5 := hr4.bad true
  have hv5 := hv4.grown hR5.2 (by simp; omega)
  have hx5 := hx4.grown hR5.2 (by simp; omega)
  have hG5 := setCell_grown (o := 2) hG4 (.inl rfl) (.bool true)
  have hK5 := setCell_grown (o := 2) hK4 (.inl rfl) (.bool true)
  have s5 : (W3.setCell ⟨rb, 2, none⟩ (.bool true)).heap.size = W3.heap.size := by simp
  go_wp2_with fail
  go_at_call 60
  refine (part_bad t rb (j + 1) _ hR5.1).mono ?_
  rintro e W5 ⟨⟨k2, s2, ad2, m2, cap2, rfl⟩, hr6, hg6⟩
  have hv6 := hv5.grown hg6 (by simp; omega)
  have hx6 := hx5.grown hg6 (by simp; omega)
  have hG6 := grown_trans2 hG5 hg6
  have hK6 := grown_trans2 hK5 hg6
  have s56 := hg6.size
  have hA7 := World.grownBy_alloc W5 (.cells #[.int .u8 k2, .string s2, .slice ad2 m2 cap2] 52) none
  have hr7 := hr6.grown hA7 (by simp)
  have hv7 := hv6.grown hA7 (by simp)
  have hx7 := hx6.grown hA7 (by simp)
  have hy7 := Var.new W5 k2 s2 ad2 m2 cap2
  have hG7 := grown_alloc hG6 (.cells #[.int .u8 k2, .string s2, .slice ad2 m2 cap2] 52)
  have hK7 := grown_alloc hK6 (.cells #[.int .u8 k2, .string s2, .slice ad2 m2 cap2] 52)
  have hM7 := World.grownBy_alloc W5 (.cells #[.int .u8 k2, .string s2, .slice ad2 m2 cap2] 52) (some rb)
  obtain ⟨e0, e1, e2, l1, l2⟩ := hr7.cells
  have hR8 := hr7.bad true
  have hv8 := hv7.grown hR8.2 (by simp; omega)
  have hx8 := hx7.grown hR8.2 (by simp; omega)
  have hy8 := hy7.grown hR8.2 (by have := hr6.lt; simp; omega)
  have hG8 := setCell_grown (o := 2) hG7 (.inl rfl) (.bool true)
  go_wp2_with fail
  obtain ⟨U, hU⟩ : ∃ U, U = (W5.alloc (.cells #[.int .u8 k2, .string s2, .slice ad2 m2 cap2] 52)).setCell ⟨rb, 2, none⟩ (.bool true) := ⟨_, rfl⟩
  obtain ⟨g2, hgg2⟩ : ∃ g2, g2 = W2.heap.size := ⟨_, rfl⟩
  obtain ⟨g5, hgg5⟩ : ∃ g5, g5 = W5.heap.size := ⟨_, rfl⟩
  obtain ⟨g0, hgg0⟩ : ∃ g0, g0 = W.heap.size := ⟨_, rfl⟩
  rw [← hU, ← hgg2, ← hgg5, ← hgg0]
  rw [← hU] at hR8 hv8 hx8 hy8 hG8
  rw [← hgg2] at hx8
  rw [← hgg5] at hy8
  rw [← hgg0] at hv8
  obtain ⟨X, z, hcat, hX0, hXs, hsz1⟩ := blank (sg := ⟨#[sb]⟩) (.inr ⟨_, rfl⟩)
  have hXi : (0 : Int) < (X.size : Int) := by omega
  have hsl : ¬ 9223372036854775807 < (⟨#[sb]⟩ : ByteArray).size + 1 := by omega
  obtain ⟨p0, p1, p2, _⟩ := hx8.cells
  obtain ⟨q0, q1, q2, _⟩ := hy8.cells
  have hvA := hv8.grown (World.grownBy_alloc U (.cells #[.int .u8 k, .string s, .slice ad m cap, .int .u8 k2, .string s2, .slice ad2 m2 cap2] 52) none) (by simp)
  have hrA := hR8.1.grown (World.grownBy_alloc U (.cells #[.int .u8 k, .string s, .slice ad m cap, .int .u8 k2, .string s2, .slice ad2 m2 cap2] 52) none) (by simp)
  have hGA := grown_alloc hG8 (.cells #[.int .u8 k, .string s, .slice ad m cap, .int .u8 k2, .string s2, .slice ad2 m2 cap2] 52)
  obtain ⟨o0, o1, o2, n0, n1, n2⟩ := hvA.cells
  have HG2 := Lib.hid hgg2
  have HG5 := Lib.hid hgg5
  have HG0 := Lib.hid hgg0
  have HZ := Lib.hid hsz1
  have HCt := Lib.hid hcat
  have HX0 := Lib.hid hX0
  clear hU hgg2 hgg5 hgg0 hsz1
  go_region
  go_wp2_with fail
  have hg0 := HG0.out
  refine ret_node (var_drew (set3_var hvA _ _ _ _ _)) rfl rfl ?_
  refine ⟨_, _, _, _, _, rfl, grown_drew (set3_grown hGA (by omega) _ _ _ _ _), ?_⟩
  rw [HRD.out]
  exact ⟨j + 1, hj2, Rdr.drew (set3_rdr hrA (by omega) _ _ _ _ _)⟩

end Go.Proofs.YtgkgkaapjljpcaaDoor

namespace Go.Proofs.YtgkgkaapjljpcaaDoor
open Go.ChangeShapes Go.WideShapes Go.ChangeAt Go.RowKit Go.Shelf
attribute [local go_sem] Oper.semAt_some
set_option maxRecDepth 100000

set_option maxHeartbeats 4000000 in
theorem pair_second (t : ByteArray) (ht : t.size ≤ 9000000) (rb n i : Nat) (IH : Reads t rb n) (W : World) (hr : Rdr W rb t i false) {r : List UInt8} (hl : t.toList.drop i = 40 :: r) (hn : r.length ≤ n) {p : Node} {sb : UInt8} {r2 : List UInt8} (hrn : rd n r = some (p, sb :: r2)) (hs : sb = 59 ∨ sb = 124) (hrq : rd n r2 = none) :
    Calls Tryd.prog 91 #[.pointer (some ⟨rb, 0, none⟩)] W (ReadTo t rb (n + 1) i W) := by
  obtain ⟨hx, hi, hd⟩ := ext_cons hl
  have hlt := hr.lt
  have HRD := Lib.hid (rd_pair n r)
  rw [← hl] at HRD
  rw [hrn] at HRD
  dsimp only at HRD
  rw [if_pos hs, hrq] at HRD
  dsimp only at HRD
  have hl2 : r2.length + 1 ≤ n := by
    have h1 := (rd_text _ _ _ _ hrn).1
    have := congrArg List.length h1
    simp at this
    omega
  rcases hs with rfl | rfl
  · go_enter Tryd.func91, Tryd.ntmps91
    go_wp2_with fail
    go_at_call 115
    refine (take1 ht hl (hr.grown (World.grownBy_alloc W _ none) (by simp))).mono ?_
    rintro e W1 ⟨rfl, hr1, hg1⟩
    have hv := (Var.new W 0 ⟨#[]⟩ none 0 0).grown hg1 (by simp; omega)
    obtain ⟨c0, c1, c2, f1, f2⟩ := hr1.cells
    have hG := grown_trans (World.grownBy_alloc W _ (some rb)) hg1
    have hrb1 := hr1.lt
    have s01 : W.heap.size + 1 ≤ W1.heap.size := by have := hg1.size; simp at this; exact this
    go_wp2_with fail
    go_at_call 60
    refine (part_read t rb n (i + 1) IH W1 hi (by rw [hd]; exact hn) hr1).mono ?_
    rintro e W2 ⟨k, s, ad, m, cap, rfl, hg2, hm⟩
    rw [hd, hrn] at hm
    obtain ⟨j, hj, hjd, hr2, hnd⟩ := hm
    have hv2 := hv.grown hg2 (by simp; omega)
    have hG2 := grown_trans2 hG hg2
    have s12 := hg2.size
    have hA := World.grownBy_alloc W2 (.cells #[.int .u8 k, .string s, .slice ad m cap] 52) none
    have hr3 := hr2.grown hA (by simp)
    have hv3 := hv2.grown hA (by simp)
    have hx3 := Var.new W2 k s ad m cap
    have hG3 := grown_alloc hG2 (.cells #[.int .u8 k, .string s, .slice ad m cap] 52)
    have hK3 := World.grownBy_alloc W2 (.cells #[.int .u8 k, .string s, .slice ad m cap] 52) (some rb)
    go_wp2_with fail
    obtain ⟨_, hj2, hjd2⟩ := ext_cons hjd
    go_at_call 115
    refine (take1 ht hjd hr3).mono ?_
    rintro e W3 ⟨rfl, hr4, hg4⟩
    have hv4 := hv3.grown hg4 (by simp; omega)
    have hx4 := hx3.grown hg4 (by simp; omega)
    have hG4 := grown_trans2 hG3 hg4
    have hK4 := grown_trans2 hK3 hg4
    have s34 := hg4.size
    rw [World.size_alloc] at s34
    obtain ⟨d0, d1, d2, k1, k2⟩ := hr4.cells
    have hR5 := hr4.bad false
    have hv5 := hv4.grown hR5.2 (by simp; omega)
    have hx5 := hx4.grown hR5.2 (by simp; omega)
    have hG5 := setCell_grown (o := 2) hG4 (.inl rfl) (.bool false)
    have hK5 := setCell_grown (o := 2) hK4 (.inl rfl) (.bool false)
    have s5 : (W3.setCell ⟨rb, 2, none⟩ (.bool false)).heap.size = W3.heap.size := by simp
    go_wp2_with fail
    go_at_call 60
    refine (part_read t rb n (j + 1) IH _ hj2 (by rw [hjd2]; omega) hR5.1).mono ?_
    rintro e W5 ⟨k2, s2, ad2, m2, cap2, rfl, hg6, hm2⟩
    rw [hjd2, hrq] at hm2
    obtain ⟨j2, hj3, hr6⟩ := hm2
    have hv6 := hv5.grown hg6 (by simp; omega)
    have hx6 := hx5.grown hg6 (by simp; omega)
    have hG6 := grown_trans2 hG5 hg6
    have hK6 := grown_trans2 hK5 hg6
    have s56 := hg6.size
    have hA7 := World.grownBy_alloc W5 (.cells #[.int .u8 k2, .string s2, .slice ad2 m2 cap2] 52) none
    have hr7 := hr6.grown hA7 (by simp)
    have hv7 := hv6.grown hA7 (by simp)
    have hx7 := hx6.grown hA7 (by simp)
    have hy7 := Var.new W5 k2 s2 ad2 m2 cap2
    have hG7 := grown_alloc hG6 (.cells #[.int .u8 k2, .string s2, .slice ad2 m2 cap2] 52)
    have hK7 := grown_alloc hK6 (.cells #[.int .u8 k2, .string s2, .slice ad2 m2 cap2] 52)
    have hM7 := World.grownBy_alloc W5 (.cells #[.int .u8 k2, .string s2, .slice ad2 m2 cap2] 52) (some rb)
    obtain ⟨e0, e1, e2, l1, l2⟩ := hr7.cells
    have hR8 := hr7.bad true
    have hv8 := hv7.grown hR8.2 (by simp; omega)
    have hx8 := hx7.grown hR8.2 (by simp; omega)
    have hy8 := hy7.grown hR8.2 (by have := hr6.lt; simp; omega)
    have hG8 := setCell_grown (o := 2) hG7 (.inl rfl) (.bool true)
    go_wp2_with fail
    obtain ⟨U, hU⟩ : ∃ U, U = (W5.alloc (.cells #[.int .u8 k2, .string s2, .slice ad2 m2 cap2] 52)).setCell ⟨rb, 2, none⟩ (.bool true) := ⟨_, rfl⟩
    obtain ⟨g2, hgg2⟩ : ∃ g2, g2 = W2.heap.size := ⟨_, rfl⟩
    obtain ⟨g5, hgg5⟩ : ∃ g5, g5 = W5.heap.size := ⟨_, rfl⟩
    obtain ⟨g0, hgg0⟩ : ∃ g0, g0 = W.heap.size := ⟨_, rfl⟩
    rw [← hU, ← hgg2, ← hgg5, ← hgg0]
    rw [← hU] at hR8 hv8 hx8 hy8 hG8
    rw [← hgg2] at hx8
    rw [← hgg5] at hy8
    rw [← hgg0] at hv8
    obtain ⟨X, z, hcat, hX0, hXs, hsz1⟩ := blank (sg := ⟨#[59]⟩) (.inr ⟨_, rfl⟩)
    have hXi : (0 : Int) < (X.size : Int) := by omega
    have hsl : ¬ 9223372036854775807 < (⟨#[59]⟩ : ByteArray).size + 1 := by omega
    obtain ⟨p0, p1, p2, _⟩ := hx8.cells
    obtain ⟨q0, q1, q2, _⟩ := hy8.cells
    have hvA := hv8.grown (World.grownBy_alloc U (.cells #[.int .u8 k, .string s, .slice ad m cap, .int .u8 k2, .string s2, .slice ad2 m2 cap2] 52) none) (by simp)
    have hrA := hR8.1.grown (World.grownBy_alloc U (.cells #[.int .u8 k, .string s, .slice ad m cap, .int .u8 k2, .string s2, .slice ad2 m2 cap2] 52) none) (by simp)
    have hGA := grown_alloc hG8 (.cells #[.int .u8 k, .string s, .slice ad m cap, .int .u8 k2, .string s2, .slice ad2 m2 cap2] 52)
    obtain ⟨o0, o1, o2, n0, n1, n2⟩ := hvA.cells
    have HG2 := Lib.hid hgg2
    have HG5 := Lib.hid hgg5
    have HG0 := Lib.hid hgg0
    have HZ := Lib.hid hsz1
    have HCt := Lib.hid hcat
    have HX0 := Lib.hid hX0
    clear hU hgg2 hgg5 hgg0 hsz1
    go_region
    go_wp2_with fail
    have hg0 := HG0.out
    refine ret_node (var_drew (set3_var hvA _ _ _ _ _)) rfl rfl ?_
    refine ⟨_, _, _, _, _, rfl, grown_drew (set3_grown hGA (by omega) _ _ _ _ _), ?_⟩
    rw [HRD.out]
    exact ⟨j2, hj3, Rdr.drew (set3_rdr hrA (by omega) _ _ _ _ _)⟩
  · go_enter Tryd.func91, Tryd.ntmps91
    go_wp2_with fail
    go_at_call 115
    refine (take1 ht hl (hr.grown (World.grownBy_alloc W _ none) (by simp))).mono ?_
    rintro e W1 ⟨rfl, hr1, hg1⟩
    have hv := (Var.new W 0 ⟨#[]⟩ none 0 0).grown hg1 (by simp; omega)
    obtain ⟨c0, c1, c2, f1, f2⟩ := hr1.cells
    have hG := grown_trans (World.grownBy_alloc W _ (some rb)) hg1
    have hrb1 := hr1.lt
    have s01 : W.heap.size + 1 ≤ W1.heap.size := by have := hg1.size; simp at this; exact this
    go_wp2_with fail
    go_at_call 60
    refine (part_read t rb n (i + 1) IH W1 hi (by rw [hd]; exact hn) hr1).mono ?_
    rintro e W2 ⟨k, s, ad, m, cap, rfl, hg2, hm⟩
    rw [hd, hrn] at hm
    obtain ⟨j, hj, hjd, hr2, hnd⟩ := hm
    have hv2 := hv.grown hg2 (by simp; omega)
    have hG2 := grown_trans2 hG hg2
    have s12 := hg2.size
    have hA := World.grownBy_alloc W2 (.cells #[.int .u8 k, .string s, .slice ad m cap] 52) none
    have hr3 := hr2.grown hA (by simp)
    have hv3 := hv2.grown hA (by simp)
    have hx3 := Var.new W2 k s ad m cap
    have hG3 := grown_alloc hG2 (.cells #[.int .u8 k, .string s, .slice ad m cap] 52)
    have hK3 := World.grownBy_alloc W2 (.cells #[.int .u8 k, .string s, .slice ad m cap] 52) (some rb)
    go_wp2_with fail
    obtain ⟨_, hj2, hjd2⟩ := ext_cons hjd
    go_at_call 115
    refine (take1 ht hjd hr3).mono ?_
    rintro e W3 ⟨rfl, hr4, hg4⟩
    have hv4 := hv3.grown hg4 (by simp; omega)
    have hx4 := hx3.grown hg4 (by simp; omega)
    have hG4 := grown_trans2 hG3 hg4
    have hK4 := grown_trans2 hK3 hg4
    have s34 := hg4.size
    rw [World.size_alloc] at s34
    obtain ⟨d0, d1, d2, k1, k2⟩ := hr4.cells
    have hR5 := hr4.bad false
    have hv5 := hv4.grown hR5.2 (by simp; omega)
    have hx5 := hx4.grown hR5.2 (by simp; omega)
    have hG5 := setCell_grown (o := 2) hG4 (.inl rfl) (.bool false)
    have hK5 := setCell_grown (o := 2) hK4 (.inl rfl) (.bool false)
    have s5 : (W3.setCell ⟨rb, 2, none⟩ (.bool false)).heap.size = W3.heap.size := by simp
    go_wp2_with fail
    go_at_call 60
    refine (part_read t rb n (j + 1) IH _ hj2 (by rw [hjd2]; omega) hR5.1).mono ?_
    rintro e W5 ⟨k2, s2, ad2, m2, cap2, rfl, hg6, hm2⟩
    rw [hjd2, hrq] at hm2
    obtain ⟨j2, hj3, hr6⟩ := hm2
    have hv6 := hv5.grown hg6 (by simp; omega)
    have hx6 := hx5.grown hg6 (by simp; omega)
    have hG6 := grown_trans2 hG5 hg6
    have hK6 := grown_trans2 hK5 hg6
    have s56 := hg6.size
    have hA7 := World.grownBy_alloc W5 (.cells #[.int .u8 k2, .string s2, .slice ad2 m2 cap2] 52) none
    have hr7 := hr6.grown hA7 (by simp)
    have hv7 := hv6.grown hA7 (by simp)
    have hx7 := hx6.grown hA7 (by simp)
    have hy7 := Var.new W5 k2 s2 ad2 m2 cap2
    have hG7 := grown_alloc hG6 (.cells #[.int .u8 k2, .string s2, .slice ad2 m2 cap2] 52)
    have hK7 := grown_alloc hK6 (.cells #[.int .u8 k2, .string s2, .slice ad2 m2 cap2] 52)
    have hM7 := World.grownBy_alloc W5 (.cells #[.int .u8 k2, .string s2, .slice ad2 m2 cap2] 52) (some rb)
    obtain ⟨e0, e1, e2, l1, l2⟩ := hr7.cells
    have hR8 := hr7.bad true
    have hv8 := hv7.grown hR8.2 (by simp; omega)
    have hx8 := hx7.grown hR8.2 (by simp; omega)
    have hy8 := hy7.grown hR8.2 (by have := hr6.lt; simp; omega)
    have hG8 := setCell_grown (o := 2) hG7 (.inl rfl) (.bool true)
    go_wp2_with fail
    obtain ⟨U, hU⟩ : ∃ U, U = (W5.alloc (.cells #[.int .u8 k2, .string s2, .slice ad2 m2 cap2] 52)).setCell ⟨rb, 2, none⟩ (.bool true) := ⟨_, rfl⟩
    obtain ⟨g2, hgg2⟩ : ∃ g2, g2 = W2.heap.size := ⟨_, rfl⟩
    obtain ⟨g5, hgg5⟩ : ∃ g5, g5 = W5.heap.size := ⟨_, rfl⟩
    obtain ⟨g0, hgg0⟩ : ∃ g0, g0 = W.heap.size := ⟨_, rfl⟩
    rw [← hU, ← hgg2, ← hgg5, ← hgg0]
    rw [← hU] at hR8 hv8 hx8 hy8 hG8
    rw [← hgg2] at hx8
    rw [← hgg5] at hy8
    rw [← hgg0] at hv8
    obtain ⟨X, z, hcat, hX0, hXs, hsz1⟩ := blank (sg := ⟨#[124]⟩) (.inr ⟨_, rfl⟩)
    have hXi : (0 : Int) < (X.size : Int) := by omega
    have hsl : ¬ 9223372036854775807 < (⟨#[124]⟩ : ByteArray).size + 1 := by omega
    obtain ⟨p0, p1, p2, _⟩ := hx8.cells
    obtain ⟨q0, q1, q2, _⟩ := hy8.cells
    have hvA := hv8.grown (World.grownBy_alloc U (.cells #[.int .u8 k, .string s, .slice ad m cap, .int .u8 k2, .string s2, .slice ad2 m2 cap2] 52) none) (by simp)
    have hrA := hR8.1.grown (World.grownBy_alloc U (.cells #[.int .u8 k, .string s, .slice ad m cap, .int .u8 k2, .string s2, .slice ad2 m2 cap2] 52) none) (by simp)
    have hGA := grown_alloc hG8 (.cells #[.int .u8 k, .string s, .slice ad m cap, .int .u8 k2, .string s2, .slice ad2 m2 cap2] 52)
    obtain ⟨o0, o1, o2, n0, n1, n2⟩ := hvA.cells
    have HG2 := Lib.hid hgg2
    have HG5 := Lib.hid hgg5
    have HG0 := Lib.hid hgg0
    have HZ := Lib.hid hsz1
    have HCt := Lib.hid hcat
    have HX0 := Lib.hid hX0
    clear hU hgg2 hgg5 hgg0 hsz1
    go_region
    go_wp2_with fail
    have hg0 := HG0.out
    refine ret_node (var_drew (set3_var hvA _ _ _ _ _)) rfl rfl ?_
    refine ⟨_, _, _, _, _, rfl, grown_drew (set3_grown hGA (by omega) _ _ _ _ _), ?_⟩
    rw [HRD.out]
    exact ⟨j2, hj3, Rdr.drew (set3_rdr hrA (by omega) _ _ _ _ _)⟩

set_option maxHeartbeats 4000000 in
theorem pair_open (t : ByteArray) (ht : t.size ≤ 9000000) (rb n i : Nat) (IH : Reads t rb n) (W : World) (hr : Rdr W rb t i false) {r : List UInt8} (hl : t.toList.drop i = 40 :: r) (hn : r.length ≤ n) {p : Node} {sb : UInt8} {r2 : List UInt8} (hrn : rd n r = some (p, sb :: r2)) (hs : sb = 59 ∨ sb = 124) {q : Node} (hrq : rd n r2 = some (q, [])) :
    Calls Tryd.prog 91 #[.pointer (some ⟨rb, 0, none⟩)] W (ReadTo t rb (n + 1) i W) := by
  obtain ⟨hx, hi, hd⟩ := ext_cons hl
  have hlt := hr.lt
  have HRD := Lib.hid (rd_pair n r)
  rw [← hl] at HRD
  rw [hrn] at HRD
  dsimp only at HRD
  rw [if_pos hs, hrq] at HRD
  dsimp only at HRD
  have hl2 : r2.length + 1 ≤ n := by
    have h1 := (rd_text _ _ _ _ hrn).1
    have := congrArg List.length h1
    simp at this
    omega
  rcases hs with rfl | rfl
  · go_enter Tryd.func91, Tryd.ntmps91
    go_wp2_with fail
    go_at_call 115
    refine (take1 ht hl (hr.grown (World.grownBy_alloc W _ none) (by simp))).mono ?_
    rintro e W1 ⟨rfl, hr1, hg1⟩
    have hv := (Var.new W 0 ⟨#[]⟩ none 0 0).grown hg1 (by simp; omega)
    obtain ⟨c0, c1, c2, f1, f2⟩ := hr1.cells
    have hG := grown_trans (World.grownBy_alloc W _ (some rb)) hg1
    have hrb1 := hr1.lt
    have s01 : W.heap.size + 1 ≤ W1.heap.size := by have := hg1.size; simp at this; exact this
    go_wp2_with fail
    go_at_call 60
    refine (part_read t rb n (i + 1) IH W1 hi (by rw [hd]; exact hn) hr1).mono ?_
    rintro e W2 ⟨k, s, ad, m, cap, rfl, hg2, hm⟩
    rw [hd, hrn] at hm
    obtain ⟨j, hj, hjd, hr2, hnd⟩ := hm
    have hv2 := hv.grown hg2 (by simp; omega)
    have hG2 := grown_trans2 hG hg2
    have s12 := hg2.size
    have hA := World.grownBy_alloc W2 (.cells #[.int .u8 k, .string s, .slice ad m cap] 52) none
    have hr3 := hr2.grown hA (by simp)
    have hv3 := hv2.grown hA (by simp)
    have hx3 := Var.new W2 k s ad m cap
    have hG3 := grown_alloc hG2 (.cells #[.int .u8 k, .string s, .slice ad m cap] 52)
    have hK3 := World.grownBy_alloc W2 (.cells #[.int .u8 k, .string s, .slice ad m cap] 52) (some rb)
    go_wp2_with fail
    obtain ⟨_, hj2, hjd2⟩ := ext_cons hjd
    go_at_call 115
    refine (take1 ht hjd hr3).mono ?_
    rintro e W3 ⟨rfl, hr4, hg4⟩
    have hv4 := hv3.grown hg4 (by simp; omega)
    have hx4 := hx3.grown hg4 (by simp; omega)
    have hG4 := grown_trans2 hG3 hg4
    have hK4 := grown_trans2 hK3 hg4
    have s34 := hg4.size
    rw [World.size_alloc] at s34
    obtain ⟨d0, d1, d2, k1, k2⟩ := hr4.cells
    have hR5 := hr4.bad false
    have hv5 := hv4.grown hR5.2 (by simp; omega)
    have hx5 := hx4.grown hR5.2 (by simp; omega)
    have hG5 := setCell_grown (o := 2) hG4 (.inl rfl) (.bool false)
    have hK5 := setCell_grown (o := 2) hK4 (.inl rfl) (.bool false)
    have s5 : (W3.setCell ⟨rb, 2, none⟩ (.bool false)).heap.size = W3.heap.size := by simp
    go_wp2_with fail
    go_at_call 60
    refine (part_read t rb n (j + 1) IH _ hj2 (by rw [hjd2]; omega) hR5.1).mono ?_
    rintro e W5 ⟨k2, s2, ad2, m2, cap2, rfl, hg6, hm2⟩
    rw [hjd2, hrq] at hm2
    obtain ⟨j2, hj3, hjd3, hr6, hnq⟩ := hm2
    have hv6 := hv5.grown hg6 (by simp; omega)
    have hx6 := hx5.grown hg6 (by simp; omega)
    have hG6 := grown_trans2 hG5 hg6
    have hK6 := grown_trans2 hK5 hg6
    have s56 := hg6.size
    have hA7 := World.grownBy_alloc W5 (.cells #[.int .u8 k2, .string s2, .slice ad2 m2 cap2] 52) none
    have hr7 := hr6.grown hA7 (by simp)
    have hv7 := hv6.grown hA7 (by simp)
    have hx7 := hx6.grown hA7 (by simp)
    have hy7 := Var.new W5 k2 s2 ad2 m2 cap2
    have hG7 := grown_alloc hG6 (.cells #[.int .u8 k2, .string s2, .slice ad2 m2 cap2] 52)
    have hK7 := grown_alloc hK6 (.cells #[.int .u8 k2, .string s2, .slice ad2 m2 cap2] 52)
    have hM7 := World.grownBy_alloc W5 (.cells #[.int .u8 k2, .string s2, .slice ad2 m2 cap2] 52) (some rb)
    obtain ⟨e0, e1, e2, l1, l2⟩ := hr7.cells
    go_wp2_with fail
    go_at_call 115
    refine (take1_nil ht hj3 hjd3 hr7).mono ?_
    rintro e W7 ⟨rfl, hra, hga⟩
    have hv9 := hv7.grown hga (by simp; omega)
    have hx9 := hx7.grown hga (by simp; omega)
    have hy9 := hy7.grown hga (by have := hr6.lt; simp; omega)
    have hG9 := grown_trans2 hG7 hga
    have hK9 := grown_trans2 hK7 hga
    have hM9 := grown_trans2 hM7 hga
    obtain ⟨e0, e1, e2, l1, l2⟩ := hra.cells
    have hR8 := hra.bad true
    have hv8 := hv9.grown hR8.2 (by simp; omega)
    have hx8 := hx9.grown hR8.2 (by simp; omega)
    have hy8 := hy9.grown hR8.2 (by have := hr6.lt; simp; omega)
    have hG8 := setCell_grown (o := 2) hG9 (.inl rfl) (.bool true)
    have hK8 := setCell_grown (o := 2) hK9 (.inl rfl) (.bool true)
    have hM8 := setCell_grown (o := 2) hM9 (.inl rfl) (.bool true)
    go_wp2_with fail
    obtain ⟨U, hU⟩ : ∃ U, U = W7.setCell ⟨rb, 2, none⟩ (.bool true) := ⟨_, rfl⟩
    obtain ⟨g2, hgg2⟩ : ∃ g2, g2 = W2.heap.size := ⟨_, rfl⟩
    obtain ⟨g5, hgg5⟩ : ∃ g5, g5 = W5.heap.size := ⟨_, rfl⟩
    obtain ⟨g0, hgg0⟩ : ∃ g0, g0 = W.heap.size := ⟨_, rfl⟩
    rw [← hU, ← hgg2, ← hgg5, ← hgg0]
    rw [← hU] at hR8 hv8 hx8 hy8 hG8 hK8 hM8
    rw [← hgg2] at hx8
    rw [← hgg5] at hy8
    rw [← hgg0] at hv8
    obtain ⟨X, z, hcat, hX0, hXs, hsz1⟩ := blank (sg := ⟨#[59]⟩) (.inr ⟨_, rfl⟩)
    have hXi : (0 : Int) < (X.size : Int) := by omega
    have hsl : ¬ 9223372036854775807 < (⟨#[59]⟩ : ByteArray).size + 1 := by omega
    obtain ⟨p0, p1, p2, _⟩ := hx8.cells
    obtain ⟨q0, q1, q2, _⟩ := hy8.cells
    have hvA := hv8.grown (World.grownBy_alloc U (.cells #[.int .u8 k, .string s, .slice ad m cap, .int .u8 k2, .string s2, .slice ad2 m2 cap2] 52) none) (by simp)
    have hrA := hR8.1.grown (World.grownBy_alloc U (.cells #[.int .u8 k, .string s, .slice ad m cap, .int .u8 k2, .string s2, .slice ad2 m2 cap2] 52) none) (by simp)
    have hGA := grown_alloc hG8 (.cells #[.int .u8 k, .string s, .slice ad m cap, .int .u8 k2, .string s2, .slice ad2 m2 cap2] 52)
    obtain ⟨o0, o1, o2, n0, n1, n2⟩ := hvA.cells
    have HG2 := Lib.hid hgg2
    have HG5 := Lib.hid hgg5
    have HG0 := Lib.hid hgg0
    have HZ := Lib.hid hsz1
    have HCt := Lib.hid hcat
    have HX0 := Lib.hid hX0
    clear hU hgg2 hgg5 hgg0 hsz1
    go_region
    go_wp2_with fail
    have hg0 := HG0.out
    refine ret_node (var_drew (set3_var hvA _ _ _ _ _)) rfl rfl ?_
    refine ⟨_, _, _, _, _, rfl, grown_drew (set3_grown hGA (by omega) _ _ _ _ _), ?_⟩
    rw [HRD.out]
    exact ⟨j2, hj3, Rdr.drew (set3_rdr hrA (by omega) _ _ _ _ _)⟩
  · go_enter Tryd.func91, Tryd.ntmps91
    go_wp2_with fail
    go_at_call 115
    refine (take1 ht hl (hr.grown (World.grownBy_alloc W _ none) (by simp))).mono ?_
    rintro e W1 ⟨rfl, hr1, hg1⟩
    have hv := (Var.new W 0 ⟨#[]⟩ none 0 0).grown hg1 (by simp; omega)
    obtain ⟨c0, c1, c2, f1, f2⟩ := hr1.cells
    have hG := grown_trans (World.grownBy_alloc W _ (some rb)) hg1
    have hrb1 := hr1.lt
    have s01 : W.heap.size + 1 ≤ W1.heap.size := by have := hg1.size; simp at this; exact this
    go_wp2_with fail
    go_at_call 60
    refine (part_read t rb n (i + 1) IH W1 hi (by rw [hd]; exact hn) hr1).mono ?_
    rintro e W2 ⟨k, s, ad, m, cap, rfl, hg2, hm⟩
    rw [hd, hrn] at hm
    obtain ⟨j, hj, hjd, hr2, hnd⟩ := hm
    have hv2 := hv.grown hg2 (by simp; omega)
    have hG2 := grown_trans2 hG hg2
    have s12 := hg2.size
    have hA := World.grownBy_alloc W2 (.cells #[.int .u8 k, .string s, .slice ad m cap] 52) none
    have hr3 := hr2.grown hA (by simp)
    have hv3 := hv2.grown hA (by simp)
    have hx3 := Var.new W2 k s ad m cap
    have hG3 := grown_alloc hG2 (.cells #[.int .u8 k, .string s, .slice ad m cap] 52)
    have hK3 := World.grownBy_alloc W2 (.cells #[.int .u8 k, .string s, .slice ad m cap] 52) (some rb)
    go_wp2_with fail
    obtain ⟨_, hj2, hjd2⟩ := ext_cons hjd
    go_at_call 115
    refine (take1 ht hjd hr3).mono ?_
    rintro e W3 ⟨rfl, hr4, hg4⟩
    have hv4 := hv3.grown hg4 (by simp; omega)
    have hx4 := hx3.grown hg4 (by simp; omega)
    have hG4 := grown_trans2 hG3 hg4
    have hK4 := grown_trans2 hK3 hg4
    have s34 := hg4.size
    rw [World.size_alloc] at s34
    obtain ⟨d0, d1, d2, k1, k2⟩ := hr4.cells
    have hR5 := hr4.bad false
    have hv5 := hv4.grown hR5.2 (by simp; omega)
    have hx5 := hx4.grown hR5.2 (by simp; omega)
    have hG5 := setCell_grown (o := 2) hG4 (.inl rfl) (.bool false)
    have hK5 := setCell_grown (o := 2) hK4 (.inl rfl) (.bool false)
    have s5 : (W3.setCell ⟨rb, 2, none⟩ (.bool false)).heap.size = W3.heap.size := by simp
    go_wp2_with fail
    go_at_call 60
    refine (part_read t rb n (j + 1) IH _ hj2 (by rw [hjd2]; omega) hR5.1).mono ?_
    rintro e W5 ⟨k2, s2, ad2, m2, cap2, rfl, hg6, hm2⟩
    rw [hjd2, hrq] at hm2
    obtain ⟨j2, hj3, hjd3, hr6, hnq⟩ := hm2
    have hv6 := hv5.grown hg6 (by simp; omega)
    have hx6 := hx5.grown hg6 (by simp; omega)
    have hG6 := grown_trans2 hG5 hg6
    have hK6 := grown_trans2 hK5 hg6
    have s56 := hg6.size
    have hA7 := World.grownBy_alloc W5 (.cells #[.int .u8 k2, .string s2, .slice ad2 m2 cap2] 52) none
    have hr7 := hr6.grown hA7 (by simp)
    have hv7 := hv6.grown hA7 (by simp)
    have hx7 := hx6.grown hA7 (by simp)
    have hy7 := Var.new W5 k2 s2 ad2 m2 cap2
    have hG7 := grown_alloc hG6 (.cells #[.int .u8 k2, .string s2, .slice ad2 m2 cap2] 52)
    have hK7 := grown_alloc hK6 (.cells #[.int .u8 k2, .string s2, .slice ad2 m2 cap2] 52)
    have hM7 := World.grownBy_alloc W5 (.cells #[.int .u8 k2, .string s2, .slice ad2 m2 cap2] 52) (some rb)
    obtain ⟨e0, e1, e2, l1, l2⟩ := hr7.cells
    go_wp2_with fail
    go_at_call 115
    refine (take1_nil ht hj3 hjd3 hr7).mono ?_
    rintro e W7 ⟨rfl, hra, hga⟩
    have hv9 := hv7.grown hga (by simp; omega)
    have hx9 := hx7.grown hga (by simp; omega)
    have hy9 := hy7.grown hga (by have := hr6.lt; simp; omega)
    have hG9 := grown_trans2 hG7 hga
    have hK9 := grown_trans2 hK7 hga
    have hM9 := grown_trans2 hM7 hga
    obtain ⟨e0, e1, e2, l1, l2⟩ := hra.cells
    have hR8 := hra.bad true
    have hv8 := hv9.grown hR8.2 (by simp; omega)
    have hx8 := hx9.grown hR8.2 (by simp; omega)
    have hy8 := hy9.grown hR8.2 (by have := hr6.lt; simp; omega)
    have hG8 := setCell_grown (o := 2) hG9 (.inl rfl) (.bool true)
    have hK8 := setCell_grown (o := 2) hK9 (.inl rfl) (.bool true)
    have hM8 := setCell_grown (o := 2) hM9 (.inl rfl) (.bool true)
    go_wp2_with fail
    obtain ⟨U, hU⟩ : ∃ U, U = W7.setCell ⟨rb, 2, none⟩ (.bool true) := ⟨_, rfl⟩
    obtain ⟨g2, hgg2⟩ : ∃ g2, g2 = W2.heap.size := ⟨_, rfl⟩
    obtain ⟨g5, hgg5⟩ : ∃ g5, g5 = W5.heap.size := ⟨_, rfl⟩
    obtain ⟨g0, hgg0⟩ : ∃ g0, g0 = W.heap.size := ⟨_, rfl⟩
    rw [← hU, ← hgg2, ← hgg5, ← hgg0]
    rw [← hU] at hR8 hv8 hx8 hy8 hG8 hK8 hM8
    rw [← hgg2] at hx8
    rw [← hgg5] at hy8
    rw [← hgg0] at hv8
    obtain ⟨X, z, hcat, hX0, hXs, hsz1⟩ := blank (sg := ⟨#[124]⟩) (.inr ⟨_, rfl⟩)
    have hXi : (0 : Int) < (X.size : Int) := by omega
    have hsl : ¬ 9223372036854775807 < (⟨#[124]⟩ : ByteArray).size + 1 := by omega
    obtain ⟨p0, p1, p2, _⟩ := hx8.cells
    obtain ⟨q0, q1, q2, _⟩ := hy8.cells
    have hvA := hv8.grown (World.grownBy_alloc U (.cells #[.int .u8 k, .string s, .slice ad m cap, .int .u8 k2, .string s2, .slice ad2 m2 cap2] 52) none) (by simp)
    have hrA := hR8.1.grown (World.grownBy_alloc U (.cells #[.int .u8 k, .string s, .slice ad m cap, .int .u8 k2, .string s2, .slice ad2 m2 cap2] 52) none) (by simp)
    have hGA := grown_alloc hG8 (.cells #[.int .u8 k, .string s, .slice ad m cap, .int .u8 k2, .string s2, .slice ad2 m2 cap2] 52)
    obtain ⟨o0, o1, o2, n0, n1, n2⟩ := hvA.cells
    have HG2 := Lib.hid hgg2
    have HG5 := Lib.hid hgg5
    have HG0 := Lib.hid hgg0
    have HZ := Lib.hid hsz1
    have HCt := Lib.hid hcat
    have HX0 := Lib.hid hX0
    clear hU hgg2 hgg5 hgg0 hsz1
    go_region
    go_wp2_with fail
    have hg0 := HG0.out
    refine ret_node (var_drew (set3_var hvA _ _ _ _ _)) rfl rfl ?_
    refine ⟨_, _, _, _, _, rfl, grown_drew (set3_grown hGA (by omega) _ _ _ _ _), ?_⟩
    rw [HRD.out]
    exact ⟨j2, hj3, Rdr.drew (set3_rdr hrA (by omega) _ _ _ _ _)⟩

set_option maxHeartbeats 4000000 in
theorem pair_miss (t : ByteArray) (ht : t.size ≤ 9000000) (rb n i : Nat) (IH : Reads t rb n) (W : World) (hr : Rdr W rb t i false) {r : List UInt8} (hl : t.toList.drop i = 40 :: r) (hn : r.length ≤ n) {p : Node} {sb : UInt8} {r2 : List UInt8} (hrn : rd n r = some (p, sb :: r2)) (hs : sb = 59 ∨ sb = 124) {q : Node} {e : UInt8} {r3 : List UInt8} (hrq : rd n r2 = some (q, e :: r3)) (he : ¬ e = 41) :
    Calls Tryd.prog 91 #[.pointer (some ⟨rb, 0, none⟩)] W (ReadTo t rb (n + 1) i W) := by
  obtain ⟨hx, hi, hd⟩ := ext_cons hl
  have hlt := hr.lt
  have HRD := Lib.hid (rd_pair n r)
  rw [← hl] at HRD
  rw [hrn] at HRD
  dsimp only at HRD
  rw [if_pos hs, hrq] at HRD
  dsimp only at HRD
  rw [if_neg he] at HRD
  have hne1 : (e == 41) = false := by simpa using he
  have hne2 : (e != 41) = true := by simpa using he
  have hl2 : r2.length + 1 ≤ n := by
    have h1 := (rd_text _ _ _ _ hrn).1
    have := congrArg List.length h1
    simp at this
    omega
  rcases hs with rfl | rfl
  · go_enter Tryd.func91, Tryd.ntmps91
    go_wp2_with fail
    go_at_call 115
    refine (take1 ht hl (hr.grown (World.grownBy_alloc W _ none) (by simp))).mono ?_
    rintro e W1 ⟨rfl, hr1, hg1⟩
    have hv := (Var.new W 0 ⟨#[]⟩ none 0 0).grown hg1 (by simp; omega)
    obtain ⟨c0, c1, c2, f1, f2⟩ := hr1.cells
    have hG := grown_trans (World.grownBy_alloc W _ (some rb)) hg1
    have hrb1 := hr1.lt
    have s01 : W.heap.size + 1 ≤ W1.heap.size := by have := hg1.size; simp at this; exact this
    go_wp2_with fail
    go_at_call 60
    refine (part_read t rb n (i + 1) IH W1 hi (by rw [hd]; exact hn) hr1).mono ?_
    rintro e W2 ⟨k, s, ad, m, cap, rfl, hg2, hm⟩
    rw [hd, hrn] at hm
    obtain ⟨j, hj, hjd, hr2, hnd⟩ := hm
    have hv2 := hv.grown hg2 (by simp; omega)
    have hG2 := grown_trans2 hG hg2
    have s12 := hg2.size
    have hA := World.grownBy_alloc W2 (.cells #[.int .u8 k, .string s, .slice ad m cap] 52) none
    have hr3 := hr2.grown hA (by simp)
    have hv3 := hv2.grown hA (by simp)
    have hx3 := Var.new W2 k s ad m cap
    have hG3 := grown_alloc hG2 (.cells #[.int .u8 k, .string s, .slice ad m cap] 52)
    have hK3 := World.grownBy_alloc W2 (.cells #[.int .u8 k, .string s, .slice ad m cap] 52) (some rb)
    go_wp2_with fail
    obtain ⟨_, hj2, hjd2⟩ := ext_cons hjd
    go_at_call 115
    refine (take1 ht hjd hr3).mono ?_
    rintro e W3 ⟨rfl, hr4, hg4⟩
    have hv4 := hv3.grown hg4 (by simp; omega)
    have hx4 := hx3.grown hg4 (by simp; omega)
    have hG4 := grown_trans2 hG3 hg4
    have hK4 := grown_trans2 hK3 hg4
    have s34 := hg4.size
    rw [World.size_alloc] at s34
    obtain ⟨d0, d1, d2, k1, k2⟩ := hr4.cells
    have hR5 := hr4.bad false
    have hv5 := hv4.grown hR5.2 (by simp; omega)
    have hx5 := hx4.grown hR5.2 (by simp; omega)
    have hG5 := setCell_grown (o := 2) hG4 (.inl rfl) (.bool false)
    have hK5 := setCell_grown (o := 2) hK4 (.inl rfl) (.bool false)
    have s5 : (W3.setCell ⟨rb, 2, none⟩ (.bool false)).heap.size = W3.heap.size := by simp
    go_wp2_with fail
    go_at_call 60
    refine (part_read t rb n (j + 1) IH _ hj2 (by rw [hjd2]; omega) hR5.1).mono ?_
    rintro e W5 ⟨k2, s2, ad2, m2, cap2, rfl, hg6, hm2⟩
    rw [hjd2, hrq] at hm2
    obtain ⟨j2, hj3, hjd3, hr6, hnq⟩ := hm2
    have hv6 := hv5.grown hg6 (by simp; omega)
    have hx6 := hx5.grown hg6 (by simp; omega)
    have hG6 := grown_trans2 hG5 hg6
    have hK6 := grown_trans2 hK5 hg6
    have s56 := hg6.size
    have hA7 := World.grownBy_alloc W5 (.cells #[.int .u8 k2, .string s2, .slice ad2 m2 cap2] 52) none
    have hr7 := hr6.grown hA7 (by simp)
    have hv7 := hv6.grown hA7 (by simp)
    have hx7 := hx6.grown hA7 (by simp)
    have hy7 := Var.new W5 k2 s2 ad2 m2 cap2
    have hG7 := grown_alloc hG6 (.cells #[.int .u8 k2, .string s2, .slice ad2 m2 cap2] 52)
    have hK7 := grown_alloc hK6 (.cells #[.int .u8 k2, .string s2, .slice ad2 m2 cap2] 52)
    have hM7 := World.grownBy_alloc W5 (.cells #[.int .u8 k2, .string s2, .slice ad2 m2 cap2] 52) (some rb)
    obtain ⟨e0, e1, e2, l1, l2⟩ := hr7.cells
    obtain ⟨_, hj4, _⟩ := ext_cons hjd3
    go_wp2_with fail
    go_at_call 115
    refine (take1 ht hjd3 hr7).mono ?_
    rintro e W7 ⟨rfl, hra, hga⟩
    have hv9 := hv7.grown hga (by simp; omega)
    have hx9 := hx7.grown hga (by simp; omega)
    have hy9 := hy7.grown hga (by have := hr6.lt; simp; omega)
    have hG9 := grown_trans2 hG7 hga
    have hK9 := grown_trans2 hK7 hga
    have hM9 := grown_trans2 hM7 hga
    obtain ⟨e0, e1, e2, l1, l2⟩ := hra.cells
    have hR8 := hra.bad true
    have hv8 := hv9.grown hR8.2 (by simp; omega)
    have hx8 := hx9.grown hR8.2 (by simp; omega)
    have hy8 := hy9.grown hR8.2 (by have := hr6.lt; simp; omega)
    have hG8 := setCell_grown (o := 2) hG9 (.inl rfl) (.bool true)
    have hK8 := setCell_grown (o := 2) hK9 (.inl rfl) (.bool true)
    have hM8 := setCell_grown (o := 2) hM9 (.inl rfl) (.bool true)
    go_wp2_with fail
    obtain ⟨U, hU⟩ : ∃ U, U = W7.setCell ⟨rb, 2, none⟩ (.bool true) := ⟨_, rfl⟩
    obtain ⟨g2, hgg2⟩ : ∃ g2, g2 = W2.heap.size := ⟨_, rfl⟩
    obtain ⟨g5, hgg5⟩ : ∃ g5, g5 = W5.heap.size := ⟨_, rfl⟩
    obtain ⟨g0, hgg0⟩ : ∃ g0, g0 = W.heap.size := ⟨_, rfl⟩
    rw [← hU, ← hgg2, ← hgg5, ← hgg0]
    rw [← hU] at hR8 hv8 hx8 hy8 hG8 hK8 hM8
    rw [← hgg2] at hx8
    rw [← hgg5] at hy8
    rw [← hgg0] at hv8
    obtain ⟨X, z, hcat, hX0, hXs, hsz1⟩ := blank (sg := ⟨#[59]⟩) (.inr ⟨_, rfl⟩)
    have hXi : (0 : Int) < (X.size : Int) := by omega
    have hsl : ¬ 9223372036854775807 < (⟨#[59]⟩ : ByteArray).size + 1 := by omega
    obtain ⟨p0, p1, p2, _⟩ := hx8.cells
    obtain ⟨q0, q1, q2, _⟩ := hy8.cells
    have hvA := hv8.grown (World.grownBy_alloc U (.cells #[.int .u8 k, .string s, .slice ad m cap, .int .u8 k2, .string s2, .slice ad2 m2 cap2] 52) none) (by simp)
    have hrA := hR8.1.grown (World.grownBy_alloc U (.cells #[.int .u8 k, .string s, .slice ad m cap, .int .u8 k2, .string s2, .slice ad2 m2 cap2] 52) none) (by simp)
    have hGA := grown_alloc hG8 (.cells #[.int .u8 k, .string s, .slice ad m cap, .int .u8 k2, .string s2, .slice ad2 m2 cap2] 52)
    obtain ⟨o0, o1, o2, n0, n1, n2⟩ := hvA.cells
    have HG2 := Lib.hid hgg2
    have HG5 := Lib.hid hgg5
    have HG0 := Lib.hid hgg0
    have HZ := Lib.hid hsz1
    have HCt := Lib.hid hcat
    have HX0 := Lib.hid hX0
    clear hU hgg2 hgg5 hgg0 hsz1
    go_region
    go_wp2_with fail
    have hg0 := HG0.out
    refine ret_node (var_drew (set3_var hvA _ _ _ _ _)) rfl rfl ?_
    refine ⟨_, _, _, _, _, rfl, grown_drew (set3_grown hGA (by omega) _ _ _ _ _), ?_⟩
    rw [HRD.out]
    exact ⟨j2 + 1, hj4, Rdr.drew (set3_rdr hrA (by omega) _ _ _ _ _)⟩
  · go_enter Tryd.func91, Tryd.ntmps91
    go_wp2_with fail
    go_at_call 115
    refine (take1 ht hl (hr.grown (World.grownBy_alloc W _ none) (by simp))).mono ?_
    rintro e W1 ⟨rfl, hr1, hg1⟩
    have hv := (Var.new W 0 ⟨#[]⟩ none 0 0).grown hg1 (by simp; omega)
    obtain ⟨c0, c1, c2, f1, f2⟩ := hr1.cells
    have hG := grown_trans (World.grownBy_alloc W _ (some rb)) hg1
    have hrb1 := hr1.lt
    have s01 : W.heap.size + 1 ≤ W1.heap.size := by have := hg1.size; simp at this; exact this
    go_wp2_with fail
    go_at_call 60
    refine (part_read t rb n (i + 1) IH W1 hi (by rw [hd]; exact hn) hr1).mono ?_
    rintro e W2 ⟨k, s, ad, m, cap, rfl, hg2, hm⟩
    rw [hd, hrn] at hm
    obtain ⟨j, hj, hjd, hr2, hnd⟩ := hm
    have hv2 := hv.grown hg2 (by simp; omega)
    have hG2 := grown_trans2 hG hg2
    have s12 := hg2.size
    have hA := World.grownBy_alloc W2 (.cells #[.int .u8 k, .string s, .slice ad m cap] 52) none
    have hr3 := hr2.grown hA (by simp)
    have hv3 := hv2.grown hA (by simp)
    have hx3 := Var.new W2 k s ad m cap
    have hG3 := grown_alloc hG2 (.cells #[.int .u8 k, .string s, .slice ad m cap] 52)
    have hK3 := World.grownBy_alloc W2 (.cells #[.int .u8 k, .string s, .slice ad m cap] 52) (some rb)
    go_wp2_with fail
    obtain ⟨_, hj2, hjd2⟩ := ext_cons hjd
    go_at_call 115
    refine (take1 ht hjd hr3).mono ?_
    rintro e W3 ⟨rfl, hr4, hg4⟩
    have hv4 := hv3.grown hg4 (by simp; omega)
    have hx4 := hx3.grown hg4 (by simp; omega)
    have hG4 := grown_trans2 hG3 hg4
    have hK4 := grown_trans2 hK3 hg4
    have s34 := hg4.size
    rw [World.size_alloc] at s34
    obtain ⟨d0, d1, d2, k1, k2⟩ := hr4.cells
    have hR5 := hr4.bad false
    have hv5 := hv4.grown hR5.2 (by simp; omega)
    have hx5 := hx4.grown hR5.2 (by simp; omega)
    have hG5 := setCell_grown (o := 2) hG4 (.inl rfl) (.bool false)
    have hK5 := setCell_grown (o := 2) hK4 (.inl rfl) (.bool false)
    have s5 : (W3.setCell ⟨rb, 2, none⟩ (.bool false)).heap.size = W3.heap.size := by simp
    go_wp2_with fail
    go_at_call 60
    refine (part_read t rb n (j + 1) IH _ hj2 (by rw [hjd2]; omega) hR5.1).mono ?_
    rintro e W5 ⟨k2, s2, ad2, m2, cap2, rfl, hg6, hm2⟩
    rw [hjd2, hrq] at hm2
    obtain ⟨j2, hj3, hjd3, hr6, hnq⟩ := hm2
    have hv6 := hv5.grown hg6 (by simp; omega)
    have hx6 := hx5.grown hg6 (by simp; omega)
    have hG6 := grown_trans2 hG5 hg6
    have hK6 := grown_trans2 hK5 hg6
    have s56 := hg6.size
    have hA7 := World.grownBy_alloc W5 (.cells #[.int .u8 k2, .string s2, .slice ad2 m2 cap2] 52) none
    have hr7 := hr6.grown hA7 (by simp)
    have hv7 := hv6.grown hA7 (by simp)
    have hx7 := hx6.grown hA7 (by simp)
    have hy7 := Var.new W5 k2 s2 ad2 m2 cap2
    have hG7 := grown_alloc hG6 (.cells #[.int .u8 k2, .string s2, .slice ad2 m2 cap2] 52)
    have hK7 := grown_alloc hK6 (.cells #[.int .u8 k2, .string s2, .slice ad2 m2 cap2] 52)
    have hM7 := World.grownBy_alloc W5 (.cells #[.int .u8 k2, .string s2, .slice ad2 m2 cap2] 52) (some rb)
    obtain ⟨e0, e1, e2, l1, l2⟩ := hr7.cells
    obtain ⟨_, hj4, _⟩ := ext_cons hjd3
    go_wp2_with fail
    go_at_call 115
    refine (take1 ht hjd3 hr7).mono ?_
    rintro e W7 ⟨rfl, hra, hga⟩
    have hv9 := hv7.grown hga (by simp; omega)
    have hx9 := hx7.grown hga (by simp; omega)
    have hy9 := hy7.grown hga (by have := hr6.lt; simp; omega)
    have hG9 := grown_trans2 hG7 hga
    have hK9 := grown_trans2 hK7 hga
    have hM9 := grown_trans2 hM7 hga
    obtain ⟨e0, e1, e2, l1, l2⟩ := hra.cells
    have hR8 := hra.bad true
    have hv8 := hv9.grown hR8.2 (by simp; omega)
    have hx8 := hx9.grown hR8.2 (by simp; omega)
    have hy8 := hy9.grown hR8.2 (by have := hr6.lt; simp; omega)
    have hG8 := setCell_grown (o := 2) hG9 (.inl rfl) (.bool true)
    have hK8 := setCell_grown (o := 2) hK9 (.inl rfl) (.bool true)
    have hM8 := setCell_grown (o := 2) hM9 (.inl rfl) (.bool true)
    go_wp2_with fail
    obtain ⟨U, hU⟩ : ∃ U, U = W7.setCell ⟨rb, 2, none⟩ (.bool true) := ⟨_, rfl⟩
    obtain ⟨g2, hgg2⟩ : ∃ g2, g2 = W2.heap.size := ⟨_, rfl⟩
    obtain ⟨g5, hgg5⟩ : ∃ g5, g5 = W5.heap.size := ⟨_, rfl⟩
    obtain ⟨g0, hgg0⟩ : ∃ g0, g0 = W.heap.size := ⟨_, rfl⟩
    rw [← hU, ← hgg2, ← hgg5, ← hgg0]
    rw [← hU] at hR8 hv8 hx8 hy8 hG8 hK8 hM8
    rw [← hgg2] at hx8
    rw [← hgg5] at hy8
    rw [← hgg0] at hv8
    obtain ⟨X, z, hcat, hX0, hXs, hsz1⟩ := blank (sg := ⟨#[124]⟩) (.inr ⟨_, rfl⟩)
    have hXi : (0 : Int) < (X.size : Int) := by omega
    have hsl : ¬ 9223372036854775807 < (⟨#[124]⟩ : ByteArray).size + 1 := by omega
    obtain ⟨p0, p1, p2, _⟩ := hx8.cells
    obtain ⟨q0, q1, q2, _⟩ := hy8.cells
    have hvA := hv8.grown (World.grownBy_alloc U (.cells #[.int .u8 k, .string s, .slice ad m cap, .int .u8 k2, .string s2, .slice ad2 m2 cap2] 52) none) (by simp)
    have hrA := hR8.1.grown (World.grownBy_alloc U (.cells #[.int .u8 k, .string s, .slice ad m cap, .int .u8 k2, .string s2, .slice ad2 m2 cap2] 52) none) (by simp)
    have hGA := grown_alloc hG8 (.cells #[.int .u8 k, .string s, .slice ad m cap, .int .u8 k2, .string s2, .slice ad2 m2 cap2] 52)
    obtain ⟨o0, o1, o2, n0, n1, n2⟩ := hvA.cells
    have HG2 := Lib.hid hgg2
    have HG5 := Lib.hid hgg5
    have HG0 := Lib.hid hgg0
    have HZ := Lib.hid hsz1
    have HCt := Lib.hid hcat
    have HX0 := Lib.hid hX0
    clear hU hgg2 hgg5 hgg0 hsz1
    go_region
    go_wp2_with fail
    have hg0 := HG0.out
    refine ret_node (var_drew (set3_var hvA _ _ _ _ _)) rfl rfl ?_
    refine ⟨_, _, _, _, _, rfl, grown_drew (set3_grown hGA (by omega) _ _ _ _ _), ?_⟩
    rw [HRD.out]
    exact ⟨j2 + 1, hj4, Rdr.drew (set3_rdr hrA (by omega) _ _ _ _ _)⟩

set_option maxHeartbeats 4000000 in
theorem pair_hit (t : ByteArray) (ht : t.size ≤ 9000000) (rb n i : Nat) (IH : Reads t rb n) (W : World) (hr : Rdr W rb t i false) {r : List UInt8} (hl : t.toList.drop i = 40 :: r) (hn : r.length ≤ n) {p : Node} {sb : UInt8} {r2 : List UInt8} (hrn : rd n r = some (p, sb :: r2)) (hs : sb = 59 ∨ sb = 124) {q : Node} {r3 : List UInt8} (hrq : rd n r2 = some (q, 41 :: r3)) :
    Calls Tryd.prog 91 #[.pointer (some ⟨rb, 0, none⟩)] W (ReadTo t rb (n + 1) i W) := by
  obtain ⟨hx, hi, hd⟩ := ext_cons hl
  have hlt := hr.lt
  have HRD := Lib.hid (rd_pair n r)
  rw [← hl] at HRD
  rw [hrn] at HRD
  dsimp only at HRD
  rw [if_pos hs, hrq] at HRD
  dsimp only at HRD
  rw [if_pos rfl] at HRD
  have hl2 : r2.length + 1 ≤ n := by
    have h1 := (rd_text _ _ _ _ hrn).1
    have := congrArg List.length h1
    simp at this
    omega
  rcases hs with rfl | rfl
  · go_enter Tryd.func91, Tryd.ntmps91
    go_wp2_with fail
    go_at_call 115
    refine (take1 ht hl (hr.grown (World.grownBy_alloc W _ none) (by simp))).mono ?_
    rintro e W1 ⟨rfl, hr1, hg1⟩
    have hv := (Var.new W 0 ⟨#[]⟩ none 0 0).grown hg1 (by simp; omega)
    obtain ⟨c0, c1, c2, f1, f2⟩ := hr1.cells
    have hG := grown_trans (World.grownBy_alloc W _ (some rb)) hg1
    have hrb1 := hr1.lt
    have s01 : W.heap.size + 1 ≤ W1.heap.size := by have := hg1.size; simp at this; exact this
    go_wp2_with fail
    go_at_call 60
    refine (part_read t rb n (i + 1) IH W1 hi (by rw [hd]; exact hn) hr1).mono ?_
    rintro e W2 ⟨k, s, ad, m, cap, rfl, hg2, hm⟩
    rw [hd, hrn] at hm
    obtain ⟨j, hj, hjd, hr2, hnd⟩ := hm
    have hv2 := hv.grown hg2 (by simp; omega)
    have hG2 := grown_trans2 hG hg2
    have s12 := hg2.size
    have hA := World.grownBy_alloc W2 (.cells #[.int .u8 k, .string s, .slice ad m cap] 52) none
    have hr3 := hr2.grown hA (by simp)
    have hv3 := hv2.grown hA (by simp)
    have hx3 := Var.new W2 k s ad m cap
    have hG3 := grown_alloc hG2 (.cells #[.int .u8 k, .string s, .slice ad m cap] 52)
    have hK3 := World.grownBy_alloc W2 (.cells #[.int .u8 k, .string s, .slice ad m cap] 52) (some rb)
    go_wp2_with fail
    obtain ⟨_, hj2, hjd2⟩ := ext_cons hjd
    go_at_call 115
    refine (take1 ht hjd hr3).mono ?_
    rintro e W3 ⟨rfl, hr4, hg4⟩
    have hv4 := hv3.grown hg4 (by simp; omega)
    have hx4 := hx3.grown hg4 (by simp; omega)
    have hG4 := grown_trans2 hG3 hg4
    have hK4 := grown_trans2 hK3 hg4
    have s34 := hg4.size
    rw [World.size_alloc] at s34
    obtain ⟨d0, d1, d2, k1, k2⟩ := hr4.cells
    have hR5 := hr4.bad false
    have hv5 := hv4.grown hR5.2 (by simp; omega)
    have hx5 := hx4.grown hR5.2 (by simp; omega)
    have hG5 := setCell_grown (o := 2) hG4 (.inl rfl) (.bool false)
    have hK5 := setCell_grown (o := 2) hK4 (.inl rfl) (.bool false)
    have s5 : (W3.setCell ⟨rb, 2, none⟩ (.bool false)).heap.size = W3.heap.size := by simp
    go_wp2_with fail
    go_at_call 60
    refine (part_read t rb n (j + 1) IH _ hj2 (by rw [hjd2]; omega) hR5.1).mono ?_
    rintro e W5 ⟨k2, s2, ad2, m2, cap2, rfl, hg6, hm2⟩
    rw [hjd2, hrq] at hm2
    obtain ⟨j2, hj3, hjd3, hr6, hnq⟩ := hm2
    have hv6 := hv5.grown hg6 (by simp; omega)
    have hx6 := hx5.grown hg6 (by simp; omega)
    have hG6 := grown_trans2 hG5 hg6
    have hK6 := grown_trans2 hK5 hg6
    have s56 := hg6.size
    have hA7 := World.grownBy_alloc W5 (.cells #[.int .u8 k2, .string s2, .slice ad2 m2 cap2] 52) none
    have hr7 := hr6.grown hA7 (by simp)
    have hv7 := hv6.grown hA7 (by simp)
    have hx7 := hx6.grown hA7 (by simp)
    have hy7 := Var.new W5 k2 s2 ad2 m2 cap2
    have hG7 := grown_alloc hG6 (.cells #[.int .u8 k2, .string s2, .slice ad2 m2 cap2] 52)
    have hK7 := grown_alloc hK6 (.cells #[.int .u8 k2, .string s2, .slice ad2 m2 cap2] 52)
    have hM7 := World.grownBy_alloc W5 (.cells #[.int .u8 k2, .string s2, .slice ad2 m2 cap2] 52) (some rb)
    obtain ⟨e0, e1, e2, l1, l2⟩ := hr7.cells
    obtain ⟨_, hj4, hjd4⟩ := ext_cons hjd3
    go_wp2_with fail
    go_at_call 115
    refine (take1 ht hjd3 hr7).mono ?_
    rintro e W7 ⟨rfl, hra, hga⟩
    have hv9 := hv7.grown hga (by simp; omega)
    have hx9 := hx7.grown hga (by simp; omega)
    have hy9 := hy7.grown hga (by have := hr6.lt; simp; omega)
    have hG9 := grown_trans2 hG7 hga
    have hK9 := grown_trans2 hK7 hga
    have hM9 := grown_trans2 hM7 hga
    obtain ⟨e0, e1, e2, l1, l2⟩ := hra.cells
    have hR8 := hra.bad false
    have hv8 := hv9.grown hR8.2 (by simp; omega)
    have hx8 := hx9.grown hR8.2 (by simp; omega)
    have hy8 := hy9.grown hR8.2 (by have := hr6.lt; simp; omega)
    have hG8 := setCell_grown (o := 2) hG9 (.inl rfl) (.bool false)
    have hK8 := setCell_grown (o := 2) hK9 (.inl rfl) (.bool false)
    have hM8 := setCell_grown (o := 2) hM9 (.inl rfl) (.bool false)
    go_wp2_with fail
    obtain ⟨U, hU⟩ : ∃ U, U = W7.setCell ⟨rb, 2, none⟩ (.bool false) := ⟨_, rfl⟩
    obtain ⟨g2, hgg2⟩ : ∃ g2, g2 = W2.heap.size := ⟨_, rfl⟩
    obtain ⟨g5, hgg5⟩ : ∃ g5, g5 = W5.heap.size := ⟨_, rfl⟩
    obtain ⟨g0, hgg0⟩ : ∃ g0, g0 = W.heap.size := ⟨_, rfl⟩
    rw [← hU, ← hgg2, ← hgg5, ← hgg0]
    rw [← hU] at hR8 hv8 hx8 hy8 hG8 hK8 hM8
    rw [← hgg2] at hx8
    rw [← hgg5] at hy8
    rw [← hgg0] at hv8
    obtain ⟨X, z, hcat, hX0, hXs, hsz1⟩ := blank (sg := ⟨#[59]⟩) (.inr ⟨_, rfl⟩)
    have hXi : (0 : Int) < (X.size : Int) := by omega
    have hsl : ¬ 9223372036854775807 < (⟨#[59]⟩ : ByteArray).size + 1 := by omega
    obtain ⟨p0, p1, p2, _⟩ := hx8.cells
    obtain ⟨q0, q1, q2, _⟩ := hy8.cells
    have hvA := hv8.grown (World.grownBy_alloc U (.cells #[.int .u8 k, .string s, .slice ad m cap, .int .u8 k2, .string s2, .slice ad2 m2 cap2] 52) none) (by simp)
    have hrA := hR8.1.grown (World.grownBy_alloc U (.cells #[.int .u8 k, .string s, .slice ad m cap, .int .u8 k2, .string s2, .slice ad2 m2 cap2] 52) none) (by simp)
    have hGA := grown_alloc hG8 (.cells #[.int .u8 k, .string s, .slice ad m cap, .int .u8 k2, .string s2, .slice ad2 m2 cap2] 52)
    obtain ⟨o0, o1, o2, n0, n1, n2⟩ := hvA.cells
    have HG2 := Lib.hid hgg2
    have HG5 := Lib.hid hgg5
    have HG0 := Lib.hid hgg0
    have HZ := Lib.hid hsz1
    have HCt := Lib.hid hcat
    have HX0 := Lib.hid hX0
    clear hU hgg2 hgg5 hgg0 hsz1
    go_region
    go_wp2_with fail
    have hg0 := HG0.out
    refine ret_node (var_drew (set3_var hvA _ _ _ _ _)) rfl rfl ?_
    refine ⟨_, _, _, _, _, rfl, grown_drew (set3_grown hGA (by omega) _ _ _ _ _), ?_⟩
    rw [HRD.out]
    have hG2e := HG2.out
    have hG5e := HG5.out
    have hzs : z = 59 := by
      have h1 := HCt.out
      have h2 : (⟨#[59]⟩ : ByteArray) ++ ⟨#[32]⟩ = ⟨#[59, 32]⟩ := cat_two 59 [32]
      rw [h2] at h1
      subst h1
      exact (HX0.out (by decide)).symm
    subst hzs
    have hUs := hK8.size
    have hUs2 := hM8.size
    have hszA := set3_size (U.alloc (.cells #[.int .u8 k, .string s, .slice ad m cap, .int .u8 k2, .string s2, .slice ad2 m2 cap2] 52)) g0 (UInt8.toNat 59) ⟨#[]⟩ (some ⟨U.heap.size, 0, none⟩) 2 2
    have six := six_cells U (.int .u8 k) (.string s) (.slice ad m cap) (.int .u8 k2) (.string s2) (.slice ad2 m2 cap2)
    have hKA := grown_alloc hK8 (.cells #[.int .u8 k, .string s, .slice ad m cap, .int .u8 k2, .string s2, .slice ad2 m2 cap2] 52)
    have hMA := grown_alloc hM8 (.cells #[.int .u8 k, .string s, .slice ad m cap, .int .u8 k2, .string s2, .slice ad2 m2 cap2] 52)
    have Sp := same_of (g := g0) hKA hrb1 (by omega) (UInt8.toNat 59) ⟨#[]⟩ (some ⟨U.heap.size, 0, none⟩) 2 2
    have Sq := same_of (g := g0) (lo := (W3.setCell ⟨rb, 2, none⟩ (.bool false)).heap.size) hMA (by omega) (by omega) (UInt8.toNat 59) ⟨#[]⟩ (some ⟨U.heap.size, 0, none⟩) 2 2
    have hUg : U.heap.size ≠ g0 := by omega
    have cz : ∀ o, (set3 (U.alloc (.cells #[.int .u8 k, .string s, .slice ad m cap, .int .u8 k2, .string s2, .slice ad2 m2 cap2] 52)) g0 (UInt8.toNat 59) ⟨#[]⟩ (some ⟨U.heap.size, 0, none⟩) 2 2).cell? ⟨U.heap.size, o, none⟩ = (U.alloc (.cells #[.int .u8 k, .string s, .slice ad m cap, .int .u8 k2, .string s2, .slice ad2 m2 cap2] 52)).cell? ⟨U.heap.size, o, none⟩ := fun o =>
      World.cell?_of_block (set3_block hUg _ _ _ _ _)
    rw [World.size_alloc] at hszA
    have hnd' := (hnd.same Sp).wide (lo' := W.heap.size) (hi' := U.heap.size + 1) (by omega) (by omega)
    have hnq' := (hnq.same Sq).wide (lo' := W.heap.size) (hi' := U.heap.size + 1) (by omega) (by omega)
    have HN : NodeIs (set3 (U.alloc (.cells #[.int .u8 k, .string s, .slice ad m cap, .int .u8 k2, .string s2, .slice ad2 m2 cap2] 52)) g0 (UInt8.toNat 59) ⟨#[]⟩ (some ⟨U.heap.size, 0, none⟩) 2 2) W.heap.size (U.heap.size + 1) (.pair 59 p q) (UInt8.toNat 59) ⟨#[]⟩ (some ⟨U.heap.size, 0, none⟩) 2 2 :=
      ⟨rfl, rfl, rfl, _, rfl, by omega, by omega, k, s, ad, m, cap, k2, s2, ad2, m2, cap2, ⟨(cz 0).trans (six 0 _ rfl), (cz 1).trans (six 1 _ rfl), (cz 2).trans (six 2 _ rfl)⟩, ⟨(cz 3).trans (six 3 _ rfl), (cz 4).trans (six 4 _ rfl), (cz 5).trans (six 5 _ rfl)⟩, hnd', hnq'⟩
    exact ⟨j2 + 1, hj4, hjd4, Rdr.drew (set3_rdr hrA (by omega) _ _ _ _ _), (HN.drew).wide (Nat.le_refl _) (Nat.le_of_eq hszA.symm)⟩
  · go_enter Tryd.func91, Tryd.ntmps91
    go_wp2_with fail
    go_at_call 115
    refine (take1 ht hl (hr.grown (World.grownBy_alloc W _ none) (by simp))).mono ?_
    rintro e W1 ⟨rfl, hr1, hg1⟩
    have hv := (Var.new W 0 ⟨#[]⟩ none 0 0).grown hg1 (by simp; omega)
    obtain ⟨c0, c1, c2, f1, f2⟩ := hr1.cells
    have hG := grown_trans (World.grownBy_alloc W _ (some rb)) hg1
    have hrb1 := hr1.lt
    have s01 : W.heap.size + 1 ≤ W1.heap.size := by have := hg1.size; simp at this; exact this
    go_wp2_with fail
    go_at_call 60
    refine (part_read t rb n (i + 1) IH W1 hi (by rw [hd]; exact hn) hr1).mono ?_
    rintro e W2 ⟨k, s, ad, m, cap, rfl, hg2, hm⟩
    rw [hd, hrn] at hm
    obtain ⟨j, hj, hjd, hr2, hnd⟩ := hm
    have hv2 := hv.grown hg2 (by simp; omega)
    have hG2 := grown_trans2 hG hg2
    have s12 := hg2.size
    have hA := World.grownBy_alloc W2 (.cells #[.int .u8 k, .string s, .slice ad m cap] 52) none
    have hr3 := hr2.grown hA (by simp)
    have hv3 := hv2.grown hA (by simp)
    have hx3 := Var.new W2 k s ad m cap
    have hG3 := grown_alloc hG2 (.cells #[.int .u8 k, .string s, .slice ad m cap] 52)
    have hK3 := World.grownBy_alloc W2 (.cells #[.int .u8 k, .string s, .slice ad m cap] 52) (some rb)
    go_wp2_with fail
    obtain ⟨_, hj2, hjd2⟩ := ext_cons hjd
    go_at_call 115
    refine (take1 ht hjd hr3).mono ?_
    rintro e W3 ⟨rfl, hr4, hg4⟩
    have hv4 := hv3.grown hg4 (by simp; omega)
    have hx4 := hx3.grown hg4 (by simp; omega)
    have hG4 := grown_trans2 hG3 hg4
    have hK4 := grown_trans2 hK3 hg4
    have s34 := hg4.size
    rw [World.size_alloc] at s34
    obtain ⟨d0, d1, d2, k1, k2⟩ := hr4.cells
    have hR5 := hr4.bad false
    have hv5 := hv4.grown hR5.2 (by simp; omega)
    have hx5 := hx4.grown hR5.2 (by simp; omega)
    have hG5 := setCell_grown (o := 2) hG4 (.inl rfl) (.bool false)
    have hK5 := setCell_grown (o := 2) hK4 (.inl rfl) (.bool false)
    have s5 : (W3.setCell ⟨rb, 2, none⟩ (.bool false)).heap.size = W3.heap.size := by simp
    go_wp2_with fail
    go_at_call 60
    refine (part_read t rb n (j + 1) IH _ hj2 (by rw [hjd2]; omega) hR5.1).mono ?_
    rintro e W5 ⟨k2, s2, ad2, m2, cap2, rfl, hg6, hm2⟩
    rw [hjd2, hrq] at hm2
    obtain ⟨j2, hj3, hjd3, hr6, hnq⟩ := hm2
    have hv6 := hv5.grown hg6 (by simp; omega)
    have hx6 := hx5.grown hg6 (by simp; omega)
    have hG6 := grown_trans2 hG5 hg6
    have hK6 := grown_trans2 hK5 hg6
    have s56 := hg6.size
    have hA7 := World.grownBy_alloc W5 (.cells #[.int .u8 k2, .string s2, .slice ad2 m2 cap2] 52) none
    have hr7 := hr6.grown hA7 (by simp)
    have hv7 := hv6.grown hA7 (by simp)
    have hx7 := hx6.grown hA7 (by simp)
    have hy7 := Var.new W5 k2 s2 ad2 m2 cap2
    have hG7 := grown_alloc hG6 (.cells #[.int .u8 k2, .string s2, .slice ad2 m2 cap2] 52)
    have hK7 := grown_alloc hK6 (.cells #[.int .u8 k2, .string s2, .slice ad2 m2 cap2] 52)
    have hM7 := World.grownBy_alloc W5 (.cells #[.int .u8 k2, .string s2, .slice ad2 m2 cap2] 52) (some rb)
    obtain ⟨e0, e1, e2, l1, l2⟩ := hr7.cells
    obtain ⟨_, hj4, hjd4⟩ := ext_cons hjd3
    go_wp2_with fail
    go_at_call 115
    refine (take1 ht hjd3 hr7).mono ?_
    rintro e W7 ⟨rfl, hra, hga⟩
    have hv9 := hv7.grown hga (by simp; omega)
    have hx9 := hx7.grown hga (by simp; omega)
    have hy9 := hy7.grown hga (by have := hr6.lt; simp; omega)
    have hG9 := grown_trans2 hG7 hga
    have hK9 := grown_trans2 hK7 hga
    have hM9 := grown_trans2 hM7 hga
    obtain ⟨e0, e1, e2, l1, l2⟩ := hra.cells
    have hR8 := hra.bad false
    have hv8 := hv9.grown hR8.2 (by simp; omega)
    have hx8 := hx9.grown hR8.2 (by simp; omega)
    have hy8 := hy9.grown hR8.2 (by have := hr6.lt; simp; omega)
    have hG8 := setCell_grown (o := 2) hG9 (.inl rfl) (.bool false)
    have hK8 := setCell_grown (o := 2) hK9 (.inl rfl) (.bool false)
    have hM8 := setCell_grown (o := 2) hM9 (.inl rfl) (.bool false)
    go_wp2_with fail
    obtain ⟨U, hU⟩ : ∃ U, U = W7.setCell ⟨rb, 2, none⟩ (.bool false) := ⟨_, rfl⟩
    obtain ⟨g2, hgg2⟩ : ∃ g2, g2 = W2.heap.size := ⟨_, rfl⟩
    obtain ⟨g5, hgg5⟩ : ∃ g5, g5 = W5.heap.size := ⟨_, rfl⟩
    obtain ⟨g0, hgg0⟩ : ∃ g0, g0 = W.heap.size := ⟨_, rfl⟩
    rw [← hU, ← hgg2, ← hgg5, ← hgg0]
    rw [← hU] at hR8 hv8 hx8 hy8 hG8 hK8 hM8
    rw [← hgg2] at hx8
    rw [← hgg5] at hy8
    rw [← hgg0] at hv8
    obtain ⟨X, z, hcat, hX0, hXs, hsz1⟩ := blank (sg := ⟨#[124]⟩) (.inr ⟨_, rfl⟩)
    have hXi : (0 : Int) < (X.size : Int) := by omega
    have hsl : ¬ 9223372036854775807 < (⟨#[124]⟩ : ByteArray).size + 1 := by omega
    obtain ⟨p0, p1, p2, _⟩ := hx8.cells
    obtain ⟨q0, q1, q2, _⟩ := hy8.cells
    have hvA := hv8.grown (World.grownBy_alloc U (.cells #[.int .u8 k, .string s, .slice ad m cap, .int .u8 k2, .string s2, .slice ad2 m2 cap2] 52) none) (by simp)
    have hrA := hR8.1.grown (World.grownBy_alloc U (.cells #[.int .u8 k, .string s, .slice ad m cap, .int .u8 k2, .string s2, .slice ad2 m2 cap2] 52) none) (by simp)
    have hGA := grown_alloc hG8 (.cells #[.int .u8 k, .string s, .slice ad m cap, .int .u8 k2, .string s2, .slice ad2 m2 cap2] 52)
    obtain ⟨o0, o1, o2, n0, n1, n2⟩ := hvA.cells
    have HG2 := Lib.hid hgg2
    have HG5 := Lib.hid hgg5
    have HG0 := Lib.hid hgg0
    have HZ := Lib.hid hsz1
    have HCt := Lib.hid hcat
    have HX0 := Lib.hid hX0
    clear hU hgg2 hgg5 hgg0 hsz1
    go_region
    go_wp2_with fail
    have hg0 := HG0.out
    refine ret_node (var_drew (set3_var hvA _ _ _ _ _)) rfl rfl ?_
    refine ⟨_, _, _, _, _, rfl, grown_drew (set3_grown hGA (by omega) _ _ _ _ _), ?_⟩
    rw [HRD.out]
    have hG2e := HG2.out
    have hG5e := HG5.out
    have hzs : z = 124 := by
      have h1 := HCt.out
      have h2 : (⟨#[124]⟩ : ByteArray) ++ ⟨#[32]⟩ = ⟨#[124, 32]⟩ := cat_two 124 [32]
      rw [h2] at h1
      subst h1
      exact (HX0.out (by decide)).symm
    subst hzs
    have hUs := hK8.size
    have hUs2 := hM8.size
    have hszA := set3_size (U.alloc (.cells #[.int .u8 k, .string s, .slice ad m cap, .int .u8 k2, .string s2, .slice ad2 m2 cap2] 52)) g0 (UInt8.toNat 124) ⟨#[]⟩ (some ⟨U.heap.size, 0, none⟩) 2 2
    have six := six_cells U (.int .u8 k) (.string s) (.slice ad m cap) (.int .u8 k2) (.string s2) (.slice ad2 m2 cap2)
    have hKA := grown_alloc hK8 (.cells #[.int .u8 k, .string s, .slice ad m cap, .int .u8 k2, .string s2, .slice ad2 m2 cap2] 52)
    have hMA := grown_alloc hM8 (.cells #[.int .u8 k, .string s, .slice ad m cap, .int .u8 k2, .string s2, .slice ad2 m2 cap2] 52)
    have Sp := same_of (g := g0) hKA hrb1 (by omega) (UInt8.toNat 124) ⟨#[]⟩ (some ⟨U.heap.size, 0, none⟩) 2 2
    have Sq := same_of (g := g0) (lo := (W3.setCell ⟨rb, 2, none⟩ (.bool false)).heap.size) hMA (by omega) (by omega) (UInt8.toNat 124) ⟨#[]⟩ (some ⟨U.heap.size, 0, none⟩) 2 2
    have hUg : U.heap.size ≠ g0 := by omega
    have cz : ∀ o, (set3 (U.alloc (.cells #[.int .u8 k, .string s, .slice ad m cap, .int .u8 k2, .string s2, .slice ad2 m2 cap2] 52)) g0 (UInt8.toNat 124) ⟨#[]⟩ (some ⟨U.heap.size, 0, none⟩) 2 2).cell? ⟨U.heap.size, o, none⟩ = (U.alloc (.cells #[.int .u8 k, .string s, .slice ad m cap, .int .u8 k2, .string s2, .slice ad2 m2 cap2] 52)).cell? ⟨U.heap.size, o, none⟩ := fun o =>
      World.cell?_of_block (set3_block hUg _ _ _ _ _)
    rw [World.size_alloc] at hszA
    have hnd' := (hnd.same Sp).wide (lo' := W.heap.size) (hi' := U.heap.size + 1) (by omega) (by omega)
    have hnq' := (hnq.same Sq).wide (lo' := W.heap.size) (hi' := U.heap.size + 1) (by omega) (by omega)
    have HN : NodeIs (set3 (U.alloc (.cells #[.int .u8 k, .string s, .slice ad m cap, .int .u8 k2, .string s2, .slice ad2 m2 cap2] 52)) g0 (UInt8.toNat 124) ⟨#[]⟩ (some ⟨U.heap.size, 0, none⟩) 2 2) W.heap.size (U.heap.size + 1) (.pair 124 p q) (UInt8.toNat 124) ⟨#[]⟩ (some ⟨U.heap.size, 0, none⟩) 2 2 :=
      ⟨rfl, rfl, rfl, _, rfl, by omega, by omega, k, s, ad, m, cap, k2, s2, ad2, m2, cap2, ⟨(cz 0).trans (six 0 _ rfl), (cz 1).trans (six 1 _ rfl), (cz 2).trans (six 2 _ rfl)⟩, ⟨(cz 3).trans (six 3 _ rfl), (cz 4).trans (six 4 _ rfl), (cz 5).trans (six 5 _ rfl)⟩, hnd', hnq'⟩
    exact ⟨j2 + 1, hj4, hjd4, Rdr.drew (set3_rdr hrA (by omega) _ _ _ _ _), (HN.drew).wide (Nat.le_refl _) (Nat.le_of_eq hszA.symm)⟩

end Go.Proofs.YtgkgkaapjljpcaaDoor

namespace Go.Proofs.YtgkgkaapjljpcaaDoor
open Go.ChangeShapes Go.WideShapes Go.ChangeAt Go.RowKit Go.Shelf
attribute [local go_sem] Oper.semAt_some
set_option maxRecDepth 100000

theorem reads_all (t : ByteArray) (ht : t.size ≤ 9000000) (rb : Nat) : ∀ n, Reads t rb n
  | 0 => fun i W hi hn hr => node_nil t ht rb 0 i W hi hr (List.length_eq_zero_iff.1 (Nat.le_zero.1 hn))
  | n + 1 => fun i W hi hn hr => by
    have IH := reads_all t ht rb n
    cases hl : t.toList.drop i with
    | nil => exact node_nil t ht rb (n + 1) i W hi hr hl
    | cons c r =>
      have hrn : r.length ≤ n := by rw [hl] at hn; simpa using hn
      by_cases h1 : c = 46 ∨ c = 33
      · exact node_dot t ht rb n i W hr hl h1
      · by_cases h2 : c = 120 ∨ c = 121
        · exact node_xy t ht rb n i W hr hl h2
        · by_cases h3 : c = 91
          · subst h3
            by_cases hs : r.length ≤ 3
            · exact node_short t ht rb n i W hr hl hs
            · match r, hl, hs with
              | a :: b :: d :: e :: r', hl, _ => exact node_test t ht rb n i W hr hl
              | [], _, hs => simp at hs
              | [_], _, hs => simp at hs
              | [_, _], _, hs => simp at hs
              | [_, _, _], _, hs => simp at hs
          · by_cases h4 : c = 123
            · subst h4; exact node_loop t ht rb n i IH W hr hl hrn
            · by_cases h5 : c = 40
              · subst h5
                cases hp : rd n r with
                | none => exact pair_first t ht rb n i IH W hr hl hrn hp
                | some x =>
                  obtain ⟨p, r1⟩ := x
                  cases r1 with
                  | nil => exact pair_nosign t ht rb n i IH W hr hl hrn hp
                  | cons sb r2 =>
                    by_cases hs : sb = 59 ∨ sb = 124
                    · cases hq : rd n r2 with
                      | none => exact pair_second t ht rb n i IH W hr hl hrn hp hs hq
                      | some y =>
                        obtain ⟨q, r3⟩ := y
                        cases r3 with
                        | nil => exact pair_open t ht rb n i IH W hr hl hrn hp hs hq
                        | cons e r4 =>
                          by_cases he : e = 41
                          · subst he; exact pair_hit t ht rb n i IH W hr hl hrn hp hs hq
                          · exact pair_miss t ht rb n i IH W hr hl hrn hp hs hq he
                    · exact pair_other t ht rb n i IH W hr hl hrn hp hs
              · exact node_other t ht rb n i W hr hl h1 h2 h3 h4 h5
end Go.Proofs.YtgkgkaapjljpcaaDoor

