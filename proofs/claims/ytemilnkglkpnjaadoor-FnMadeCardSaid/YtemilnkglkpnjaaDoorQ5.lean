/- The model's reader of programs: a loop, by the contract of what is read within it. -/
import Derived.Test.YtemilnkglkpnjaaDoorQ4
namespace Go.Proofs.YtemilnkglkpnjaaDoor
open Go.ChangeShapes Go.WideShapes Go.ChangeAt Go.RowKit Go.Shelf
attribute [local go_sem] Oper.semAt_some
set_option maxRecDepth 100000

/-- Reading one program where at most n bytes are left. -/
def Reads (t : ByteArray) (rb n : Nat) : Prop := ∀ (i : Nat) (W : World), i ≤ t.size → (t.toList.drop i).length ≤ n → Rdr W rb t i false →
  Calls Tryd.prog 75 #[.pointer (some ⟨rb, 0, none⟩)] W (ReadTo t rb n i W)

theorem rd_loop (n : Nat) (r : List UInt8) : rd (n + 1) (123 :: r) = match rd n r with
      | some (p, e :: r') => if e = 125 then some (.loop p, r') else none
      | _ => none := by
  rw [rd.eq_def]
  dsimp only
  rw [if_neg (by decide), if_neg (by decide), if_neg (by decide), if_pos rfl]
  rfl
theorem same_of {W2 Y : World} {rb g lo : Nat} (h : W2.grownBy Y (some rb)) (h1 : rb < lo) (h2 : g < lo) (k : Int) (s : ByteArray) (ad : Option Addr) (m cap : Nat) : Same lo W2.heap.size W2 (set3 Y g k s ad m cap) := by
  intro b hb1 hb2
  rw [set3_block (by omega)]
  exact h.block b hb2 (by simp; omega)

set_option maxHeartbeats 4000000 in
theorem node_loop (t : ByteArray) (ht : t.size ≤ 9000000) (rb n i : Nat) (IH : Reads t rb n) (W : World) (hr : Rdr W rb t i false) {r : List UInt8} (hl : t.toList.drop i = 123 :: r) (hn : r.length ≤ n) :
    Calls Tryd.prog 75 #[.pointer (some ⟨rb, 0, none⟩)] W (ReadTo t rb (n + 1) i W) := by
  obtain ⟨hx, hi, hd⟩ := ext_cons hl
  have hlt := hr.lt
  have HRD := Lib.hid (rd_loop n r)
  rw [← hl] at HRD
  go_enter Tryd.func75, Tryd.ntmps75
  go_wp2_with fail
  go_at_call 86
  refine (take1 ht hl (hr.grown (World.grownBy_alloc W _ none) (by simp))).mono ?_
  rintro e W1 ⟨rfl, hr1, hg1⟩
  have hv := (Var.new W 0 ⟨#[]⟩ none 0 0).grown hg1 (by simp; omega)
  obtain ⟨c0, c1, c2, f1, f2⟩ := hr1.cells
  have hG := grown_trans (World.grownBy_alloc W _ (some rb)) hg1
  have hrb1 := hr1.lt
  go_wp2_with fail
  go_at_call 75
  refine (IH (i + 1) W1 hi (by rw [hd]; exact hn) hr1).mono ?_
  rintro e W2 ⟨k, s, ad, m, cap, rfl, hg2, hm⟩
  rw [hd] at hm
  have hv2 := hv.grown hg2 (by simp; omega)
  have hG2 := grown_trans2 hG hg2
  have s12 := hg2.size
  have s01 : W.heap.size + 1 ≤ W1.heap.size := by have := hg1.size; simp at this; exact this
  have hX1 := Var.new W2 k s ad m cap
  have hA := World.grownBy_alloc (W2.alloc (.cells #[.int .u8 k, .string s, .slice ad m cap] 55)) (.cells #[.int .u8 123, .string ⟨#[]⟩, .slice (some ⟨W2.heap.size, 0, none⟩) 1 1] 55) none
  have hy4 := Var.new (W2.alloc (.cells #[.int .u8 k, .string s, .slice ad m cap] 55)) 123 ⟨#[]⟩ (some ⟨W2.heap.size, 0, none⟩) 1 1
  rw [World.size_alloc] at hy4
  have hx4 := hX1.grown hA (by simp)
  have hA0 := World.grownBy_alloc W2 (.cells #[.int .u8 k, .string s, .slice ad m cap] 55) none
  have hv4 := (hv2.grown hA0 (by simp)).grown hA (by simp)
  have hA := grown_trans2 hA0 hA
  have hAr : W2.grownBy ((W2.alloc (.cells #[.int .u8 k, .string s, .slice ad m cap] 55)).alloc (.cells #[.int .u8 123, .string ⟨#[]⟩, .slice (some ⟨W2.heap.size, 0, none⟩) 1 1] 55)) (some rb) := grown_alloc (World.grownBy_alloc W2 _ (some rb)) _
  cases hrn : rd n r with
  | none =>
    rw [hrn] at hm HRD
    dsimp only at hm HRD
    obtain ⟨j, hj, hr2⟩ := hm
    have hr4 := hr2.grown hA (by simp)
    obtain ⟨d0, d1, d2, k1, k2⟩ := hr4.cells
    have hR5 := hr4.bad true
    have hv5 := hv4.grown hR5.2 (by simp; omega)
    have hx5 := hx4.grown hR5.2 (by simp; omega)
    have hy5 := hy4.grown hR5.2 (by simp; omega)
    have hK := setCell_grown (o := 2) hAr (.inl rfl) (.bool true)
    obtain ⟨x0, x1, x2, y0, y1, y2⟩ := hv5.cells
    obtain ⟨p0, p1, p2, _⟩ := hy5.cells
    go_wp2_with fail
    refine ret_node (set3_var hv5 _ _ _ _ _) rfl rfl ?_
    refine ⟨_, _, _, _, _, rfl, set3_grown (grown_trans2 hG2 hK) (Nat.le_refl _) _ _ _ _ _, ?_⟩
    rw [HRD.out]
    exact ⟨j, hj, set3_rdr hR5.1 (by omega) _ _ _ _ _⟩
  | some x =>
    obtain ⟨p, r1⟩ := x
    rw [hrn] at hm HRD
    dsimp only at hm HRD
    obtain ⟨j, hj, hjd, hr2, hnd⟩ := hm
    cases r1 with
    | nil =>
      dsimp only at HRD
      have hr4 := hr2.grown hA (by simp)
      obtain ⟨d0, d1, d2, k1, k2⟩ := hr4.cells
      go_wp2_with fail
      go_at_call 86
      refine (take1_nil ht hj hjd hr4).mono ?_
      rintro e W3 ⟨rfl, hr3, hg3⟩
      have hv3 := hv4.grown hg3 (by simp; omega)
      have hx3 := hx4.grown hg3 (by simp; omega)
      have hy3 := hy4.grown hg3 (by simp; omega)
      have hK3 := grown_trans2 hAr hg3
      obtain ⟨d0, d1, d2, k1, k2⟩ := hr3.cells
      have hR5 := hr3.bad true
      have hv5 := hv3.grown hR5.2 (by simp; omega)
      have hx5 := hx3.grown hR5.2 (by simp; omega)
      have hy5 := hy3.grown hR5.2 (by simp; omega)
      have hK := setCell_grown (o := 2) hK3 (.inl rfl) (.bool true)
      obtain ⟨x0, x1, x2, y0, y1, y2⟩ := hv5.cells
      obtain ⟨p0, p1, p2, _⟩ := hy5.cells
      go_wp2_with fail
      refine ret_node (set3_var hv5 _ _ _ _ _) rfl rfl ?_
      refine ⟨_, _, _, _, _, rfl, set3_grown (grown_trans2 hG2 hK) (Nat.le_refl _) _ _ _ _ _, ?_⟩
      rw [HRD.out]
      exact ⟨j, hj, set3_rdr hR5.1 (by omega) _ _ _ _ _⟩
    | cons e r2 =>
      dsimp only at HRD
      obtain ⟨_, hj2, hjd2⟩ := ext_cons hjd
      by_cases he : e = 125
      · subst he
        rw [if_pos rfl] at HRD
        have hr4 := hr2.grown hA (by simp)
        obtain ⟨d0, d1, d2, k1, k2⟩ := hr4.cells
        go_wp2_with fail
        go_at_call 86
        refine (take1 ht hjd hr4).mono ?_
        rintro e W3 ⟨rfl, hr3, hg3⟩
        have hv3 := hv4.grown hg3 (by simp; omega)
        have hx3 := hx4.grown hg3 (by simp; omega)
        have hy3 := hy4.grown hg3 (by simp; omega)
        have hK3 := grown_trans2 hAr hg3
        obtain ⟨d0, d1, d2, k1, k2⟩ := hr3.cells
        have hR5 := hr3.bad false
        have hv5 := hv3.grown hR5.2 (by simp; omega)
        have hx5 := hx3.grown hR5.2 (by simp; omega)
        have hy5 := hy3.grown hR5.2 (by simp; omega)
        have hK := setCell_grown (o := 2) hK3 (.inl rfl) (.bool false)
        obtain ⟨x0, x1, x2, y0, y1, y2⟩ := hv5.cells
        obtain ⟨p0, p1, p2, _⟩ := hy5.cells
        go_wp2_with fail
        refine ret_node (set3_var hv5 _ _ _ _ _) rfl rfl ?_
        refine ⟨_, _, _, _, _, rfl, set3_grown (grown_trans2 hG2 hK) (Nat.le_refl _) _ _ _ _ _, ?_⟩
        rw [HRD.out]
        have hsz := set3_size (W3.setCell ⟨rb, 2, none⟩ (.bool false)) W.heap.size 123 ⟨#[]⟩ (some ⟨W2.heap.size, 0, none⟩) 1 1
        unfold set3 at hsz
        have hsz2 : W2.heap.size < (W3.setCell ⟨rb, 2, none⟩ (.bool false)).heap.size := (Array.getElem?_eq_some_iff.1 hx5).1
        obtain ⟨z0, z1, z2, _⟩ := (show Var (set3 (W3.setCell ⟨rb, 2, none⟩ (.bool false)) W.heap.size 123 ⟨#[]⟩ (some ⟨W2.heap.size, 0, none⟩) 1 1) W2.heap.size k s ad m cap from by unfold Var at *; rw [set3_block (by omega)]; exact hx5).cells
        exact ⟨j + 1, hj2, hjd2, set3_rdr hR5.1 (by omega) _ _ _ _ _, rfl, rfl, rfl, _, rfl, by omega, by omega, k, s, ad, m, cap, z0, z1, z2, (hnd.same (same_of hK hrb1 (by omega) _ _ _ _ _)).wide (by omega) (by omega)⟩
      · rw [if_neg he] at HRD
        have hne1 : (e == 125) = false := by simpa using he
        have hne2 : (e != 125) = true := by simpa using he
        have hr4 := hr2.grown hA (by simp)
        obtain ⟨d0, d1, d2, k1, k2⟩ := hr4.cells
        go_wp2_with fail
        go_at_call 86
        refine (take1 ht hjd hr4).mono ?_
        rintro e W3 ⟨rfl, hr3, hg3⟩
        have hv3 := hv4.grown hg3 (by simp; omega)
        have hx3 := hx4.grown hg3 (by simp; omega)
        have hy3 := hy4.grown hg3 (by simp; omega)
        have hK3 := grown_trans2 hAr hg3
        obtain ⟨d0, d1, d2, k1, k2⟩ := hr3.cells
        have hR5 := hr3.bad true
        have hv5 := hv3.grown hR5.2 (by simp; omega)
        have hx5 := hx3.grown hR5.2 (by simp; omega)
        have hy5 := hy3.grown hR5.2 (by simp; omega)
        have hK := setCell_grown (o := 2) hK3 (.inl rfl) (.bool true)
        obtain ⟨x0, x1, x2, y0, y1, y2⟩ := hv5.cells
        obtain ⟨p0, p1, p2, _⟩ := hy5.cells
        go_wp2_with fail
        refine ret_node (set3_var hv5 _ _ _ _ _) rfl rfl ?_
        refine ⟨_, _, _, _, _, rfl, set3_grown (grown_trans2 hG2 hK) (Nat.le_refl _) _ _ _ _ _, ?_⟩
        rw [HRD.out]
        exact ⟨j + 1, hj2, set3_rdr hR5.1 (by omega) _ _ _ _ _⟩
end Go.Proofs.YtemilnkglkpnjaaDoor

