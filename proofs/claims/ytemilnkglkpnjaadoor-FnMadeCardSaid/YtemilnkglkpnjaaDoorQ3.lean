/- The model's reader of programs: no byte left, another byte, an assignment. -/
import Derived.Test.YtemilnkglkpnjaaDoorQ2
import Derived.Test.YtemilnkglkpnjaaDoorT5
namespace Go.Proofs.YtemilnkglkpnjaaDoor
open Go.ChangeShapes Go.WideShapes Go.ChangeAt Go.RowKit Go.Shelf
attribute [local go_sem] Oper.semAt_some
set_option maxRecDepth 100000

theorem setCell_grown {W U : World} {g o : Nat} {row : Option Nat} (hW : W.grownBy U row) (hg : some g = row ∨ W.heap.size ≤ g) (v : Value) : W.grownBy (U.setCell ⟨g, o, none⟩ v) row := by
  refine ⟨hW.os, hW.tape, hW.output, by simp; exact hW.size, fun b hb hr => ?_⟩
  rw [heap_setCell_other U ⟨g, o, none⟩ b _ (by
    rcases hg with h | h
    · intro e; subst e; exact hr h
    · simp; omega)]
  exact hW.block b hb hr

theorem below_grown {W W' : World} (h : Below W.heap.size W W') (row : Option Nat) : W.grownBy W' row := ⟨h.os, h.tape, h.output, h.size, fun i hi _ => h.block i hi⟩
theorem grown_trans2 {A B C : World} {row : Option Nat} (h : A.grownBy B row) (k : B.grownBy C row) : A.grownBy C row :=
  ⟨k.os.trans h.os, k.tape.trans h.tape, k.output.trans h.output, Nat.le_trans h.size k.size, fun i hi hr => (k.block i (Nat.lt_of_lt_of_le hi h.size) hr).trans (h.block i hi hr)⟩

set_option maxHeartbeats 1000000 in
theorem node_nil (t : ByteArray) (ht : t.size ≤ 9000000) (rb n i : Nat) (W : World) (hi : i ≤ t.size) (hr : Rdr W rb t i false) (hl : t.toList.drop i = []) :
    Calls Tryd.prog 75 #[.pointer (some ⟨rb, 0, none⟩)] W (ReadTo t rb n i W) := by
  have hlt := hr.lt
  have hrd : rd n (t.toList.drop i) = none := by rw [hl]; cases n <;> rfl
  have HRD := Lib.hid hrd
  clear hrd
  go_enter Tryd.func75, Tryd.ntmps75
  go_wp2_with fail
  go_at_call 86
  refine (take1_nil ht hi hl (hr.grown (World.grownBy_alloc W _ none) (by simp))).mono ?_
  rintro e W1 ⟨rfl, hr1, hg1⟩
  have hv := (Var.new W 0 ⟨#[]⟩ none 0 0).grown hg1 (by simp; omega)
  obtain ⟨c0, c1, c2, f1, f2⟩ := hr1.cells
  obtain ⟨x0, x1, x2, y0, y1, y2⟩ := hv.cells
  have hG := grown_trans (World.grownBy_alloc W _ (some rb)) hg1
  go_wp2_with fail
  refine ret_node (set3_var hv _ _ _ _ _) rfl rfl ?_
  refine ⟨_, _, _, _, _, rfl, set3_grown hG (Nat.le_refl _) _ _ _ _ _, ?_⟩
  rw [HRD.out]
  exact ⟨i, hi, set3_rdr hr1 (by omega) _ _ _ _ _⟩

set_option maxHeartbeats 1000000 in
theorem node_other (t : ByteArray) (ht : t.size ≤ 9000000) (rb n i : Nat) (W : World) (hr : Rdr W rb t i false) {c : UInt8} {r : List UInt8} (hl : t.toList.drop i = c :: r)
    (h1 : ¬ (c = 46 ∨ c = 33)) (h2 : ¬ (c = 120 ∨ c = 121)) (h3 : ¬ c = 91) (h4 : ¬ c = 123) (h5 : ¬ c = 40) :
    Calls Tryd.prog 75 #[.pointer (some ⟨rb, 0, none⟩)] W (ReadTo t rb (n + 1) i W) := by
  obtain ⟨hx, hi, hd⟩ := ext_cons hl
  have hlt := hr.lt
  have hrd : rd (n + 1) (t.toList.drop i) = none := by rw [hl, rd.eq_def]; dsimp only; rw [if_neg h1, if_neg h2, if_neg h3, if_neg h4, if_neg h5]
  have HRD := Lib.hid hrd
  have hA : ∀ h : 0 < (⟨#[c]⟩ : ByteArray).size, (⟨#[c]⟩ : ByteArray)[0]'h = c := fun _ => rfl
  have ne : ∀ d : UInt8, ¬ c = d → ((c.toNat : Int) == (d.toNat : Int)) = false := fun d h => by
    have : c.toNat ≠ d.toNat := fun e => h (UInt8.toNat_inj.1 e)
    simp; omega
  have b1 : ((c.toNat : Int) == 46) = false := ne 46 (fun e => h1 (.inl e))
  have b2 : ((c.toNat : Int) == 33) = false := ne 33 (fun e => h1 (.inr e))
  have b3 : ((c.toNat : Int) == 120) = false := ne 120 (fun e => h2 (.inl e))
  have b4 : ((c.toNat : Int) == 121) = false := ne 121 (fun e => h2 (.inr e))
  have b5 : ((c.toNat : Int) == 91) = false := ne 91 h3
  have b6 : ((c.toNat : Int) == 123) = false := ne 123 h4
  have b7 : ((c.toNat : Int) == 40) = false := ne 40 h5
  clear hrd ne h1 h2 h3 h4 h5
  go_enter Tryd.func75, Tryd.ntmps75
  go_wp2_with fail
  go_at_call 86
  refine (take1 ht hl (hr.grown (World.grownBy_alloc W _ none) (by simp))).mono ?_
  rintro e W1 ⟨rfl, hr1, hg1⟩
  have hv := (Var.new W 0 ⟨#[]⟩ none 0 0).grown hg1 (by simp; omega)
  obtain ⟨c0, c1, c2, f1, f2⟩ := hr1.cells
  have hG := grown_trans (World.grownBy_alloc W _ (some rb)) hg1
  have hR2 := hr1.bad true
  have hv2 := hv.grown hR2.2 (by simp; omega)
  obtain ⟨x0, x1, x2, y0, y1, y2⟩ := hv2.cells
  have hG2 := setCell_grown (o := 2) hG (.inl rfl) (.bool true)
  go_wp2_with fail
  refine ret_node (set3_var hv2 _ _ _ _ _) rfl rfl ?_
  refine ⟨_, _, _, _, _, rfl, set3_grown hG2 (Nat.le_refl _) _ _ _ _ _, ?_⟩
  rw [HRD.out]
  exact ⟨i + 1, hi, set3_rdr hR2.1 (by omega) _ _ _ _ _⟩

theorem cat_two (c : UInt8) (p : List UInt8) : (⟨#[c]⟩ : ByteArray) ++ ⟨p.toArray⟩ = ⟨(c :: p).toArray⟩ := by
  apply ByteArray.ext
  rw [ByteArray.data_append]
  simp

set_option maxHeartbeats 2000000 in
theorem node_xy (t : ByteArray) (ht : t.size ≤ 9000000) (rb n i : Nat) (W : World) (hr : Rdr W rb t i false) {c : UInt8} {r : List UInt8} (hl : t.toList.drop i = c :: r) (hc : c = 120 ∨ c = 121) :
    Calls Tryd.prog 75 #[.pointer (some ⟨rb, 0, none⟩)] W (ReadTo t rb (n + 1) i W) := by
  obtain ⟨hx, hi, hd⟩ := ext_cons hl
  have hlt := hr.lt
  have hc0 : ¬ (c = 46 ∨ c = 33) := by rcases hc with rfl | rfl <;> decide
  cases r with
  | nil =>
    have hl2 := hd
    have hrd : rd (n + 1) (t.toList.drop i) = none := by rw [hl, rd.eq_def]; dsimp only; rw [if_neg hc0, if_pos hc]
    have HRD := Lib.hid hrd
    clear hrd hc0
    rcases hc with rfl | rfl <;>
    · go_enter Tryd.func75, Tryd.ntmps75
      go_wp2_with fail
      go_at_call 86
      refine (take1 ht hl (hr.grown (World.grownBy_alloc W _ none) (by simp))).mono ?_
      rintro e W1 ⟨rfl, hr1, hg1⟩
      have hv := (Var.new W 0 ⟨#[]⟩ none 0 0).grown hg1 (by simp; omega)
      obtain ⟨c0, c1, c2, f1, f2⟩ := hr1.cells
      have hG := grown_trans (World.grownBy_alloc W _ (some rb)) hg1
      go_wp2_with fail
      go_at_call 86
      refine (take1_nil ht hi hl2 hr1).mono ?_
      rintro e W2 ⟨rfl, hr2, hg2⟩
      have hv2 := hv.grown hg2 (by simp; omega)
      have hG2 := grown_trans2 hG hg2
      obtain ⟨d0, d1, d2, k1, k2⟩ := hr2.cells
      have hR3 := hr2.bad true
      have hv3 := hv2.grown hR3.2 (by simp; omega)
      have hG3 := setCell_grown (o := 2) hG2 (.inl rfl) (.bool true)
      have hva := hv3.grown (World.grownBy_alloc _ (.cells #[] 55) none) (by simp)
      obtain ⟨x0, x1, x2, y0, y1, y2⟩ := hva.cells
      have hGa := grown_alloc hG3 (.cells #[] 55)
      have hRa := hR3.1.grown (World.grownBy_alloc _ (.cells #[] 55) none) (by simp)
      go_wp2_with fail
      refine ret_node (set3_var hva _ _ _ _ _) rfl rfl ?_
      refine ⟨_, _, _, _, _, rfl, set3_grown hGa (Nat.le_refl _) _ _ _ _ _, ?_⟩
      rw [HRD.out]
      exact ⟨i + 1, hi, set3_rdr hRa (by omega) _ _ _ _ _⟩
  | cons d r' =>
    obtain ⟨_, hi2, hd2⟩ := ext_cons hd
    obtain ⟨tw, htw⟩ : ∃ tw, decide ([c, d] ∈ twos) = tw := ⟨_, rfl⟩
    have hrd : rd (n + 1) (t.toList.drop i) = if tw = true then some (.atom [c, d], r') else none := by
      rw [hl, rd.eq_def]
      dsimp only
      rw [if_neg hc0, if_pos hc]
      by_cases h : [c, d] ∈ twos
      · rw [if_pos h, if_pos (by rw [← htw]; exact decide_eq_true h)]
      · rw [if_neg h, if_neg (by rw [← htw]; simpa using h)]
    have HRD := Lib.hid hrd
    have hcat : (⟨#[c]⟩ : ByteArray) ++ ⟨#[d]⟩ = ⟨#[c, d]⟩ := cat_two c [d]
    have htl : (⟨#[c, d]⟩ : ByteArray).toList = [c, d] := by rw [Lib.toList_data]
    have HT := Lib.hid htw
    clear hrd hc0 htw
    rcases hc with rfl | rfl <;>
    · go_enter Tryd.func75, Tryd.ntmps75
      go_wp2_with fail
      go_at_call 86
      refine (take1 ht hl (hr.grown (World.grownBy_alloc W _ none) (by simp))).mono ?_
      rintro e W1 ⟨rfl, hr1, hg1⟩
      have hv := (Var.new W 0 ⟨#[]⟩ none 0 0).grown hg1 (by simp; omega)
      obtain ⟨c0, c1, c2, f1, f2⟩ := hr1.cells
      have hG := grown_trans (World.grownBy_alloc W _ (some rb)) hg1
      go_wp2_with fail
      go_at_call 86
      refine (take1 ht hd hr1).mono ?_
      rintro e W2 ⟨rfl, hr2, hg2⟩
      have hv2 := hv.grown hg2 (by simp; omega)
      have hG2 := grown_trans2 hG hg2
      obtain ⟨d0, d1, d2, k1, k2⟩ := hr2.cells
      go_wp2_with fail
      go_at_call 87
      refine (two79 _ _).mono ?_
      rintro e W3 ⟨rfl, hb3⟩
      rw [htl, HT.out]
      have hr3 := hr2.grown (below_grown hb3 none) (by simp)
      have hv3 := hv2.grown (below_grown hb3 none) (by simp)
      have hG3 := grown_trans2 hG2 (below_grown hb3 (some rb))
      obtain ⟨d0, d1, d2, k1, k2⟩ := hr3.cells
      have hR4 := hr3.bad (!tw)
      have hv4 := hv3.grown hR4.2 (by simp; omega)
      have hG4 := setCell_grown (o := 2) hG3 (.inl rfl) (.bool (!tw))
      have hva := hv4.grown (World.grownBy_alloc _ (.cells #[] 55) none) (by simp)
      obtain ⟨x0, x1, x2, y0, y1, y2⟩ := hva.cells
      have hGa := grown_alloc hG4 (.cells #[] 55)
      have hRa := hR4.1.grown (World.grownBy_alloc _ (.cells #[] 55) none) (by simp)
      go_wp2_with fail
      refine ret_node (set3_var hva _ _ _ _ _) rfl rfl ?_
      refine ⟨_, _, _, _, _, rfl, set3_grown hGa (Nat.le_refl _) _ _ _ _ _, ?_⟩
      rw [HRD.out]
      cases tw
      · exact ⟨i + 1 + 1, hi2, set3_rdr hRa (by omega) _ _ _ _ _⟩
      · exact ⟨i + 1 + 1, hi2, hd2, set3_rdr hRa (by omega) _ _ _ _ _, rfl, rfl, rfl⟩
end Go.Proofs.YtemilnkglkpnjaaDoor

