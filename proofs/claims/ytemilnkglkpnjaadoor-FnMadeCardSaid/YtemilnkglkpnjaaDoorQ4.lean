/- The model's reader of programs: a test. -/
import Derived.Test.YtemilnkglkpnjaaDoorQ3
namespace Go.Proofs.YtemilnkglkpnjaaDoor
open Go.ChangeShapes Go.WideShapes Go.ChangeAt Go.RowKit Go.Shelf
attribute [local go_sem] Oper.semAt_some
set_option maxRecDepth 100000

theorem ext3 {t : ByteArray} {i : Nat} {a b d : UInt8} {r : List UInt8} (h : t.toList.drop i = a :: b :: d :: r) : t.extract i (i + 3) = ⟨#[a, b, d]⟩ ∧ i + 3 ≤ t.size ∧ t.toList.drop (i + 3) = r := by
  have hl : t.toList.length = t.size := by rw [Lib.toList_data, Array.length_toList]; rfl
  have h1 : i + 3 ≤ t.toList.length := by
    have := congrArg List.length h
    simp at this
    omega
  have h2 : (t.extract i (i + 3)).data.toList = [a, b, d] := by
    rw [Lib.extract_data, ← Lib.toList_data, h]; simp
  refine ⟨?_, by omega, by rw [← List.drop_drop, h]; rfl⟩
  generalize t.extract i (i + 3) = x at h2
  obtain ⟨⟨l⟩⟩ := x
  simp at h2
  subst h2
  rfl
theorem take3 {t : ByteArray} (ht : t.size ≤ 9000000) {rb i : Nat} {b : Bool} {x y z : UInt8} {r : List UInt8} (hl : t.toList.drop i = x :: y :: z :: r) {W : World} (h : Rdr W rb t i b) :
    Calls Tryd.prog 86 #[.pointer (some ⟨rb, 0, none⟩), .int .i64 3] W fun e W' => e = .returned (.string ⟨#[x, y, z]⟩) ∧ Rdr W' rb t (i + 3) b ∧ W.grownBy W' (some rb) := by
  obtain ⟨hx, hi, _⟩ := ext3 hl
  have := take_ok t ht rb i 3 b (by omega) hi W h
  rw [hx] at this
  exact this
theorem take3_bad {t : ByteArray} (ht : t.size ≤ 9000000) {rb i : Nat} {b : Bool} (hi : i ≤ t.size) (hl : (t.toList.drop i).length < 3) {W : World} (h : Rdr W rb t i b) :
    Calls Tryd.prog 86 #[.pointer (some ⟨rb, 0, none⟩), .int .i64 3] W fun e W' => e = .returned (.string ⟨#[]⟩) ∧ Rdr W' rb t i true ∧ W.grownBy W' (some rb) := by
  have hn : t.toList.length = t.size := by rw [Lib.toList_data, Array.length_toList]; rfl
  exact take_bad t ht rb i 3 b (by omega) hi (by rw [List.length_drop] at hl; omega) W h

set_option maxHeartbeats 4000000 in
theorem node_test (t : ByteArray) (ht : t.size ≤ 9000000) (rb n i : Nat) (W : World) (hr : Rdr W rb t i false) {a b d e : UInt8} {r : List UInt8} (hl : t.toList.drop i = 91 :: a :: b :: d :: e :: r) :
    Calls Tryd.prog 75 #[.pointer (some ⟨rb, 0, none⟩)] W (ReadTo t rb (n + 1) i W) := by
  obtain ⟨hx, hi, hd⟩ := ext_cons hl
  obtain ⟨_, hi2, hd2⟩ := ext3 hd
  obtain ⟨_, hi3, hd3⟩ := ext_cons hd2
  have hlt := hr.lt
  obtain ⟨tv, htv⟩ : ∃ tv, isTest ⟨#[a, b, d]⟩ = tv := ⟨_, rfl⟩
  have htl : (⟨#[a, b, d]⟩ : ByteArray).toList = [a, b, d] := by rw [Lib.toList_data]
  have hrd : rd (n + 1) (t.toList.drop i) = if e = 93 ∧ tv = true then some (.atom [91, a, b, d, 93], r) else none := by
    rw [hl, rd.eq_def]
    dsimp only
    rw [if_neg (by decide), if_neg (by decide), if_pos rfl]
    have hq : tv = true ↔ [a, b, d] ∈ tests := by rw [← htv]; unfold isTest; rw [htl]; simp
    by_cases h : e = 93 ∧ [a, b, d] ∈ tests
    · rw [if_pos h, if_pos ⟨h.1, hq.2 h.2⟩]
    · rw [if_neg h, if_neg (fun h' => h ⟨h'.1, hq.1 h'.2⟩)]
  have HRD := Lib.hid hrd
  have HT := Lib.hid htv
  have cat1 : (⟨#[91]⟩ : ByteArray) ++ ⟨#[a, b, d]⟩ = ⟨#[91, a, b, d]⟩ := cat_two 91 [a, b, d]
  have cat2 : (⟨#[91, a, b, d]⟩ : ByteArray) ++ ⟨#[93]⟩ = ⟨#[91, a, b, d, 93]⟩ := by
    apply ByteArray.ext
    rw [ByteArray.data_append]
    simp
  clear hrd htv
  by_cases he : e = 93
  · subst he
    go_enter Tryd.func75, Tryd.ntmps75
    go_wp2_with fail
    go_at_call 86
    refine (take1 ht hl (hr.grown (World.grownBy_alloc W _ none) (by simp))).mono ?_
    rintro e W1 ⟨rfl, hr1, hg1⟩
    have hv := (Var.new W 0 ⟨#[]⟩ none 0 0).grown hg1 (by simp; omega)
    obtain ⟨c0, c1, c2, f1, f2⟩ := hr1.cells
    have hG := grown_trans (World.grownBy_alloc W _ (some rb)) hg1
    go_wp2_with fail
    go_at_call 86
    refine (take3 ht hd hr1).mono ?_
    rintro e W2 ⟨rfl, hr2, hg2⟩
    have hv2 := hv.grown hg2 (by simp; omega)
    have hG2 := grown_trans2 hG hg2
    go_wp2_with fail
    go_at_call 86
    refine (take1 ht hd2 hr2).mono ?_
    rintro e W3 ⟨rfl, hr3, hg3⟩
    have hv3 := hv2.grown hg3 (by simp; omega)
    have hG3 := grown_trans2 hG2 hg3
    obtain ⟨d0, d1, d2, k1, k2⟩ := hr3.cells
    go_wp2_with fail
    go_at_call 65
    refine (valid16 _ _).mono ?_
    rintro e W4 ⟨rfl, hb4⟩
    rw [HT.out]
    have hr4 := hr3.grown (below_grown hb4 none) (by simp)
    have hv4 := hv3.grown (below_grown hb4 none) (by simp)
    have hG4 := grown_trans2 hG3 (below_grown hb4 (some rb))
    obtain ⟨d0, d1, d2, k1, k2⟩ := hr4.cells
    have hR5 := hr4.bad (!tv)
    have hv5 := hv4.grown hR5.2 (by simp; omega)
    have hG5 := setCell_grown (o := 2) hG4 (.inl rfl) (.bool (!tv))
    have hva := hv5.grown (World.grownBy_alloc _ (.cells #[] 55) none) (by simp)
    obtain ⟨x0, x1, x2, y0, y1, y2⟩ := hva.cells
    have hGa := grown_alloc hG5 (.cells #[] 55)
    have hRa := hR5.1.grown (World.grownBy_alloc _ (.cells #[] 55) none) (by simp)
    go_wp2_with fail
    refine ret_node (set3_var hva _ _ _ _ _) rfl rfl ?_
    refine ⟨_, _, _, _, _, rfl, set3_grown hGa (Nat.le_refl _) _ _ _ _ _, ?_⟩
    rw [HRD.out]
    cases tv
    · exact ⟨i + 1 + 3 + 1, hi3, set3_rdr hRa (by omega) _ _ _ _ _⟩
    · exact ⟨i + 1 + 3 + 1, hi3, hd3, set3_rdr hRa (by omega) _ _ _ _ _, rfl, rfl, rfl⟩
  · have hne1 : (e == 93) = false := by simpa using he
    have hne2 : (e != 93) = true := by simpa using he
    have HE := Lib.hid he
    go_enter Tryd.func75, Tryd.ntmps75
    go_wp2_with fail
    go_at_call 86
    refine (take1 ht hl (hr.grown (World.grownBy_alloc W _ none) (by simp))).mono ?_
    rintro e W1 ⟨rfl, hr1, hg1⟩
    have hv := (Var.new W 0 ⟨#[]⟩ none 0 0).grown hg1 (by simp; omega)
    obtain ⟨c0, c1, c2, f1, f2⟩ := hr1.cells
    have hG := grown_trans (World.grownBy_alloc W _ (some rb)) hg1
    go_wp2_with fail
    go_at_call 86
    refine (take3 ht hd hr1).mono ?_
    rintro e W2 ⟨rfl, hr2, hg2⟩
    have hv2 := hv.grown hg2 (by simp; omega)
    have hG2 := grown_trans2 hG hg2
    go_wp2_with fail
    go_at_call 86
    refine (take1 ht hd2 hr2).mono ?_
    rintro e W3 ⟨rfl, hr3, hg3⟩
    have hv3 := hv2.grown hg3 (by simp; omega)
    have hG3 := grown_trans2 hG2 hg3
    obtain ⟨d0, d1, d2, k1, k2⟩ := hr3.cells
    have hR5 := hr3.bad true
    have hv5 := hv3.grown hR5.2 (by simp; omega)
    have hG5 := setCell_grown (o := 2) hG3 (.inl rfl) (.bool true)
    have hva := hv5.grown (World.grownBy_alloc _ (.cells #[] 55) none) (by simp)
    obtain ⟨x0, x1, x2, y0, y1, y2⟩ := hva.cells
    have hGa := grown_alloc hG5 (.cells #[] 55)
    have hRa := hR5.1.grown (World.grownBy_alloc _ (.cells #[] 55) none) (by simp)
    go_wp2_with fail
    refine ret_node (set3_var hva _ _ _ _ _) rfl rfl ?_
    refine ⟨_, _, _, _, _, rfl, set3_grown hGa (Nat.le_refl _) _ _ _ _ _, ?_⟩
    rw [HRD.out, if_neg (fun h => HE.out h.1)]
    exact ⟨i + 1 + 3 + 1, hi3, set3_rdr hRa (by omega) _ _ _ _ _⟩

set_option maxHeartbeats 4000000 in
theorem node_short (t : ByteArray) (ht : t.size ≤ 9000000) (rb n i : Nat) (W : World) (hr : Rdr W rb t i false) {r : List UInt8} (hl : t.toList.drop i = 91 :: r) (hs : r.length ≤ 3) :
    Calls Tryd.prog 75 #[.pointer (some ⟨rb, 0, none⟩)] W (ReadTo t rb (n + 1) i W) := by
  obtain ⟨hx, hi, hd⟩ := ext_cons hl
  have hlt := hr.lt
  have hrd : rd (n + 1) (t.toList.drop i) = none := by
    rw [hl, rd.eq_def]
    dsimp only
    rw [if_neg (by decide), if_neg (by decide), if_pos rfl]
    match r, hs with
    | [], _ => rfl
    | [_], _ => rfl
    | [_, _], _ => rfl
    | [_, _, _], _ => rfl
    | _ :: _ :: _ :: _ :: _, h => simp at h
  have HRD := Lib.hid hrd
  clear hrd
  by_cases h3 : r.length = 3
  · obtain ⟨a, b, d, rfl⟩ : ∃ a b d, r = [a, b, d] := by
      match r, h3 with
      | [a, b, d], _ => exact ⟨a, b, d, rfl⟩
    obtain ⟨_, hi2, hd2⟩ := ext3 hd
    have cat1 : (⟨#[91]⟩ : ByteArray) ++ ⟨#[a, b, d]⟩ = ⟨#[91, a, b, d]⟩ := cat_two 91 [a, b, d]
    have cat2 : (⟨#[91, a, b, d]⟩ : ByteArray) ++ ⟨#[93]⟩ = ⟨#[91, a, b, d, 93]⟩ := by
      apply ByteArray.ext
      rw [ByteArray.data_append]
      simp
    go_enter Tryd.func75, Tryd.ntmps75
    go_wp2_with fail
    go_at_call 86
    refine (take1 ht hl (hr.grown (World.grownBy_alloc W _ none) (by simp))).mono ?_
    rintro e W1 ⟨rfl, hr1, hg1⟩
    have hv := (Var.new W 0 ⟨#[]⟩ none 0 0).grown hg1 (by simp; omega)
    obtain ⟨c0, c1, c2, f1, f2⟩ := hr1.cells
    have hG := grown_trans (World.grownBy_alloc W _ (some rb)) hg1
    go_wp2_with fail
    go_at_call 86
    refine (take3 ht hd hr1).mono ?_
    rintro e W2 ⟨rfl, hr2, hg2⟩
    have hv2 := hv.grown hg2 (by simp; omega)
    have hG2 := grown_trans2 hG hg2
    go_wp2_with fail
    go_at_call 86
    refine (take1_nil ht hi2 hd2 hr2).mono ?_
    rintro e W3 ⟨rfl, hr3, hg3⟩
    have hv3 := hv2.grown hg3 (by simp; omega)
    have hG3 := grown_trans2 hG2 hg3
    obtain ⟨d0, d1, d2, k1, k2⟩ := hr3.cells
    have hR5 := hr3.bad true
    have hv5 := hv3.grown hR5.2 (by simp; omega)
    have hG5 := setCell_grown (o := 2) hG3 (.inl rfl) (.bool true)
    have hva := hv5.grown (World.grownBy_alloc _ (.cells #[] 55) none) (by simp)
    obtain ⟨x0, x1, x2, y0, y1, y2⟩ := hva.cells
    have hGa := grown_alloc hG5 (.cells #[] 55)
    have hRa := hR5.1.grown (World.grownBy_alloc _ (.cells #[] 55) none) (by simp)
    go_wp2_with fail
    refine ret_node (set3_var hva _ _ _ _ _) rfl rfl ?_
    refine ⟨_, _, _, _, _, rfl, set3_grown hGa (Nat.le_refl _) _ _ _ _ _, ?_⟩
    rw [HRD.out]
    exact ⟨i + 1 + 3, hi2, set3_rdr hRa (by omega) _ _ _ _ _⟩
  · have h2 : (t.toList.drop (i + 1)).length < 3 := by rw [hd]; omega
    cases r with
    | nil =>
      go_enter Tryd.func75, Tryd.ntmps75
      go_wp2_with fail
      go_at_call 86
      refine (take1 ht hl (hr.grown (World.grownBy_alloc W _ none) (by simp))).mono ?_
      rintro e W1 ⟨rfl, hr1, hg1⟩
      have hv := (Var.new W 0 ⟨#[]⟩ none 0 0).grown hg1 (by simp; omega)
      obtain ⟨c0, c1, c2, f1, f2⟩ := hr1.cells
      have hG := grown_trans (World.grownBy_alloc W _ (some rb)) hg1
      go_wp2_with fail
      go_at_call 86
      refine (take3_bad ht hi h2 hr1).mono ?_
      rintro e W2 ⟨rfl, hr2, hg2⟩
      have hv2 := hv.grown hg2 (by simp; omega)
      have hG2 := grown_trans2 hG hg2
      go_wp2_with fail
      go_at_call 86
      refine (take1_nil ht hi hd hr2).mono ?_
      rintro e W3 ⟨rfl, hr3, hg3⟩
      have hv3 := hv2.grown hg3 (by simp; omega)
      have hG3 := grown_trans2 hG2 hg3
      obtain ⟨d0, d1, d2, k1, k2⟩ := hr3.cells
      have hR5 := hr3.bad true
      have hv5 := hv3.grown hR5.2 (by simp; omega)
      have hG5 := setCell_grown (o := 2) hG3 (.inl rfl) (.bool true)
      have hva := hv5.grown (World.grownBy_alloc _ (.cells #[] 55) none) (by simp)
      obtain ⟨x0, x1, x2, y0, y1, y2⟩ := hva.cells
      have hGa := grown_alloc hG5 (.cells #[] 55)
      have hRa := hR5.1.grown (World.grownBy_alloc _ (.cells #[] 55) none) (by simp)
      go_wp2_with fail
      refine ret_node (set3_var hva _ _ _ _ _) rfl rfl ?_
      refine ⟨_, _, _, _, _, rfl, set3_grown hGa (Nat.le_refl _) _ _ _ _ _, ?_⟩
      rw [HRD.out]
      exact ⟨i + 1, hi, set3_rdr hRa (by omega) _ _ _ _ _⟩
    | cons e r2 =>
      obtain ⟨_, hi2, _⟩ := ext_cons hd
      by_cases he : e = 93
      · subst he
        go_enter Tryd.func75, Tryd.ntmps75
        go_wp2_with fail
        go_at_call 86
        refine (take1 ht hl (hr.grown (World.grownBy_alloc W _ none) (by simp))).mono ?_
        rintro e W1 ⟨rfl, hr1, hg1⟩
        have hv := (Var.new W 0 ⟨#[]⟩ none 0 0).grown hg1 (by simp; omega)
        obtain ⟨c0, c1, c2, f1, f2⟩ := hr1.cells
        have hG := grown_trans (World.grownBy_alloc W _ (some rb)) hg1
        go_wp2_with fail
        go_at_call 86
        refine (take3_bad ht hi h2 hr1).mono ?_
        rintro e W2 ⟨rfl, hr2, hg2⟩
        have hv2 := hv.grown hg2 (by simp; omega)
        have hG2 := grown_trans2 hG hg2
        go_wp2_with fail
        go_at_call 86
        refine (take1 ht hd hr2).mono ?_
        rintro e W3 ⟨rfl, hr3, hg3⟩
        have hv3 := hv2.grown hg3 (by simp; omega)
        have hG3 := grown_trans2 hG2 hg3
        obtain ⟨d0, d1, d2, k1, k2⟩ := hr3.cells
        have hR5 := hr3.bad true
        have hv5 := hv3.grown hR5.2 (by simp; omega)
        have hG5 := setCell_grown (o := 2) hG3 (.inl rfl) (.bool true)
        have hva := hv5.grown (World.grownBy_alloc _ (.cells #[] 55) none) (by simp)
        obtain ⟨x0, x1, x2, y0, y1, y2⟩ := hva.cells
        have hGa := grown_alloc hG5 (.cells #[] 55)
        have hRa := hR5.1.grown (World.grownBy_alloc _ (.cells #[] 55) none) (by simp)
        go_wp2_with fail
        refine ret_node (set3_var hva _ _ _ _ _) rfl rfl ?_
        refine ⟨_, _, _, _, _, rfl, set3_grown hGa (Nat.le_refl _) _ _ _ _ _, ?_⟩
        rw [HRD.out]
        exact ⟨i + 1 + 1, hi2, set3_rdr hRa (by omega) _ _ _ _ _⟩
      · have hne1 : (e == 93) = false := by simpa using he
        have hne2 : (e != 93) = true := by simpa using he
        go_enter Tryd.func75, Tryd.ntmps75
        go_wp2_with fail
        go_at_call 86
        refine (take1 ht hl (hr.grown (World.grownBy_alloc W _ none) (by simp))).mono ?_
        rintro e W1 ⟨rfl, hr1, hg1⟩
        have hv := (Var.new W 0 ⟨#[]⟩ none 0 0).grown hg1 (by simp; omega)
        obtain ⟨c0, c1, c2, f1, f2⟩ := hr1.cells
        have hG := grown_trans (World.grownBy_alloc W _ (some rb)) hg1
        go_wp2_with fail
        go_at_call 86
        refine (take3_bad ht hi h2 hr1).mono ?_
        rintro e W2 ⟨rfl, hr2, hg2⟩
        have hv2 := hv.grown hg2 (by simp; omega)
        have hG2 := grown_trans2 hG hg2
        go_wp2_with fail
        go_at_call 86
        refine (take1 ht hd hr2).mono ?_
        rintro e W3 ⟨rfl, hr3, hg3⟩
        have hv3 := hv2.grown hg3 (by simp; omega)
        have hG3 := grown_trans2 hG2 hg3
        obtain ⟨d0, d1, d2, k1, k2⟩ := hr3.cells
        have hR5 := hr3.bad true
        have hv5 := hv3.grown hR5.2 (by simp; omega)
        have hG5 := setCell_grown (o := 2) hG3 (.inl rfl) (.bool true)
        have hva := hv5.grown (World.grownBy_alloc _ (.cells #[] 55) none) (by simp)
        obtain ⟨x0, x1, x2, y0, y1, y2⟩ := hva.cells
        have hGa := grown_alloc hG5 (.cells #[] 55)
        have hRa := hR5.1.grown (World.grownBy_alloc _ (.cells #[] 55) none) (by simp)
        go_wp2_with fail
        refine ret_node (set3_var hva _ _ _ _ _) rfl rfl ?_
        refine ⟨_, _, _, _, _, rfl, set3_grown hGa (Nat.le_refl _) _ _ _ _ _, ?_⟩
        rw [HRD.out]
        exact ⟨i + 1 + 1, hi2, set3_rdr hRa (by omega) _ _ _ _ _⟩
end Go.Proofs.YtemilnkglkpnjaaDoor

