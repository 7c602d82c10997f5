/- Chapter 5: the text of a triple, in the model and in the program. -/
import Derived.Test.YtcppphjdgpkhcaaDoorTN
namespace Go.Proofs.YtcppphjdgpkhcaaDoor
open Go.ChangeShapes Go.WideShapes Go.ChangeAt Go.RowKit Go.Shelf
attribute [local go_sem] Oper.semAt_some
set_option maxRecDepth 100000

theorem mname40 (x : Int) (w : World) :
    Calls Tryd.prog 22 #[.int .i64 x] w fun e w' => e = .returned (.string (nameX x)) ∧ w = w' := by
  by_cases h0 : x = 0
  · subst h0
    go_enter Tryd.func22, Tryd.ntmps22
    go_wp2
    go_ret
    exact ⟨rfl, rfl⟩
  · by_cases h1 : x = 1
    · subst h1
      go_enter Tryd.func22, Tryd.ntmps22
      go_wp2
      go_ret
      exact ⟨rfl, rfl⟩
    · have e : nameX x = ⟨#[]⟩ := by unfold nameX; rw [if_neg h0, if_neg h1]
      have b0 : (x == 0) = false := by simpa using h0
      have b1 : (x == 1) = false := by simpa using h1
      rw [e]
      clear h0 h1 e
      go_enter Tryd.func22, Tryd.ntmps22
      go_wp2
      go_ret
      exact ⟨rfl, rfl⟩

theorem name_size (x : Int) : (nameX x).size ≤ 5 := by
  unfold nameX
  split
  · decide
  · split <;> decide
theorem set_size (s : Int) : (⟨(setL s).toArray⟩ : ByteArray).size ≤ 27 := setL_len s
theorem prog_size {b : Int} {p : ByteArray} {x r : Int} (h : validT b p x r = true) : p.size ≤ 60 := by
  obtain ⟨_, h2, _, _⟩ := valid_all h
  rw [Lib.toList_data] at h2
  have k2 := isP_len h2
  have k3 : p.data.toList.length = p.size := by rw [Array.length_toList]; rfl
  omega

set_option maxHeartbeats 2000000 in
theorem mfmt_no (b : Int) (p : ByteArray) (hp : p.size ≤ 9000000) (x r : Int) (w : World) (hv : validT b p x r = false) :
    Calls Tryd.prog 15 #[.agg #[.int .i64 b, .string p, .int .i64 x, .int .i64 r]] w fun e w' => e = .returned (.string ⟨#[]⟩) ∧ Below w.heap.size w w' := by
  have hV := fun X => mtvalid b p hp x r X
  have hA : Below w.heap.size w (w.alloc (.cells #[.int .i64 b, .string p, .int .i64 x, .int .i64 r] 23)) := (Below.refl _ w).alloc (Nat.le_refl _) _
  rw [hv] at hV
  clear hv
  go_enter Tryd.func15, Tryd.ntmps15
  go_wp2_with (go_at_call 21; refine (hV _).mono ?_; rintro e W1 ⟨rfl, hb⟩)
  go_ret
  exact ⟨rfl, hA.trans (hb.mono hA.size)⟩
set_option maxHeartbeats 2000000 in
theorem mfmt_yes (b : Int) (p : ByteArray) (x r : Int) (w : World) (hv : validT b p x r = true) :
    Calls Tryd.prog 15 #[.agg #[.int .i64 b, .string p, .int .i64 x, .int .i64 r]] w fun e w' => e = .returned (.string (lineT b p x r)) ∧ Below w.heap.size w w' := by
  have hps := prog_size hv
  have hV := fun X => mtvalid b p (by omega) x r X
  rw [hv] at hV
  clear hv
  have hF1 := fun X => fs26 b X
  have hF2 := fun X => fs26 r X
  have hNm := fun X => mname40 x X
  have hs1 := set_size b
  have hs2 := set_size r
  have hnm := name_size x
  unfold lineT
  generalize (⟨(setL b).toArray⟩ : ByteArray) = s1 at hF1 hs1 ⊢
  generalize (⟨(setL r).toArray⟩ : ByteArray) = s2 at hF2 hs2 ⊢
  generalize nameX x = nm at hNm hnm ⊢
  have l1 : s1.size + 1 ≤ 9223372036854775807 := by omega
  have l2 : s1.size + 1 + p.size ≤ 9223372036854775807 := by omega
  have l3 : s1.size + 1 + p.size + 1 ≤ 9223372036854775807 := by omega
  have l4 : s1.size + 1 + p.size + 1 + nm.size ≤ 9223372036854775807 := by omega
  have l5 : s1.size + 1 + p.size + 1 + nm.size + 1 ≤ 9223372036854775807 := by omega
  have l6 : s1.size + 1 + p.size + 1 + nm.size + 1 + s2.size ≤ 9223372036854775807 := by omega
  have hA : Below w.heap.size w (w.alloc (.cells #[.int .i64 b, .string p, .int .i64 x, .int .i64 r] 23)) := (Below.refl _ w).alloc (Nat.le_refl _) _
  have hT := TripAt.new w b p x r
  go_enter Tryd.func15, Tryd.ntmps15
  go_wp2_with (go_at_call 21; refine (hV _).mono ?_; rintro e W1 ⟨rfl, hb⟩)
  have hR : ReadsT w.heap.size b p x r W1 := (hT.below hb hT.lt).cells
  have hlt : w.heap.size < W1.heap.size := Nat.lt_of_lt_of_le (by simp) hb.size
  have hB := hA.trans (hb.mono hA.size)
  have hs0 := hB.size
  clear hT hA hb hps hs1 hs2 hnm
  generalize hg : w.heap.size = g at hR hlt hB hs0 ⊢
  have HG := Lib.hid hg
  clear hg
  refine wp_region_held (S := ReadsT g b p x r) (by kernel_rfl) ?_
  refine wpAnyH_take (i := 0) (v := .pointer (some ⟨g, 0, none⟩)) rfl (by kernel_rfl) (by kernel_rfl) (by kernel_rfl) (fun _ _ _ h => h) (Or.inl ⟨by rfl, fun w hw => by go_simp⟩) hR.drew ?_
  go_simp
  refine wpAnyH_take (i := 4) (v := .pointer (some ⟨g, 1, none⟩)) rfl (by kernel_rfl) (by kernel_rfl) (by kernel_rfl) (fun _ _ _ h => h) (Or.inl ⟨by rfl, fun w hw => by go_simp⟩) hR.drew ?_
  go_simp
  refine wpAnyH_take (i := 8) (v := .pointer (some ⟨g, 2, none⟩)) rfl (by kernel_rfl) (by kernel_rfl) (by kernel_rfl) (fun _ _ _ h => h) (Or.inl ⟨by rfl, fun w hw => by go_simp⟩) hR.drew ?_
  go_simp
  refine wpAnyH_take (i := 13) (v := .pointer (some ⟨g, 3, none⟩)) rfl (by kernel_rfl) (by kernel_rfl) (by kernel_rfl) (fun _ _ _ h => h) (Or.inl ⟨by rfl, fun w hw => by go_simp⟩) hR.drew ?_
  go_simp
  refine wpAnyH_take (i := 1) (v := .int .i64 b) rfl (by kernel_rfl) (by kernel_rfl) (by kernel_rfl) (fun _ _ _ h => h) (Or.inl ⟨by rfl, fun w hw => by obtain ⟨c0, c1, c2, c3⟩ := hw; first | (go_simp; done) | rfl⟩) hR.drew ?_
  go_simp
  refine wpAnyH_take (i := 5) (v := .string p) rfl (by kernel_rfl) (by kernel_rfl) (by kernel_rfl) (fun _ _ _ h => h) (Or.inl ⟨by rfl, fun w hw => by obtain ⟨c0, c1, c2, c3⟩ := hw; first | (go_simp; done) | rfl⟩) hR.drew ?_
  go_simp
  refine wpAnyH_take (i := 9) (v := .int .i64 x) rfl (by kernel_rfl) (by kernel_rfl) (by kernel_rfl) (fun _ _ _ h => h) (Or.inl ⟨by rfl, fun w hw => by obtain ⟨c0, c1, c2, c3⟩ := hw; first | (go_simp; done) | rfl⟩) hR.drew ?_
  go_simp
  refine wpAnyH_take (i := 14) (v := .int .i64 r) rfl (by kernel_rfl) (by kernel_rfl) (by kernel_rfl) (fun _ _ _ h => h) (Or.inl ⟨by rfl, fun w hw => by obtain ⟨c0, c1, c2, c3⟩ := hw; first | (go_simp; done) | rfl⟩) hR.drew ?_
  go_simp
  refine wpAnyH_ready (rs := [2]) (by kernel_rfl) (by simp) ?_
  refine AllReadyH.cons rfl (fun K hK => ?_) AllReadyH.nil
  go_simp
  go_wp2_with (go_at_call 20; refine (hF1 _).mono ?_; rintro e W2 ⟨rfl, hb2⟩)
  refine hK _ _ (hR.drew.below hb2 hlt) (fun hR2 => ?_)
  clear hK K
  go_simp
  have hlt2 := Nat.lt_of_lt_of_le hlt hb2.size
  refine wpAnyH_take (i := 3) (v := .string (s1 ++ ⟨#[32]⟩)) rfl (by kernel_rfl) (by kernel_rfl) (by kernel_rfl) (fun _ _ _ h => h) (Or.inl ⟨by rfl, fun w hw => by go_simp⟩) hR2 ?_
  go_simp
  refine wpAnyH_take (i := 6) (v := .string (s1 ++ ⟨#[32]⟩ ++ p)) rfl (by kernel_rfl) (by kernel_rfl) (by kernel_rfl) (fun _ _ _ h => h) (Or.inl ⟨by rfl, fun w hw => by go_simp⟩) hR2 ?_
  go_simp
  refine wpAnyH_take (i := 7) (v := .string (s1 ++ ⟨#[32]⟩ ++ p ++ ⟨#[32]⟩)) rfl (by kernel_rfl) (by kernel_rfl) (by kernel_rfl) (fun _ _ _ h => h) (Or.inl ⟨by rfl, fun w hw => by go_simp⟩) hR2 ?_
  go_simp
  refine wpAnyH_ready (rs := [10]) (by kernel_rfl) (by simp) ?_
  refine AllReadyH.cons rfl (fun K hK => ?_) AllReadyH.nil
  go_simp
  go_wp2_with (go_at_call 22; refine (hNm _).mono ?_; rintro e W3 ⟨rfl, rfl⟩)
  refine hK _ _ (hR2) (fun hR3 => ?_)
  clear hK K
  go_simp
  refine wpAnyH_take (i := 11) (v := .string (s1 ++ ⟨#[32]⟩ ++ p ++ ⟨#[32]⟩ ++ nm)) rfl (by kernel_rfl) (by kernel_rfl) (by kernel_rfl) (fun _ _ _ h => h) (Or.inl ⟨by rfl, fun w hw => by go_simp⟩) hR3 ?_
  go_simp
  refine wpAnyH_take (i := 12) (v := .string (s1 ++ ⟨#[32]⟩ ++ p ++ ⟨#[32]⟩ ++ nm ++ ⟨#[32]⟩)) rfl (by kernel_rfl) (by kernel_rfl) (by kernel_rfl) (fun _ _ _ h => h) (Or.inl ⟨by rfl, fun w hw => by go_simp⟩) hR3 ?_
  go_simp
  refine wpAnyH_ready (rs := [15]) (by kernel_rfl) (by simp) ?_
  refine AllReadyH.cons rfl (fun K hK => ?_) AllReadyH.nil
  go_simp
  go_wp2_with (go_at_call 20; refine (hF2 _).mono ?_; rintro e W4 ⟨rfl, hb4⟩)
  refine hK _ _ (hR3.below hb4 hlt2) (fun hR4 => ?_)
  clear hK K
  go_simp
  refine wpAnyH_take (i := 16) (v := .string (s1 ++ ⟨#[32]⟩ ++ p ++ ⟨#[32]⟩ ++ nm ++ ⟨#[32]⟩ ++ s2)) rfl (by kernel_rfl) (by kernel_rfl) (by kernel_rfl) (fun _ _ _ h => h) (Or.inl ⟨by rfl, fun w hw => by go_simp⟩) hR4 ?_
  go_simp
  refine wpAnyH_take (i := 17) (v := .string (s1 ++ ⟨#[32]⟩ ++ p ++ ⟨#[32]⟩ ++ nm ++ ⟨#[32]⟩ ++ s2)) rfl (by kernel_rfl) (by kernel_rfl) (by kernel_rfl) (fun _ _ _ h => h) (Or.inl ⟨by rfl, fun w hw => by go_simp⟩) hR4 ?_
  go_simp
  refine wpAnyH_done (by kernel_rfl) ?_ _
  go_wp2_with fail
  go_ret
  obtain rfl := HG.out
  have h2 := hB.drew.trans (hb2.mono hs0)
  exact ⟨rfl, h2.trans (hb4.mono h2.size)⟩
theorem mfmt16 (b : Int) (p : ByteArray) (hp : p.size ≤ 9000000) (x r : Int) (w : World) :
    Calls Tryd.prog 15 #[.agg #[.int .i64 b, .string p, .int .i64 x, .int .i64 r]] w fun e w' => e = .returned (.string (fmtT b p x r)) ∧ Below w.heap.size w w' := by
  cases hv : validT b p x r with
  | false => rw [fmt_no hv]; exact mfmt_no b p hp x r w hv
  | true => rw [fmt_yes hv]; exact mfmt_yes b p x r w hv

theorem join_line (b : Int) (p : ByteArray) (x r : Int) : (⟨(Lib.join ([(⟨(setL b).toArray⟩ : ByteArray), p, nameX x, ⟨(setL r).toArray⟩].map (·.data.toList)) (⟨#[32]⟩ : ByteArray).data.toList).toArray⟩ : ByteArray) = lineT b p x r := by
  apply ByteArray.ext
  have h := line_list b p x r
  apply Array.toList_inj.1
  rw [h]
  simp [Lib.join]
end Go.Proofs.YtcppphjdgpkhcaaDoor

