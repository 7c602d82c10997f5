/- ParseSet of the model. -/
import Derived.Test.YtopibdhfkemnmaaDoorCut
namespace Go.Proofs.YtopibdhfkemnmaaDoor
open Go.ChangeShapes Go.WideShapes Go.ChangeAt Go.RowKit Go.Shelf

theorem piece_len : ∀ (l : List UInt8) (p : List UInt8), p ∈ cutL l → p.length ≤ l.length
  | [], p, h => by simp [cutL] at h; subst h; simp
  | c :: r, p, h => by
    have ih := piece_len r
    unfold cutL at h
    split at h
    · rcases List.mem_cons.1 h with rfl | h
      · simp
      · have := ih p h; simp; omega
    · split at h
      · simp at h; subst h; simp
      · rename_i w ws hc
        rcases List.mem_cons.1 h with rfl | h
        · have := ih w (by rw [hc]; simp); simp; omega
        · have := ih p (by rw [hc]; simp [h]); simp; omega

theorem texts_at {W : World} {B : Nat} {v : Value} {ws : List (List UInt8)} (h : W.ownsRow B 9 1 v ws.length (texts ws)) (hne : ws ≠ []) :
    ∃ g cap, v = .slice (some ⟨g, 0, none⟩) ws.length cap ∧ g < W.heap.size ∧ (∀ (j : Nat) p, ws[j]? = some p → W.cell? ⟨g, j, none⟩ = some (.string ⟨p.toArray⟩)) := by
  have h' := h
  rcases h.2 with ⟨_, h0⟩ | ⟨g, cap, cur, rfl, hb, hg, hn, hm, _⟩
  · exact absurd (List.length_eq_zero_iff.1 h0) hne
  · refine ⟨g, cap, rfl, (Array.getElem?_eq_some_iff.1 hg).1, fun j p hp => ?_⟩
    have hj := (List.getElem?_eq_some_iff.1 hp).1
    rw [World.ownsRow.cellAt h' j (by omega)]
    simp [texts, hp]

theorem nine (z : Fin 9) : z = 0 ∨ z = 1 ∨ z = 2 ∨ z = 3 ∨ z = 4 ∨ z = 5 ∨ z = 6 ∨ z = 7 ∨ z = 8 := by
  have : ∀ z : Fin 9, z = 0 ∨ z = 1 ∨ z = 2 ∨ z = 3 ∨ z = 4 ∨ z = 5 ∨ z = 6 ∨ z = 7 ∨ z = 8 := by decide
  exact this z
theorem two0 : two 0 = [48, 48] := by decide
theorem two1 : two 1 = [48, 49] := by decide
theorem two2 : two 2 = [48, 50] := by decide
theorem two3 : two 3 = [49, 48] := by decide
theorem two4 : two 4 = [49, 49] := by decide
theorem two5 : two 5 = [49, 50] := by decide
theorem two6 : two 6 = [50, 48] := by decide
theorem two7 : two 7 = [50, 49] := by decide
theorem two8 : two 8 = [50, 50] := by decide
theorem allW_take {ws : List (List UInt8)} {k : Nat} {xs : List (Fin 9)} {p : List UInt8} {z : Fin 9} (h : allW (ws.take k) = some xs) (hp : ws[k]? = some p) (hz : wordOf p = some z) : allW (ws.take (k + 1)) = some (xs ++ [z]) := by
  rw [List.take_add_one, hp]
  exact allW_snoc h hz
theorem allW_hole {ws : List (List UInt8)} {k : Nat} {p : List UInt8} (hp : ws[k]? = some p) (hz : wordOf p = none) : allW ws = none := by
  refine allW_bad hz (ws.take k) ?_
  have h : ws.take (k + 1) = ws.take k ++ [p] := by rw [List.take_add_one, hp]; rfl
  rw [← h]
  exact List.take_prefix _ _

theorem parse_none {t : List UInt8} (h0 : t ≠ [45]) (h : allW (cutL t) = none) : parseN t = 0 ∧ parseOk t = false := by
  unfold parseN parseOk parseL
  rw [if_neg h0, h]
  exact ⟨rfl, rfl⟩

set_option maxRecDepth 100000 in
set_option maxHeartbeats 8000000 in
theorem mp12_in (t : ByteArray) (ht : t.size ≤ 1048576) (h0 : t.data.toList ≠ [45]) (w : World) :
    Calls Tryd.prog 12 #[.string t] w fun e W' => e = .returned (.tuple #[.int .i64 (parseN t.data.toList), .bool (parseOk t.data.toList)]) ∧ Below w.heap.size w W' := by
  have hne : (t.toList == [45]) = false := by rw [Lib.toList_data]; simpa using h0
  have hne2 : (t.toList != [45]) = true := by rw [Lib.toList_data]; simpa using h0
  have hlen : t.data.toList.length = t.size := by rw [Array.length_toList]; rfl
  have HLn := Lib.hid hlen
  have H0 := Lib.hid h0
  clear hlen h0
  go_enter Tryd.func12, Tryd.ntmps12
  go_wp2_with fail
  go_at_call 23
  refine (cut23 t ht _).mono ?_
  rintro e W1 ⟨v, rfl, hown, hB1⟩
  obtain ⟨g, cap, rfl, hg, hcells⟩ := texts_at hown (cutL_ne _)
  obtain ⟨ws, hws⟩ : ∃ ws, ws = cutL t.data.toList := ⟨_, rfl⟩
  rw [← hws] at hcells hown ⊢
  have hwl : ws.length ≤ 1048577 := by have := cutL_len t.data.toList; rw [← hws, HLn.out] at this; omega
  have HW := Lib.hid hws
  have HC := Lib.hid hcells
  have wl1 : (ws.length : Int) ≤ 1048577 := by omega
  clear hws hcells
  go_wp2_with fail
  go_loopw [4, 12] (fun o i wr => ∃ (k : Nat) (xs : List (Fin 9)), k ≤ ws.length ∧ i = .int .i64 k ∧ o = .int .i64 (orL xs : Int) ∧ allW (ws.take k) = some xs ∧ (∀ a : Addr, a.block = g → wr.cell? a = W1.cell? a) ∧ Below w.heap.size w wr) (fun _ i _ => ws.length - (intOf i).toNat)
  case atStart => exact ⟨0, [], by omega, rfl, rfl, rfl, fun _ _ => rfl, hB1⟩
  case round =>
    obtain ⟨k, xs, hk, rfl, rfl, hx, hsame, hB⟩ := hrel
    have HX := Lib.hid hx
    have HS := Lib.hid hsame
    clear hx hsame
    by_cases hlt : k < ws.length
    · obtain ⟨p, hp⟩ : ∃ p, ws[k]? = some p := ⟨_, List.getElem?_eq_getElem hlt⟩
      have hpl : p.length ≤ 1048576 := by
        have := piece_len t.data.toList p (by rw [← HW.out]; exact List.mem_of_getElem? hp)
        rw [HLn.out] at this; omega
      have hc1 : wr.cell? ⟨g, k, none⟩ = some (.string ⟨p.toArray⟩) := (HS.out ⟨g, k, none⟩ rfl).trans (HC.out k p hp)
      have HP := Lib.hid hp
      clear hp
      cases hw : wordOf p with
      | none =>
        have HN := Lib.hid (parse_none H0.out (by rw [← HW.out]; exact allW_hole HP.out hw))
        by_cases h2 : p.length = 2
        · obtain ⟨a, b, rfl⟩ : ∃ a b, p = [a, b] := by
            match p, h2 with
            | [a, b], _ => exact ⟨a, b, rfl⟩
          have a1 : (a.toNat : Int) ≤ 255 := by have := a.toNat_lt; omega
          have b1 : (b.toNat : Int) ≤ 255 := by have := b.toNat_lt; omega
          have a0 : (0 : Int) ≤ (a.toNat : Int) := by omega
          have b0 : (0 : Int) ≤ (b.toNat : Int) := by omega
          have hA : ∀ h : 0 < (⟨#[a, b]⟩ : ByteArray).size, (⟨#[a, b]⟩ : ByteArray)[0]'h = a := fun _ => rfl
          have hBb : ∀ h : 1 < (⟨#[a, b]⟩ : ByteArray).size, (⟨#[a, b]⟩ : ByteArray)[1]'h = b := fun _ => rfl
          have hnn : ¬ ((48 ≤ a.toNat ∧ a.toNat ≤ 50) ∧ (48 ≤ b.toNat ∧ b.toNat ≤ 50)) := by
            intro hh
            have e : wordOf [a, b] = some ⟨3 * (a.toNat - 48) + (b.toNat - 48), by omega⟩ := dif_pos hh
            rw [e] at hw
            cases hw
          clear hw h2 hpl
          by_cases ha : 48 ≤ (a.toNat : Int) ∧ (a.toNat : Int) ≤ 50
          · have q1 := inB_yes ha
            have q2 : inB (b.toNat : Int) 48 50 = false := inB_no (by omega)
            clear hnn ha
            go_wp2_with (go_at_call 19; refine (inB40 _ _ _ _).mono ?_; rintro e w' ⟨rfl, rfl⟩)
            go_ret2
            exact ⟨by rw [HN.out.1, HN.out.2]; rfl, hB⟩
          · have q1 := inB_no ha
            clear hnn ha
            go_wp2_with (go_at_call 19; refine (inB40 _ _ _ _).mono ?_; rintro e w' ⟨rfl, rfl⟩)
            go_ret2
            exact ⟨by rw [HN.out.1, HN.out.2]; rfl, hB⟩
        · have g1 : ((p.length : Int) != 2) = true := by simp; omega
          have g2 : (p.length : Int) ≤ 1048576 := by omega
          clear hw
          go_wp2_with (go_at_call 19; refine (inB40 _ _ _ _).mono ?_; rintro e w' ⟨rfl, rfl⟩)
          go_ret2
          exact ⟨by rw [HN.out.1, HN.out.2]; rfl, hB⟩
      | some z =>
        have HT := Lib.hid (allW_take HX.out HP.out hw)
        have hp2 := two_wordOf hw
        subst hp2
        have ho := orL_lt xs
        have HO := Lib.hid ho
        have hor := or_pow (orL xs) z ho
        have HR := Lib.hid hor
        have q0 : inB 48 48 50 = true := by decide
        have q1 : inB 49 48 50 = true := by decide
        have q2 : inB 50 48 50 = true := by decide
        clear hw hpl ho hor
        have hA : ∀ (a b : UInt8) (h : 0 < (⟨#[a, b]⟩ : ByteArray).size), (⟨#[a, b]⟩ : ByteArray)[0]'h = a := fun _ _ _ => rfl
        have hBb : ∀ (a b : UInt8) (h : 1 < (⟨#[a, b]⟩ : ByteArray).size), (⟨#[a, b]⟩ : ByteArray)[1]'h = b := fun _ _ _ => rfl
        have n48 : (48 : UInt8).toNat = 48 := rfl
        have n49 : (49 : UInt8).toNat = 49 := rfl
        have n50 : (50 : UInt8).toNat = 50 := rfl
        rcases nine z with rfl | rfl | rfl | rfl | rfl | rfl | rfl | rfl | rfl
        all_goals
          (first | rw [two0] at hc1 | rw [two1] at hc1 | rw [two2] at hc1 | rw [two3] at hc1 | rw [two4] at hc1 | rw [two5] at hc1 | rw [two6] at hc1 | rw [two7] at hc1 | rw [two8] at hc1)
          go_wp2_with (go_at_call 19; refine (inB40 _ _ _ _).mono ?_; rintro e w' ⟨rfl, rfl⟩)
          go_quiet (fail)
          go_wp2
          go_roundw
          case rel => exact ⟨k + 1, _, by omega, by go_num, by rw [orL_snoc]; exact congrArg (Value.int .i64) HR.out, HT.out, fun a h => HS.out a h, below_drewN hB _⟩
          case measure => simp [intOf]; omega
    · obtain rfl : k = ws.length := by omega
      have hall : allW (cutL t.data.toList) = some xs := by rw [← HW.out]; have := HX.out; rwa [List.take_length] at this
      have hpm := parse_model H0.out hall
      by_cases heq : setL (orL xs : Int) = t.data.toList
      · have HF := Lib.hid (show parseN t.data.toList = (orL xs : Int) ∧ parseOk t.data.toList = true by
          rw [if_pos heq] at hpm
          unfold parseN parseOk
          rw [hpm]
          exact ⟨rfl, rfl⟩)
        have hcmp : (setL (orL xs : Int) == t.toList) = true := by rw [Lib.toList_data, heq]; simp
        clear hpm hall heq
        go_wp2_with (go_at_call 8; refine (fs26 _ _).mono ?_; rintro e W2 ⟨rfl, hb⟩)
        go_ret2
        exact ⟨by rw [HF.out.1, HF.out.2]; rfl, hB.trans (hb.mono hB.size)⟩
      · have HF := Lib.hid (show parseN t.data.toList = 0 ∧ parseOk t.data.toList = false by
          rw [if_neg heq] at hpm
          unfold parseN parseOk
          rw [hpm]
          exact ⟨rfl, rfl⟩)
        have hcmp : (setL (orL xs : Int) == t.toList) = false := by rw [Lib.toList_data]; simpa using heq
        clear hpm hall heq
        go_wp2_with (go_at_call 8; refine (fs26 _ _).mono ?_; rintro e W2 ⟨rfl, hb⟩)
        go_ret2
        exact ⟨by rw [HF.out.1, HF.out.2]; rfl, hB.trans (hb.mono hB.size)⟩
end Go.Proofs.YtopibdhfkemnmaaDoor
