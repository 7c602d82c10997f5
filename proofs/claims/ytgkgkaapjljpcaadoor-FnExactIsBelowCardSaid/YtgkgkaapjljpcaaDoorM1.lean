/- The model's assignments: what they reach from a state. -/
import Derived.Test.YtgkgkaapjljpcaaDoorRn
import Derived.Test.YtgkgkaapjljpcaaDoorSt
import Derived.Test.YtgkgkaapjljpcaaDoorA1
namespace Go.Proofs.YtgkgkaapjljpcaaDoor
open Go.ChangeShapes Go.WideShapes Go.ChangeAt Go.RowKit Go.Shelf
attribute [local go_sem] Oper.semAt_some
set_option maxRecDepth 100000

theorem own_none (w : World) : (w.alloc (.cells #[] 3)).ownsRow w.heap.size 3 1 (.slice (some ⟨w.heap.size, 0, none⟩) 0 0) 0 [] :=
  ⟨rfl, .inr ⟨w.heap.size, 0, #[], rfl, Nat.le_refl _, heap_alloc_new w _, Nat.le_refl _, Nat.zero_le _, rfl, rfl⟩⟩

theorem byte0 (c d : UInt8) (h : 0 < (⟨#[c, d]⟩ : ByteArray).size) : (⟨#[c, d]⟩ : ByteArray)[0]'h = c := rfl
theorem byte1 (c d : UInt8) (h : 1 < (⟨#[c, d]⟩ : ByteArray).size) : (⟨#[c, d]⟩ : ByteArray)[1]'h = d := rfl
theorem side_nat (d : UInt8) (hd : d = 48 ∨ d = 49 ∨ d = 50 ∨ d = 120 ∨ d = 121) (s : Nat) (hs : s < 9) : ∃ v : Nat, v ≤ 2 ∧ sideV (d.toNat : Int) ((s : Int) / 3) ((s : Int) % 3) = (v : Int) ∧ ∀ c, asgS c d s = putS c s v := by
  rcases hd with rfl | rfl | rfl | rfl | rfl
  · exact ⟨0, by omega, rfl, fun c => rfl⟩
  · exact ⟨1, by omega, rfl, fun c => rfl⟩
  · exact ⟨2, by omega, rfl, fun c => rfl⟩
  · exact ⟨s / 3, by omega, by show (s : Int) / 3 = _; omega, fun c => rfl⟩
  · exact ⟨s % 3, by omega, by show (s : Int) % 3 = _; omega, fun c => rfl⟩

theorem plain_add (g j : Nat) : (⟨g, 0, none⟩ : Addr).add j = ⟨g, j, none⟩ := by
  unfold Addr.add
  by_cases h : j = 0
  · subst h; simp
  · simp [h]
theorem ints_row {W : World} {B n : Nat} {v : Value} {xs : List Value} (h : W.ownsRow B 3 1 v n xs) (hn0 : 0 < n) :
    ∃ g cap, v = .slice (some ⟨g, 0, none⟩) n cap ∧ g < W.heap.size ∧ ∀ (j : Nat) u, xs[j]? = some u → W.cell? ⟨g, j, none⟩ = some u := by
  rcases h.2 with ⟨_, h0⟩ | ⟨g, cap, cur, rfl, hb, hg, hn, hm, _⟩
  · omega
  · refine ⟨g, cap, rfl, (Array.getElem?_eq_some_iff.1 hg).1, fun j u hu => ?_⟩
    have := World.ownsRow.cells h (g := g) rfl j u hu
    rw [plain_add] at this
    exact this
theorem one_at (w : World) (v : Nat) : ∀ (j : Nat) u, ([.int .i64 (v : Int)] : List Value)[j]? = some u → ((w.alloc (.cells #[] 3)).alloc (.cells #[.int .i64 (v : Int)] 3)).cell? ((⟨w.heap.size + 1, 0, none⟩ : Addr).add j) = some u := by
  intro j u h
  match j, h with
  | 0, h =>
    cases h
    have hn := heap_alloc_new (w.alloc (.cells #[] 3)) (.cells #[.int .i64 (v : Int)] 3)
    rw [World.size_alloc] at hn
    show World.cell? _ ⟨w.heap.size + 1, 0, none⟩ = _
    rw [cell_of_row _ (w.heap.size + 1) 0 _ 3 (0, 0) hn]; rfl
  | j + 1, h => simp at h

theorem shl_nat (n : Nat) (hn : n ≤ 8) : wrap64 (2 ^ n) = ((2 ^ n : Nat) : Int) := by
  have h := pow_lt n hn
  have e : (2 : Int) ^ n = ((2 ^ n : Nat) : Int) := by rw [Int.natCast_pow]; rfl
  rw [e]; generalize (2 ^ n : Nat) = m at h ⊢; exact IntWalk.wrap64_in _ ⟨by omega, by omega⟩
theorem shl_or (a n : Nat) (ha : a < 512) (hn : n ≤ 8) : bits .or .i64 (a : Int) (wrap64 (2 ^ n)) = ((a ||| 2 ^ n : Nat) : Int) := by
  rw [shl_nat n hn]
  exact or_nat a (2 ^ n) (by omega) (by have := pow_lt n hn; omega)
theorem put_x (s v : Nat) : putS 120 s v = 2 ^ (3 * v + s % 3) := rfl
theorem put_y (s v : Nat) : putS 121 s v = 2 ^ (3 * (s / 3) + v) := rfl

set_option maxHeartbeats 4000000 in
/-- An assignment of a number, or of a variable. -/
theorem asg_plain (c d : UInt8) (hc : c = 120 ∨ c = 121) (hd : d = 48 ∨ d = 49 ∨ d = 50 ∨ d = 120 ∨ d = 121) (s : Nat) (hs : s < 9) (w : World) :
    Calls Tryd.prog 94 #[.string ⟨#[c, d]⟩, .int .i64 (s : Int)] w fun e w' => e = .returned (.int .i64 ((asgS c d s : Nat) : Int)) ∧ Below w.heap.size w w' := by
  obtain ⟨i0, hi, hz0, hz1, hz2⟩ := info_parts Tryd.info3
  have HO := Lib.hid (own_none w)
  have hA : Below w.heap.size w (w.alloc (.cells #[] 3)) := (Below.refl _ _).alloc (Nat.le_refl _) _
  have hsi : (s : Int) < 9 := by omega
  have hs0 : (0 : Int) ≤ (s : Int) := by omega
  obtain ⟨v, hv2, hsv, hasg⟩ := side_nat d hd s hs
  have b0 := byte0 c d
  have b1 := byte1 c d
  have d1 : ((d.toNat : Int) == 43) = false := by rcases hd with rfl | rfl | rfl | rfl | rfl <;> rfl
  have d2 : ((d.toNat : Int) == 63) = false := by rcases hd with rfl | rfl | rfl | rfl | rfl <;> rfl
  have hd255 : (d.toNat : Int) ≤ 255 := by have := d.toNat_lt; omega
  have hd0 : (0 : Int) ≤ (d.toNat : Int) := by omega
  go_enter Tryd.func94, Tryd.ntmps94
  go_wp2_with fail
  go_at_call 120
  refine (value58 _ _ hd0 hd255 hs0 (by omega) _).mono ?_
  rintro e W1 ⟨rfl, rfl⟩
  rw [hsv]
  go_wp2_with (at_builtin; refine wpList_append_own _ rfl _ _ 23 rfl w.heap.size 3 i0 (.int .i64 0) 1 8 Tryd.underlying23 hi hz0 hz1 hz2 rfl (by decide) _ 0 [] rfl (HO.out.alloc _) ⟨w.heap.size + 1, 0, none⟩ 1 1 [.int .i64 (v : Int)] rfl (by rfl) (one_at w v) (by simp [Value.oneCell']) (by unfold maxLen; omega) (by omega) (by simp; omega) ?_; intro v' w1 hown' hgrow _; have hE := (hA.alloc (by simp) _).grown hgrow (by simp; omega) (fun i e => by cases e; exact Nat.le_refl _); clear hgrow; obtain ⟨g, cp, rfl, hgl, hcs⟩ := ints_row hown' (by omega); have hc0 := hcs 0 _ rfl; clear hown' hcs)
  have hs3 : s / 3 ≤ 2 := by omega
  rcases hc with rfl | rfl
  · have HB := Lib.hid (show bits .or .i64 0 (wrap64 (2 ^ (3 * v + s % 3))) = ((putS 120 s v : Nat) : Int) from (shl_or 0 (3 * v + s % 3) (by omega) (by omega)).trans (by rw [put_x, Nat.zero_or]))
    go_loopw [8, 43] (fun o i wr => wr = w1 ∧ ((o = .int .i64 0 ∧ i = .int .i64 0) ∨ (o = .int .i64 ((putS 120 s v : Nat) : Int) ∧ i = .int .i64 1))) (fun _ i _ => 1 - (intOf i).toNat)
    case atStart => exact ⟨rfl, .inl ⟨rfl, rfl⟩⟩
    case round =>
      obtain ⟨rfl, ⟨rfl, rfl⟩ | ⟨rfl, rfl⟩⟩ := hrel
      · go_wp2_with fail
        go_roundw
        case rel => exact ⟨trivial, .inr ⟨by rw [HB.out], rfl⟩⟩
        case measure => simp [intOf]
      · go_wp2
        go_ret
        exact ⟨by rw [hasg]; rfl, hE⟩
  · have HB := Lib.hid (show bits .or .i64 0 (wrap64 (2 ^ (3 * (s / 3) + v))) = ((putS 121 s v : Nat) : Int) from (shl_or 0 (3 * (s / 3) + v) (by omega) (by omega)).trans (by rw [put_y, Nat.zero_or]))
    go_loopw [8, 43] (fun o i wr => wr = w1 ∧ ((o = .int .i64 0 ∧ i = .int .i64 0) ∨ (o = .int .i64 ((putS 121 s v : Nat) : Int) ∧ i = .int .i64 1))) (fun _ i _ => 1 - (intOf i).toNat)
    case atStart => exact ⟨rfl, .inl ⟨rfl, rfl⟩⟩
    case round =>
      obtain ⟨rfl, ⟨rfl, rfl⟩ | ⟨rfl, rfl⟩⟩ := hrel
      · go_wp2_with fail
        go_roundw
        case rel => exact ⟨trivial, .inr ⟨by rw [HB.out], rfl⟩⟩
        case measure => simp [intOf]
      · go_wp2
        go_ret
        exact ⟨by rw [hasg]; rfl, hE⟩

theorem side_plus (c : UInt8) (hc : c = 120 ∨ c = 121) (s : Nat) (hs : s < 9) : ∃ u v : Nat, u ≤ 2 ∧ v ≤ 2 ∧ sideV (c.toNat : Int) ((s : Int) / 3) ((s : Int) % 3) = (u : Int) ∧ ((u : Int) + 1) % 3 = (v : Int) ∧ asgS c 43 s = putS c s v := by
  rcases hc with rfl | rfl
  · exact ⟨s / 3, (s / 3 + 1) % 3, by omega, by omega, by show (s : Int) / 3 = _; omega, by omega, rfl⟩
  · exact ⟨s % 3, (s % 3 + 1) % 3, by omega, by omega, by show (s : Int) % 3 = _; omega, by omega, rfl⟩
set_option maxHeartbeats 4000000 in
/-- One more. -/
theorem asg_plus (c : UInt8) (hc : c = 120 ∨ c = 121) (s : Nat) (hs : s < 9) (w : World) :
    Calls Tryd.prog 94 #[.string ⟨#[c, 43]⟩, .int .i64 (s : Int)] w fun e w' => e = .returned (.int .i64 ((asgS c 43 s : Nat) : Int)) ∧ Below w.heap.size w w' := by
  obtain ⟨i0, hi, hz0, hz1, hz2⟩ := info_parts Tryd.info3
  have HO := Lib.hid (own_none w)
  have hA : Below w.heap.size w (w.alloc (.cells #[] 3)) := (Below.refl _ _).alloc (Nat.le_refl _) _
  have hsi : (s : Int) < 9 := by omega
  have hs0 : (0 : Int) ≤ (s : Int) := by omega
  obtain ⟨u, v, hu2, hv2, hsu, huv, hasg⟩ := side_plus c hc s hs
  have b0 := byte0 c 43
  have b1 := byte1 c 43
  have hd255 : (c.toNat : Int) ≤ 255 := by have := c.toNat_lt; omega
  have hd0 : (0 : Int) ≤ (c.toNat : Int) := by omega
  go_enter Tryd.func94, Tryd.ntmps94
  go_wp2_with fail
  go_at_call 120
  refine (value58 _ _ hd0 hd255 hs0 (by omega) _).mono ?_
  rintro e W1 ⟨rfl, rfl⟩
  rw [hsu]
  go_wp2_with (at_builtin; refine wpList_append_own _ rfl _ _ 23 rfl w.heap.size 3 i0 (.int .i64 0) 1 8 Tryd.underlying23 hi hz0 hz1 hz2 rfl (by decide) _ 0 [] rfl (HO.out.alloc _) ⟨w.heap.size + 1, 0, none⟩ 1 1 [.int .i64 (v : Int)] rfl (by rfl) (one_at w v) (by simp [Value.oneCell']) (by unfold maxLen; omega) (by omega) (by simp; omega) ?_; intro v' w1 hown' hgrow _; have hE := (hA.alloc (by simp) _).grown hgrow (by simp; omega) (fun i e => by cases e; exact Nat.le_refl _); clear hgrow; obtain ⟨g, cp, rfl, hgl, hcs⟩ := ints_row hown' (by omega); have hc0 := hcs 0 _ rfl; clear hown' hcs)
  have hs3 : s / 3 ≤ 2 := by omega
  rcases hc with rfl | rfl
  · have HB := Lib.hid (show bits .or .i64 0 (wrap64 (2 ^ (3 * v + s % 3))) = ((putS 120 s v : Nat) : Int) from (shl_or 0 (3 * v + s % 3) (by omega) (by omega)).trans (by rw [put_x, Nat.zero_or]))
    go_loopw [8, 43] (fun o i wr => wr = w1 ∧ ((o = .int .i64 0 ∧ i = .int .i64 0) ∨ (o = .int .i64 ((putS 120 s v : Nat) : Int) ∧ i = .int .i64 1))) (fun _ i _ => 1 - (intOf i).toNat)
    case atStart => exact ⟨rfl, .inl ⟨rfl, rfl⟩⟩
    case round =>
      obtain ⟨rfl, ⟨rfl, rfl⟩ | ⟨rfl, rfl⟩⟩ := hrel
      · go_wp2_with fail
        go_roundw
        case rel => exact ⟨trivial, .inr ⟨by rw [HB.out], rfl⟩⟩
        case measure => simp [intOf]
      · go_wp2
        go_ret
        exact ⟨by rw [hasg]; rfl, hE⟩
  · have HB := Lib.hid (show bits .or .i64 0 (wrap64 (2 ^ (3 * (s / 3) + v))) = ((putS 121 s v : Nat) : Int) from (shl_or 0 (3 * (s / 3) + v) (by omega) (by omega)).trans (by rw [put_y, Nat.zero_or]))
    go_loopw [8, 43] (fun o i wr => wr = w1 ∧ ((o = .int .i64 0 ∧ i = .int .i64 0) ∨ (o = .int .i64 ((putS 121 s v : Nat) : Int) ∧ i = .int .i64 1))) (fun _ i _ => 1 - (intOf i).toNat)
    case atStart => exact ⟨rfl, .inl ⟨rfl, rfl⟩⟩
    case round =>
      obtain ⟨rfl, ⟨rfl, rfl⟩ | ⟨rfl, rfl⟩⟩ := hrel
      · go_wp2_with fail
        go_roundw
        case rel => exact ⟨trivial, .inr ⟨by rw [HB.out], rfl⟩⟩
        case measure => simp [intOf]
      · go_wp2
        go_ret
        exact ⟨by rw [hasg]; rfl, hE⟩
theorem three_at (w : World) : ∀ (j : Nat) u, ([.int .i64 0, .int .i64 1, .int .i64 2] : List Value)[j]? = some u → ((w.alloc (.cells #[] 3)).alloc (.cells #[.int .i64 0, .int .i64 1, .int .i64 2] 3)).cell? ((⟨w.heap.size + 1, 0, none⟩ : Addr).add j) = some u := by
  intro j u h
  have hn := heap_alloc_new (w.alloc (.cells #[] 3)) (.cells #[.int .i64 0, .int .i64 1, .int .i64 2] 3)
  rw [World.size_alloc] at hn
  rw [plain_add]
  match j, h with
  | 0, h => cases h; rw [cell_of_row _ (w.heap.size + 1) 0 _ 3 (0, 0) hn]; rfl
  | 1, h => cases h; rw [cell_of_row _ (w.heap.size + 1) 1 _ 3 (0, 0) hn]; rfl
  | 2, h => cases h; rw [cell_of_row _ (w.heap.size + 1) 2 _ 3 (0, 0) hn]; rfl
  | j + 3, h => simp at h
set_option maxHeartbeats 4000000 in
/-- Any value. -/
theorem asg_any (c : UInt8) (hc : c = 120 ∨ c = 121) (s : Nat) (hs : s < 9) (w : World) :
    Calls Tryd.prog 94 #[.string ⟨#[c, 63]⟩, .int .i64 (s : Int)] w fun e w' => e = .returned (.int .i64 ((asgS c 63 s : Nat) : Int)) ∧ Below w.heap.size w w' := by
  obtain ⟨i0, hi, hz0, hz1, hz2⟩ := info_parts Tryd.info3
  have HO := Lib.hid (own_none w)
  have hA : Below w.heap.size w (w.alloc (.cells #[] 3)) := (Below.refl _ _).alloc (Nat.le_refl _) _
  have hsi : (s : Int) < 9 := by omega
  have hs0 : (0 : Int) ≤ (s : Int) := by omega
  have b0 := byte0 c 63
  have b1 := byte1 c 63
  go_enter Tryd.func94, Tryd.ntmps94
  go_wp2_with (at_builtin; refine wpList_append_own _ rfl _ _ 23 rfl w.heap.size 3 i0 (.int .i64 0) 1 8 Tryd.underlying23 hi hz0 hz1 hz2 rfl (by decide) _ 0 [] rfl (HO.out.alloc _) ⟨w.heap.size + 1, 0, none⟩ 3 3 [.int .i64 0, .int .i64 1, .int .i64 2] rfl (by rfl) (three_at w) (by simp [Value.oneCell']) (by unfold maxLen; omega) (by omega) (by simp; omega) ?_; intro v' w1 hown' hgrow _; have hE := (hA.alloc (by simp) _).grown hgrow (by simp; omega) (fun i e => by cases e; exact Nat.le_refl _); clear hgrow; obtain ⟨g, cp, rfl, hgl, hcs⟩ := ints_row hown' (by omega); have hc0 := hcs 0 _ rfl; have hc1 := hcs 1 _ rfl; have hc2 := hcs 2 _ rfl; clear hown' hcs)
  have hs3 : s / 3 ≤ 2 := by omega
  rcases hc with rfl | rfl
  · have HB0 := Lib.hid (show bits .or .i64 0 (wrap64 (2 ^ (s % 3))) = ((putS 120 s 0 : Nat) : Int) from (shl_or 0 (s % 3) (by omega) (by omega)).trans (by rw [put_x, Nat.zero_or, Nat.mul_zero, Nat.zero_add]))
    have h0 : putS 120 s 0 < 512 := pow_lt _ (by omega)
    have h1 : putS 120 s 1 < 512 := pow_lt _ (by omega)
    have h01 : putS 120 s 0 ||| putS 120 s 1 < 512 := Nat.or_lt_two_pow (n := 9) h0 h1
    have HB1 := Lib.hid (show bits .or .i64 ((putS 120 s 0 : Nat) : Int) (wrap64 (2 ^ (3 * 1 + s % 3))) = ((putS 120 s 0 ||| putS 120 s 1 : Nat) : Int) from (shl_or _ (3 * 1 + s % 3) h0 (by omega)).trans (by rw [put_x s 1]))
    have HB2 := Lib.hid (show bits .or .i64 ((putS 120 s 0 ||| putS 120 s 1 : Nat) : Int) (wrap64 (2 ^ (3 * 2 + s % 3))) = ((putS 120 s 0 ||| putS 120 s 1 ||| putS 120 s 2 : Nat) : Int) from (shl_or _ (3 * 2 + s % 3) h01 (by omega)).trans (by rw [put_x s 2]))
    go_loopw [8, 43] (fun o i wr => wr = w1 ∧ ((o = .int .i64 0 ∧ i = .int .i64 0) ∨ (o = .int .i64 ((putS 120 s 0 : Nat) : Int) ∧ i = .int .i64 1) ∨ (o = .int .i64 ((putS 120 s 0 ||| putS 120 s 1 : Nat) : Int) ∧ i = .int .i64 2) ∨ (o = .int .i64 ((putS 120 s 0 ||| putS 120 s 1 ||| putS 120 s 2 : Nat) : Int) ∧ i = .int .i64 3))) (fun _ i _ => 3 - (intOf i).toNat)
    case atStart => exact ⟨rfl, .inl ⟨rfl, rfl⟩⟩
    case round =>
      obtain ⟨rfl, ⟨rfl, rfl⟩ | ⟨rfl, rfl⟩ | ⟨rfl, rfl⟩ | ⟨rfl, rfl⟩⟩ := hrel
      · go_wp2_with fail
        go_roundw
        case rel => exact ⟨trivial, .inr (.inl ⟨by rw [HB0.out], rfl⟩)⟩
        case measure => simp [intOf]
      · go_wp2_with fail
        go_roundw
        case rel => exact ⟨trivial, .inr (.inr (.inl ⟨by rw [HB1.out], rfl⟩))⟩
        case measure => simp [intOf]
      · go_wp2_with fail
        go_roundw
        case rel => exact ⟨trivial, .inr (.inr (.inr ⟨by rw [HB2.out], rfl⟩))⟩
        case measure => simp [intOf]
      · go_wp2
        go_ret
        exact ⟨rfl, hE⟩
  · have HB0 := Lib.hid (show bits .or .i64 0 (wrap64 (2 ^ (3 * (s / 3)))) = ((putS 121 s 0 : Nat) : Int) from (shl_or 0 (3 * (s / 3)) (by omega) (by omega)).trans (by rw [put_y, Nat.zero_or, Nat.add_zero]))
    have h0 : putS 121 s 0 < 512 := pow_lt _ (by omega)
    have h1 : putS 121 s 1 < 512 := pow_lt _ (by omega)
    have h01 : putS 121 s 0 ||| putS 121 s 1 < 512 := Nat.or_lt_two_pow (n := 9) h0 h1
    have HB1 := Lib.hid (show bits .or .i64 ((putS 121 s 0 : Nat) : Int) (wrap64 (2 ^ (3 * (s / 3) + 1))) = ((putS 121 s 0 ||| putS 121 s 1 : Nat) : Int) from (shl_or _ (3 * (s / 3) + 1) h0 (by omega)).trans (by rw [put_y s 1]))
    have HB2 := Lib.hid (show bits .or .i64 ((putS 121 s 0 ||| putS 121 s 1 : Nat) : Int) (wrap64 (2 ^ (3 * (s / 3) + 2))) = ((putS 121 s 0 ||| putS 121 s 1 ||| putS 121 s 2 : Nat) : Int) from (shl_or _ (3 * (s / 3) + 2) h01 (by omega)).trans (by rw [put_y s 2]))
    go_loopw [8, 43] (fun o i wr => wr = w1 ∧ ((o = .int .i64 0 ∧ i = .int .i64 0) ∨ (o = .int .i64 ((putS 121 s 0 : Nat) : Int) ∧ i = .int .i64 1) ∨ (o = .int .i64 ((putS 121 s 0 ||| putS 121 s 1 : Nat) : Int) ∧ i = .int .i64 2) ∨ (o = .int .i64 ((putS 121 s 0 ||| putS 121 s 1 ||| putS 121 s 2 : Nat) : Int) ∧ i = .int .i64 3))) (fun _ i _ => 3 - (intOf i).toNat)
    case atStart => exact ⟨rfl, .inl ⟨rfl, rfl⟩⟩
    case round =>
      obtain ⟨rfl, ⟨rfl, rfl⟩ | ⟨rfl, rfl⟩ | ⟨rfl, rfl⟩ | ⟨rfl, rfl⟩⟩ := hrel
      · go_wp2_with fail
        go_roundw
        case rel => exact ⟨trivial, .inr (.inl ⟨by rw [HB0.out], rfl⟩)⟩
        case measure => simp [intOf]
      · go_wp2_with fail
        go_roundw
        case rel => exact ⟨trivial, .inr (.inr (.inl ⟨by rw [HB1.out], rfl⟩))⟩
        case measure => simp [intOf]
      · go_wp2_with fail
        go_roundw
        case rel => exact ⟨trivial, .inr (.inr (.inr ⟨by rw [HB2.out], rfl⟩))⟩
        case measure => simp [intOf]
      · go_wp2
        go_ret
        exact ⟨rfl, hE⟩
end Go.Proofs.YtgkgkaapjljpcaaDoor

