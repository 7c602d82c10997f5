/- Chapter 12, the model: numbers in decimal, and lists of them. -/
import Derived.Test.YtgkgkaapjljpcaaDoorFI
import Derived.Laws.BytesArg
import Derived.Lib.Join
import Derived.Lib.ItoaNum
import Derived.Lib.Hide
namespace Go.Proofs.YtgkgkaapjljpcaaDoor
open Go.ChangeShapes Go.WideShapes Go.ChangeAt Go.RowKit Go.Shelf
attribute [local go_sem] Oper.semAt_some
set_option maxRecDepth 100000

/-- A text of numbers that are bytes. -/
theorem conv_digit (X : World) (p : Int) (g : Nat) (hg : g = X.heap.size) :
    (convert 22 9 (.slice (some ⟨g, 0, none⟩) 1 1)).run Tryd.prog (X.alloc (.cells #[.int .u8 p] 5)) = .ok (.string (strOfNums [p])) (X.alloc (.cells #[.int .u8 p] 5)) := by
  subst hg
  refine run_convert_bytes_arg _ 22 5 Tryd.underlying22 Tryd.underlying5 X.heap.size 0 1 1 [p] rfl (fun i hi => ?_) 9 Tryd.underlying9
  match i, hi with
  | 0, _ => simp
theorem digit_str (k : Nat) : strOfNums [48 + (k : Int)] = ⟨[UInt8.ofNat (48 + k)].toArray⟩ := by
  have : ((48 : Int) + (k : Int)).toNat = 48 + k := by omega
  simp [strOfNums, this]
theorem dd_small {u : Nat} (h : u < 10) : Lib.decDigits u = [UInt8.ofNat (48 + u)] := by rw [Lib.decDigits, dif_pos h]
theorem dd_big {u : Nat} (h : ¬ u < 10) : Lib.decDigits u = Lib.decDigits (u / 10) ++ [UInt8.ofNat (48 + u % 10)] := by rw [Lib.decDigits, dif_neg h]
theorem dd_len : ∀ (k u : Nat), u < 10 ^ (k + 1) → (Lib.decDigits u).length ≤ k + 1
  | 0, u, h => by rw [dd_small (by simpa using h)]; simp
  | k + 1, u, h => by
    by_cases h10 : u < 10
    · rw [dd_small h10]; simp
    · rw [dd_big h10, List.length_append]
      have := dd_len k (u / 10) (by rw [Nat.pow_succ] at h; omega)
      simp; omega
theorem dd_pos (u : Nat) : 1 ≤ (Lib.decDigits u).length := by
  by_cases h10 : u < 10
  · rw [dd_small h10]; simp
  · rw [dd_big h10]; simp
theorem str_app (a b : List UInt8) : (⟨a.toArray⟩ : ByteArray) ++ ⟨b.toArray⟩ = ⟨(a ++ b).toArray⟩ := by
  apply ByteArray.ext
  simp
set_option maxHeartbeats 2000000 in
theorem mdecN (u : Nat) (hu : u ≤ 9223372036854775807) (w : World) :
    Calls Tryd.prog 41 #[.int .i64 (u : Int)] w fun e w' => e = .returned (.string ⟨(Lib.decDigits u).toArray⟩) ∧ Below w.heap.size w w' := by
  have hlen := dd_len 18 u (by omega)
  have hui : (u : Int) ≤ 9223372036854775807 := by omega
  have hu0 : (0 : Int) ≤ (u : Int) := by omega
  go_enter Tryd.func41, Tryd.ntmps41
  go_wp2
  go_loopw [0, 3] (fun n s wr => ∃ (v : Nat) (t : List UInt8), n = .int .i64 (v : Int) ∧ s = .string ⟨t.toArray⟩ ∧ v ≤ u ∧ Lib.decDigits v ++ t = Lib.decDigits u ∧ Below w.heap.size w wr) (fun n _ _ => (intOf n).toNat)
  case atStart => exact ⟨u, [], rfl, rfl, Nat.le_refl _, by simp, Below.refl _ _⟩
  case round =>
    obtain ⟨v, t, rfl, rfl, hv, hd, hB⟩ := hrel
    have hvi : (v : Int) ≤ 9223372036854775807 := by omega
    have hv0 : (0 : Int) ≤ (v : Int) := by omega
    have htl : t.length ≤ 19 := by have := congrArg List.length hd; rw [List.length_append] at this; omega
    have HD := Lib.hid hd
    clear hd
    have hl1 : 1 + t.length ≤ 9223372036854775807 := by omega
    by_cases hlt : v < 10
    · have hk := conv_digit wr (48 + (v : Int)) wr.heap.size rfl
      rw [digit_str] at hk
      have h9 : (v : Int) ≤ 9 := by omega
      have hds := Lib.hid (dd_small hlt)
      generalize UInt8.ofNat (48 + v) = d at hk hds
      go_wp2
      go_ret
      refine ⟨?_, hB.alloc hB.size _⟩
      rw [← HD.out, hds.out]; rfl
    · have hm : ((v % 10 : Nat) : Int) = (v : Int) % 10 := by omega
      have hk := conv_digit wr (48 + (v : Int) % 10) wr.heap.size rfl
      rw [← hm, digit_str, hm] at hk
      have h9 : (9 : Int) < (v : Int) := by omega
      clear hm
      have hds := Lib.hid (dd_big hlt)
      generalize UInt8.ofNat (48 + v % 10) = d at hk hds
      go_wp2
      go_roundw
      case rel =>
        refine ⟨v / 10, d :: t, by go_num, rfl, by omega, ?_, hB.alloc hB.size _⟩
        rw [← HD.out, hds.out, List.append_assoc]; rfl
      case measure => simp [intOf]; omega
set_option maxHeartbeats 2000000 in
theorem mdec (n : Int) (h0 : -9223372036854775808 ≤ n) (h1 : n ≤ 9223372036854775807) (w : World) :
    Calls Tryd.prog 41 #[.int .i64 n] w fun e w' => e = .returned (.string ⟨(Lib.itoa n).toArray⟩) ∧ Below w.heap.size w w' := by
  by_cases hn : 0 ≤ n
  · obtain ⟨u, rfl⟩ : ∃ u : Nat, n = (u : Int) := ⟨n.toNat, by omega⟩
    have : Lib.itoa (u : Int) = Lib.decDigits u := by unfold Lib.itoa; rw [if_neg (by omega)]; rfl
    rw [this]
    exact mdecN u (by omega) w
  · by_cases hm : n < -9223372036854775807
    · obtain rfl : n = -9223372036854775808 := by omega
      have : Lib.itoa (-9223372036854775808) = [45, 57, 50, 50, 51, 51, 55, 50, 48, 51, 54, 56, 53, 52, 55, 55, 53, 56, 48, 56] := by decide +kernel
      rw [this]
      go_enter Tryd.func41, Tryd.ntmps41
      go_wp2
      go_ret
      exact ⟨rfl, Below.refl _ _⟩
    · obtain ⟨u, rfl⟩ : ∃ u : Nat, n = -(u : Int) := ⟨n.natAbs, by omega⟩
      have e : Lib.itoa (-(u : Int)) = 45 :: Lib.decDigits u := by unfold Lib.itoa; rw [if_pos (by omega)]; simp
      have hl := dd_len 18 u (by omega)
      have hd := fun W => mdecN u (by omega) W
      rw [e]
      generalize Lib.decDigits u = ds at hd hl ⊢
      have hl1 : 1 + ds.length ≤ 9223372036854775807 := by omega
      have g1 : ¬ (-(u : Int) < -9223372036854775807) := hm
      have g2 : -(u : Int) < 0 := by omega
      have g3 : (u : Int) ≤ 9223372036854775807 := by omega
      clear h0 h1 hn hm e
      go_enter Tryd.func41, Tryd.ntmps41
      go_wp2_with (go_at_call 41; refine (hd _).mono ?_; rintro e W1 ⟨rfl, hb1⟩)
      go_ret
      exact ⟨rfl, hb1⟩

/-- What a list of numbers is written as, if there are any. -/
def numsT (xs : List Int) : List UInt8 := Lib.join (xs.map Lib.itoa) [32]
/-- What a list of numbers is written as. -/
def numsL (xs : List Int) : List UInt8 := if xs = [] then [45] else numsT xs
theorem itoa_len (n : Int) (h0 : -9223372036854775808 ≤ n) (h1 : n ≤ 9223372036854775807) : (Lib.itoa n).length ≤ 20 ∧ 1 ≤ (Lib.itoa n).length := by
  unfold Lib.itoa
  split
  · have := dd_len 18 n.natAbs (by omega)
    simp; omega
  · have := dd_len 18 n.toNat (by omega)
    have := dd_pos n.toNat
    omega
theorem itoa_cons (n : Int) : ∃ c r, Lib.itoa n = c :: r := by
  unfold Lib.itoa
  split
  · exact ⟨_, _, rfl⟩
  · cases h : Lib.decDigits n.toNat with
    | nil => have := dd_pos n.toNat; rw [h] at this; simp at this
    | cons c r => exact ⟨c, r, rfl⟩
theorem nums_snoc (xs : List Int) (z : Int) (h : xs ≠ []) : numsT (xs ++ [z]) = numsT xs ++ [32] ++ Lib.itoa z := by
  obtain ⟨x, r, rfl⟩ := List.exists_cons_of_ne_nil h
  unfold numsT
  rw [List.cons_append, List.map_cons, List.map_cons, List.map_append, Lib.join_cons, Lib.join_cons]
  unfold Lib.joinTail
  simp
theorem nums_one (z : Int) : numsT [z] = Lib.itoa z := by unfold numsT; exact Lib.join_one _ _
theorem nums_take {zs : List Int} {k : Nat} {z : Int} (h : zs[k]? = some z) : numsT (zs.take (k + 1)) = if k = 0 then Lib.itoa z else numsT (zs.take k) ++ [32] ++ Lib.itoa z := by
  have hk := (List.getElem?_eq_some_iff.1 h).1
  rw [List.take_add_one, h]
  by_cases h0 : k = 0
  · subst h0; simp [nums_one]
  · rw [if_neg h0]
    refine nums_snoc _ z (fun e => ?_)
    have := congrArg List.length e
    rw [List.length_take, List.length_nil] at this
    omega
def InI (zs : List Int) : Prop := ∀ (j : Nat) z, zs[j]? = some z → -9223372036854775808 ≤ z ∧ z ≤ 9223372036854775807
theorem nums_len {zs : List Int} (h : InI zs) : ∀ k, k ≤ zs.length → (numsT (zs.take k)).length ≤ 21 * k
  | 0, _ => by simp [numsT, Lib.join]
  | k + 1, hk => by
    have hz : zs[k]? = some zs[k] := List.getElem?_eq_getElem (by omega)
    have ih := nums_len h k (by omega)
    obtain ⟨b0, b1⟩ := h k _ hz
    have hl := (itoa_len _ b0 b1).1
    rw [nums_take hz]
    split
    · omega
    · simp only [List.length_append, List.length_cons, List.length_nil]; omega
theorem nums_cons {zs : List Int} (h : zs ≠ []) : ∃ c r, numsT zs = c :: r := by
  obtain ⟨x, r, rfl⟩ := List.exists_cons_of_ne_nil h
  obtain ⟨c, l, e⟩ := itoa_cons x
  exact ⟨c, l ++ Lib.joinTail [32] (r.map Lib.itoa), by unfold numsT; rw [List.map_cons, Lib.join_cons, e]; rfl⟩
set_option maxHeartbeats 2000000 in
theorem mnums {W : World} {v : Value} {zs : List Int} (h : IntsAt W v zs) (hn : zs.length ≤ 1048576) (hz : InI zs) :
    Calls Tryd.prog 17 #[v] W fun e w' => e = .returned (.string ⟨(numsL zs).toArray⟩) ∧ Below W.heap.size W w' := by
  obtain ⟨a, cap, rfl, h1, h2, h3⟩ := h
  have hni : (zs.length : Int) ≤ 1048576 := by omega
  obtain ⟨R, hR⟩ : ∃ R, R = numsL zs := ⟨_, rfl⟩
  rw [← hR]
  have HR := Lib.hid hR
  clear hR
  go_enter Tryd.func17, Tryd.ntmps17
  go_wp2
  go_loopw [3, 8] (fun o i wr => ∃ k : Nat, k ≤ zs.length ∧ i = .int .i64 (k : Int) ∧ o = .string ⟨(numsT (zs.take k)).toArray⟩ ∧ Below W.heap.size W wr) (fun _ i _ => zs.length - (intOf i).toNat)
  case atStart => exact ⟨0, by omega, rfl, rfl, Below.refl _ _⟩
  case round =>
    obtain ⟨k, hk, rfl, rfl, hB⟩ := hrel
    have hlen := nums_len hz k hk
    by_cases hlt : k < zs.length
    · have hz0 : zs[k]? = some zs[k] := List.getElem?_eq_getElem hlt
      rcases h3 with h3 | ⟨b, off, rfl, h3⟩
      · rw [h3] at hlt; simp at hlt
      have hc0 := h3 k _ hz0
      have hbl : b < W.heap.size := by
        unfold World.cell? at hc0
        cases hh : W.heap[b]? with
        | none => rw [hh] at hc0; simp at hc0
        | some o => exact (Array.getElem?_eq_some_iff.1 hh).1
      have hc := (hB.cell (p := ⟨b, off + k, none⟩) hbl).trans hc0
      obtain ⟨b0, b1⟩ := hz k _ hz0
      have hd := fun W => mdec zs[k] b0 b1 W
      have hl := (itoa_len zs[k] b0 b1).1
      have hT := Lib.hid (nums_take hz0)
      have hL0 := Lib.hid (show k = 0 → numsT (zs.take k) = [] from fun h => by subst h; rfl)
      clear hz0 hc0 h3
      generalize zs[k] = z at hc hd hl hT b0 b1
      generalize Lib.itoa z = ds at hd hl hT
      generalize numsT (zs.take k) = l at hlen hT hL0 ⊢
      have m1 : l.length + 1 ≤ 9223372036854775807 := by omega
      have m2 : l.length + ds.length ≤ 9223372036854775807 := by omega
      have m3 : l.length + 1 + ds.length ≤ 9223372036854775807 := by omega
      have ka : (k : Int) < (zs.length : Int) := by omega
      by_cases h0 : k = 0
      · have kpi : ¬ ((0 : Int) < (k : Int)) := by omega
        obtain rfl := hL0.out h0
        have H0 := Lib.hid h0
        clear h0
        go_wp2_with (go_at_call 41; refine (hd _).mono ?_; rintro e W1 ⟨rfl, hb1⟩)
        go_roundw
        case rel => exact ⟨k + 1, by omega, by go_num, by rw [hT.out, if_pos H0.out]; rfl, hB.trans (hb1.mono hB.size)⟩
        case measure => simp [intOf]; omega
      · have kp : 0 < k := by omega
        have kpi : (0 : Int) < (k : Int) := by omega
        go_wp2_with (go_at_call 41; refine (hd _).mono ?_; rintro e W1 ⟨rfl, hb1⟩)
        go_roundw
        case rel => exact ⟨k + 1, by omega, by go_num, by rw [hT.out, if_neg h0, ← str_app, ← str_app], hB.trans (hb1.mono hB.size)⟩
        case measure => simp [intOf]; omega
    · obtain rfl : k = zs.length := by omega
      have ka : ¬ ((zs.length : Int) < (zs.length : Int)) := by omega
      rw [List.take_length]
      by_cases h0 : zs = []
      · subst h0
        go_wp2
        go_ret
        exact ⟨by rw [HR.out]; rfl, hB⟩
      · obtain ⟨c, r, e⟩ := nums_cons h0
        have hL := Lib.hid (show R = c :: r by rw [HR.out]; unfold numsL; rw [if_neg h0, e])
        rw [e]
        clear e
        go_wp2
        go_ret
        exact ⟨by rw [hL.out]; rfl, hB⟩
end Go.Proofs.YtgkgkaapjljpcaaDoor

