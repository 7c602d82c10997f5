/- The model's cutting of a text at every space: the pieces, in a slice of its own. -/
import Derived.Test.YtgkgkaapjljpcaaDoorBase1
import Derived.Lib.Strings
namespace Go.Proofs.YtgkgkaapjljpcaaDoor
open Go.ChangeShapes Go.WideShapes Go.ChangeAt Go.RowKit Go.Shelf

set_option maxRecDepth 100000
theorem Tryd.info9 : (Tryd.prog.info? 9).map (fun i => (i.zero, i.size, i.bytes)) = some (some (.string ⟨#[]⟩), 1, 16) := by kernel_rfl

/-- A text cut at every space. -/
def cutL : List UInt8 → List (List UInt8)
  | [] => [[]]
  | c :: r => if c = 32 then [] :: cutL r else match cutL r with
    | [] => [[c]]
    | w :: ws => (c :: w) :: ws
theorem cutL_ne : ∀ l, cutL l ≠ []
  | [] => by simp [cutL]
  | c :: r => by
    unfold cutL
    split
    · simp
    · split <;> simp
theorem cutL_at : ∀ (a b : List UInt8), (32 : UInt8) ∉ a → cutL (a ++ 32 :: b) = a :: cutL b
  | [], b, _ => by simp [cutL]
  | c :: a, b, h => by
    have h1 : ¬ c = 32 := fun e => h (by simp [e])
    have h2 : (32 : UInt8) ∉ a := fun e => h (by simp [e])
    have e : cutL (c :: (a ++ 32 :: b)) = if c = 32 then [] :: cutL (a ++ 32 :: b) else match cutL (a ++ 32 :: b) with
        | [] => [[c]]
        | w :: ws => (c :: w) :: ws := rfl
    rw [List.cons_append, e, if_neg h1, cutL_at a b h2]
theorem cutL_none : ∀ (a : List UInt8), (32 : UInt8) ∉ a → cutL a = [a]
  | [], _ => rfl
  | c :: a, h => by
    have h1 : ¬ c = 32 := fun e => h (by simp [e])
    have h2 : (32 : UInt8) ∉ a := fun e => h (by simp [e])
    unfold cutL
    rw [if_neg h1, cutL_none a h2]
theorem cutL_len : ∀ l, (cutL l).length ≤ l.length + 1
  | [] => by simp [cutL]
  | c :: r => by
    have ih := cutL_len r
    unfold cutL
    split
    · simp; omega
    · split
      · simp
      · rename_i w ws h
        rw [h] at ih
        simp at ih ⊢
        omega

/-- The cells of a list of texts. -/
def texts (ws : List (List UInt8)) : List Value := ws.map fun p => .string ⟨p.toArray⟩
theorem texts_snoc (ws : List (List UInt8)) (p : List UInt8) : texts (ws ++ [p]) = texts ws ++ [.string ⟨p.toArray⟩] := by simp [texts]

/-- Where the cutting stands: i bytes have been looked at, the piece under way begins at from. -/
def At (l : List UInt8) (i from_ : Nat) (ws : List (List UInt8)) : Prop :=
  (i ≤ l.length ∧ from_ ≤ i ∧ (32 : UInt8) ∉ (l.drop from_).take (i - from_) ∧ ws ++ cutL (l.drop from_) = cutL l) ∨ (i = l.length + 1 ∧ ws = cutL l)

theorem at_start (l : List UInt8) : At l 0 0 [] := .inl ⟨by omega, by omega, by simp, by simp⟩
theorem at_len {l : List UInt8} {i f : Nat} {ws : List (List UInt8)} (h : At l i f ws) (hi : i ≤ l.length) : f ≤ i ∧ ws.length + 1 ≤ l.length + 1 := by
  rcases h with ⟨_, h2, _, h4⟩ | ⟨h1, _⟩
  · have e := congrArg List.length h4
    rw [List.length_append] at e
    have h5 := cutL_len l
    have h6 : 0 < (cutL (l.drop f)).length := List.length_pos_iff.2 (cutL_ne _)
    exact ⟨h2, by omega⟩
  · omega
theorem at_end {l : List UInt8} {f : Nat} {ws : List (List UInt8)} (h : At l l.length f ws) : At l (l.length + 1) (l.length + 1) (ws ++ [(l.drop f).take (l.length - f)]) := by
  rcases h with ⟨_, h2, h3, h4⟩ | ⟨h1, _⟩
  · refine .inr ⟨rfl, ?_⟩
    have e : (l.drop f).take (l.length - f) = l.drop f := List.take_of_length_le (by simp)
    rw [e] at h3 ⊢
    rw [← h4, cutL_none _ h3]
  · omega
theorem drop_take {l : List UInt8} {i f : Nat} (hi : i < l.length) (hf : f ≤ i) : l.drop f = (l.drop f).take (i - f) ++ l[i] :: l.drop (i + 1) := by
  have h1 : (l.drop f).drop (i - f) = l.drop i := by rw [List.drop_drop]; congr 1; omega
  have h2 := List.take_append_drop (i - f) (l.drop f)
  rw [h1, List.drop_eq_getElem_cons hi] at h2
  exact h2.symm
theorem at_space {l : List UInt8} {i f : Nat} {ws : List (List UInt8)} (h : At l i f ws) (hi : i < l.length) (hc : l[i] = 32) : At l (i + 1) (i + 1) (ws ++ [(l.drop f).take (i - f)]) := by
  rcases h with ⟨_, h2, h3, h4⟩ | ⟨h1, _⟩
  · refine .inl ⟨by omega, by omega, by simp, ?_⟩
    rw [drop_take hi h2, hc, cutL_at _ _ h3] at h4
    rw [List.append_assoc]
    exact h4
  · omega
theorem at_other {l : List UInt8} {i f : Nat} {ws : List (List UInt8)} (h : At l i f ws) (hi : i < l.length) (hc : l[i] ≠ 32) : At l (i + 1) f ws := by
  rcases h with ⟨_, h2, h3, h4⟩ | ⟨h1, _⟩
  · refine .inl ⟨by omega, by omega, ?_, h4⟩
    have e : (l.drop f).take (i + 1 - f) = (l.drop f).take (i - f) ++ [l[i]] := by
      have h5 : i + 1 - f = (i - f) + 1 := by omega
      rw [h5, List.take_add_one]
      have h6 : (l.drop f)[i - f]? = some l[i] := by
        rw [List.getElem?_drop, show f + (i - f) = i by omega, List.getElem?_eq_getElem hi]
      rw [h6]
      rfl
    rw [e]
    intro hm
    rcases List.mem_append.1 hm with hm | hm
    · exact h3 hm
    · simp at hm; exact hc hm.symm
  · omega

theorem cut_step {w wr w1 : World} {ws : List (List UInt8)} {v v' : Value} {p : ByteArray} (hB : Below w.heap.size w wr) (ho : wr.ownsRow w.heap.size 9 1 v ws.length (texts ws))
    (hown : w1.ownsRow w.heap.size 9 1 v' (ws.length + 1) (texts ws ++ [.string p])) (hg : (wr.alloc (.cells #[.string p] 9)).grownBy w1 v.ownBlock) :
    w1.ownsRow w.heap.size 9 1 v' (ws ++ [p.data.toList]).length (texts (ws ++ [p.data.toList])) ∧ Below w.heap.size w w1 := by
  refine ⟨?_, (hB.alloc hB.size _).grown hg (by have := hB.size; simp; omega) (fun i e => (ho.lt i e).1)⟩
  rw [texts_snoc, List.length_append]
  exact hown

set_option maxRecDepth 100000 in
set_option maxHeartbeats 2000000 in
theorem cut23 (t : ByteArray) (ht : t.size ≤ 1048576) (w : World) :
    Calls Tryd.prog 81 #[.string t, .int .u8 32] w fun e W' => ∃ v, e = .returned v ∧ W'.ownsRow w.heap.size 9 1 v (cutL t.data.toList).length (texts (cutL t.data.toList)) ∧ Below w.heap.size w W' := by
  obtain ⟨i0, hi, hz0, hz1, hz2⟩ := info_parts Tryd.info9
  have hlen : t.data.toList.length = t.size := by rw [Array.length_toList]; rfl
  have HLn := Lib.hid hlen
  have ht1 : (t.size : Int) ≤ 1048576 := by omega
  clear hlen
  go_enter Tryd.func81, Tryd.ntmps81
  go_wp2
  go_loopw [5, 6, 7] (fun o f i wr => ∃ (k f' : Nat) (ws : List (List UInt8)), k ≤ t.size + 1 ∧ f' ≤ t.size + 1 ∧ i = .int .i64 k ∧ f = .int .i64 f' ∧ At t.data.toList k f' ws ∧ wr.ownsRow w.heap.size 9 1 o ws.length (texts ws) ∧ Below w.heap.size w wr) (fun _ _ i _ => t.size + 1 - (intOf i).toNat)
  case atStart => exact ⟨0, 0, [], by omega, by omega, rfl, rfl, at_start _, World.ownsRow_made w #[] 0 (Nat.le_refl _) (by unfold maxLen; omega) rfl, (Below.refl _ _).alloc (Nat.le_refl _) _⟩
  case round =>
    obtain ⟨k, f, ws, hk, hf, rfl, rfl, hAt, hown, hB⟩ := hrel
    have HA := Lib.hid hAt
    clear hAt
    by_cases hle : k ≤ t.size
    · have hwl := at_len HA.out (by rw [HLn.out]; exact hle)
      have hfk : f ≤ k := hwl.1
      have hws : ws.length ≤ 1048576 := by have := hwl.2; have := HLn.out; omega
      have fk1 : (f : Int) ≤ (k : Int) := by omega
      have kt1 : (k : Int) ≤ (t.size : Int) := by omega
      clear hwl
      by_cases hend : k = t.size
      · subst hend
        have hx : (t.extract f t.size).data.toList = (t.data.toList.drop f).take (t.data.toList.length - f) := by rw [Lib.extract_data, HLn.out]
        have HX := Lib.hid hx
        clear hx
        go_wp2_with (at_builtin; refine wpList_append_own _ rfl _ _ 44 rfl w.heap.size 9 i0 (.string ⟨#[]⟩) 1 16 Tryd.underlying44 hi hz0 hz1 hz2 rfl (by decide) _ _ _ rfl (hown.alloc _) ⟨wr.heap.size, 0, none⟩ 1 1 [.string (t.extract f t.size)] rfl rfl (cell_one_new _ _ _) (by simp [Value.oneCell']) (by unfold maxLen; omega) (by omega) (by have := hB.size; simp; omega) ?_; intro v' w1 hown' hgrow _; have R := cut_step hB hown hown' hgrow; clear hown' hgrow)
        go_roundw
        case rel => exact ⟨t.size + 1, t.size + 1, _, by omega, by omega, by go_num, by go_num, by have := at_end (by have h := HA.out; rw [← HLn.out] at h; exact h); rw [← HX.out, HLn.out] at this; exact this, R.1, R.2⟩
        case measure => simp [intOf]
      · have hlt : k < t.size := by omega
        have hlt2 : k < t.data.toList.length := by rw [HLn.out]; exact hlt
        have kt2 : (k : Int) < (t.size : Int) := by omega
        by_cases hc : t.data.toList[k] = 32
        · have hx : (t.extract f k).data.toList = (t.data.toList.drop f).take (k - f) := Lib.extract_data t f k
          have HX := Lib.hid hx
          have HC := Lib.hid hc
          have hv : ∀ h : k < t.size, t[k]'h = 32 := fun _ => HC.out
          clear hx hc
          go_wp2_with (at_builtin; refine wpList_append_own _ rfl _ _ 44 rfl w.heap.size 9 i0 (.string ⟨#[]⟩) 1 16 Tryd.underlying44 hi hz0 hz1 hz2 rfl (by decide) _ _ _ rfl (hown.alloc _) ⟨wr.heap.size, 0, none⟩ 1 1 [.string (t.extract f k)] rfl rfl (cell_one_new _ _ _) (by simp [Value.oneCell']) (by unfold maxLen; omega) (by omega) (by have := hB.size; simp; omega) ?_; intro v' w1 hown' hgrow _; have R := cut_step hB hown hown' hgrow; clear hown' hgrow)
          go_roundw
          case rel => exact ⟨k + 1, k + 1, _, by omega, by omega, by go_num, by go_num, by rw [HX.out]; exact at_space HA.out hlt2 HC.out, R.1, R.2⟩
          case measure => simp [intOf]; omega
        · have HC := Lib.hid hc
          have hv : ∀ h : k < t.size, (((t[k]'h).toNat : Int) == 32) = false := fun h => by
            have h1 : t[k]'h ≠ 32 := HC.out
            have h2 : (t[k]'h).toNat ≠ 32 := fun e => h1 (UInt8.toNat_inj.1 (by rw [e]; rfl))
            simp; omega
          have hv2 := hv hlt
          clear hc hv
          go_wp2
          go_roundw
          case rel => exact ⟨k + 1, f, ws, by omega, by omega, by go_num, by go_num, at_other HA.out hlt2 HC.out, hown, hB⟩
          case measure => simp [intOf]; omega
    · have hk2 : k = t.size + 1 := by omega
      subst hk2
      go_wp2
      go_ret
      rcases HA.out with ⟨h1, _⟩ | ⟨_, rfl⟩
      · have := HLn.out; omega
      · exact ⟨_, rfl, hown, hB⟩

theorem texts_at {W : World} {B : Nat} {v : Value} {ws : List (List UInt8)} (h : W.ownsRow B 9 1 v ws.length (texts ws)) (hne : ws ≠ []) :
    ∃ g cap, v = .slice (some ⟨g, 0, none⟩) ws.length cap ∧ g < W.heap.size ∧ (∀ (j : Nat) p, ws[j]? = some p → W.cell? ⟨g, j, none⟩ = some (.string ⟨p.toArray⟩)) := by
  have h' := h
  rcases h.2 with ⟨_, h0⟩ | ⟨g, cap, cur, rfl, hb, hg, hn, hm, _⟩
  · exact absurd (List.length_eq_zero_iff.1 h0) hne
  · refine ⟨g, cap, rfl, (Array.getElem?_eq_some_iff.1 hg).1, fun j p hp => ?_⟩
    have hj := (List.getElem?_eq_some_iff.1 hp).1
    rw [World.ownsRow.cellAt h' j (by omega)]
    simp [texts, hp]

/-- The tests' texts, in order. -/
def tests : List (List UInt8) := [[120, 61, 48], [120, 61, 49], [120, 61, 50], [120, 35, 48], [120, 35, 49], [120, 35, 50], [120, 60, 49], [120, 60, 50],
  [121, 61, 48], [121, 61, 49], [121, 61, 50], [121, 35, 48], [121, 35, 49], [121, 35, 50], [121, 60, 49], [121, 60, 50], [120, 61, 121], [120, 35, 121], [120, 60, 121], [121, 60, 120]]
def testsText : ByteArray := ⟨([120, 61, 48, 32, 120, 61, 49, 32, 120, 61, 50, 32, 120, 35, 48, 32, 120, 35, 49, 32, 120, 35, 50, 32, 120, 60, 49, 32, 120, 60, 50, 32,
  121, 61, 48, 32, 121, 61, 49, 32, 121, 61, 50, 32, 121, 35, 48, 32, 121, 35, 49, 32, 121, 35, 50, 32, 121, 60, 49, 32, 121, 60, 50, 32, 120, 61, 121, 32, 120, 35, 121, 32, 120, 60, 121, 32, 121, 60, 120] : List UInt8).toArray⟩
theorem cut_tests : cutL testsText.data.toList = tests := by decide +kernel

theorem all39 (w : World) :
    Calls Tryd.prog 82 #[] w fun e W' => ∃ v, e = .returned v ∧ W'.ownsRow w.heap.size 9 1 v 20 (texts tests) ∧ Below w.heap.size w W' := by
  go_enter Tryd.func82, Tryd.ntmps82
  go_wp2_with (go_at_call 81; refine (cut23 testsText (by decide) _).mono ?_; rintro e W1 ⟨v, rfl, hown, hb⟩; rw [cut_tests] at hown)
  go_ret
  exact ⟨_, rfl, hown, hb⟩
end Go.Proofs.YtgkgkaapjljpcaaDoor

