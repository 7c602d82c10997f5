/- The model's cutting of a text at every comma, and its ParseSet. -/
import Derived.Test.YtgdgbjnmibkmhaaGreatDoorTB
namespace Go.Proofs.YtgdgbjnmibkmhaaGreatDoor
open Go.ChangeShapes Go.WideShapes Go.ChangeAt Go.RowKit Go.Shelf

set_option maxRecDepth 100000
theorem cutC_len : ∀ l, (cutC l).length ≤ l.length + 1
  | [] => by simp [cutC]
  | c :: r => by
    have ih := cutC_len r
    unfold cutC
    split
    · simp; omega
    · split
      · simp
      · rename_i w ws h
        rw [h] at ih
        simp at ih ⊢
        omega

/-- Where the cutting stands: i bytes have been looked at, the piece under way begins at from. -/
def AtC (l : List UInt8) (i from_ : Nat) (ws : List (List UInt8)) : Prop :=
  (i ≤ l.length ∧ from_ ≤ i ∧ (44 : UInt8) ∉ (l.drop from_).take (i - from_) ∧ ws ++ cutC (l.drop from_) = cutC l) ∨ (i = l.length + 1 ∧ ws = cutC l)

theorem ac_start (l : List UInt8) : AtC l 0 0 [] := .inl ⟨by omega, by omega, by simp, by simp⟩
theorem ac_len {l : List UInt8} {i f : Nat} {ws : List (List UInt8)} (h : AtC l i f ws) (hi : i ≤ l.length) : f ≤ i ∧ ws.length + 1 ≤ l.length + 1 := by
  rcases h with ⟨_, h2, _, h4⟩ | ⟨h1, _⟩
  · have e := congrArg List.length h4
    rw [List.length_append] at e
    have h5 := cutC_len l
    have h6 : 0 < (cutC (l.drop f)).length := List.length_pos_iff.2 (cutC_ne _)
    exact ⟨h2, by omega⟩
  · omega
theorem ac_end {l : List UInt8} {f : Nat} {ws : List (List UInt8)} (h : AtC l l.length f ws) : AtC l (l.length + 1) (l.length + 1) (ws ++ [(l.drop f).take (l.length - f)]) := by
  rcases h with ⟨_, h2, h3, h4⟩ | ⟨h1, _⟩
  · refine .inr ⟨rfl, ?_⟩
    have e : (l.drop f).take (l.length - f) = l.drop f := List.take_of_length_le (by simp)
    rw [e] at h3 ⊢
    rw [← h4, cutC_none _ h3]
  · omega
theorem ac_comma {l : List UInt8} {i f : Nat} {ws : List (List UInt8)} (h : AtC l i f ws) (hi : i < l.length) (hc : l[i] = 44) : AtC l (i + 1) (i + 1) (ws ++ [(l.drop f).take (i - f)]) := by
  rcases h with ⟨_, h2, h3, h4⟩ | ⟨h1, _⟩
  · refine .inl ⟨by omega, by omega, by simp, ?_⟩
    rw [drop_take hi h2, hc, cutC_at _ _ h3] at h4
    rw [List.append_assoc]
    exact h4
  · omega
theorem ac_other {l : List UInt8} {i f : Nat} {ws : List (List UInt8)} (h : AtC l i f ws) (hi : i < l.length) (hc : l[i] ≠ 44) : AtC l (i + 1) f ws := by
  rcases h with ⟨_, h2, h3, h4⟩ | ⟨h1, _⟩
  · refine .inl ⟨by omega, by omega, ?_, h4⟩
    have e : (l.drop f).take (i + 1 - f) = (l.drop f).take (i - f) ++ [l[i]] := by
      have h5 : i + 1 - f = (i - f) + 1 := by omega
      rw [h5, List.take_add_one]
      have h6 : (l.drop f)[i - f]? = some l[i] := by
        rw [List.getElem?_drop, show f + (i - f) = i by omega, List.getElem?_eq_getElem hi]
      rw [h6]
      rfl
    rw [e]
    intro hm
    rcases List.mem_append.1 hm with hm | hm
    · exact h3 hm
    · simp at hm; exact hc hm.symm
  · omega

set_option maxHeartbeats 2000000 in
theorem cutc23 (t : ByteArray) (ht : t.size ≤ 1048576) (w : World) :
    Calls Tryz.prog 80 #[.string t, .int .u8 44] w fun e W' => ∃ v, e = .returned v ∧ W'.ownsRow w.heap.size 9 1 v (cutC t.data.toList).length (texts (cutC t.data.toList)) ∧ Below w.heap.size w W' := by
  obtain ⟨i0, hi, hz0, hz1, hz2⟩ := info_parts Tryz.info9
  have hlen : t.data.toList.length = t.size := by rw [Array.length_toList]; rfl
  have HLn := Lib.hid hlen
  have ht1 : (t.size : Int) ≤ 1048576 := by omega
  clear hlen
  go_enter Tryz.func80, Tryz.ntmps80
  go_wp2
  go_loopw [5, 6, 7] (fun o f i wr => ∃ (k f' : Nat) (ws : List (List UInt8)), k ≤ t.size + 1 ∧ f' ≤ t.size + 1 ∧ i = .int .i64 k ∧ f = .int .i64 f' ∧ AtC t.data.toList k f' ws ∧ wr.ownsRow w.heap.size 9 1 o ws.length (texts ws) ∧ Below w.heap.size w wr) (fun _ _ i _ => t.size + 1 - (intOf i).toNat)
  case atStart => exact ⟨0, 0, [], by omega, by omega, rfl, rfl, ac_start _, World.ownsRow_made w #[] 0 (Nat.le_refl _) (by unfold maxLen; omega) rfl, (Below.refl _ _).alloc (Nat.le_refl _) _⟩
  case round =>
    obtain ⟨k, f, ws, hk, hf, rfl, rfl, hAt, hown, hB⟩ := hrel
    have HA := Lib.hid hAt
    clear hAt
    by_cases hle : k ≤ t.size
    · have hwl := ac_len HA.out (by rw [HLn.out]; exact hle)
      have hfk : f ≤ k := hwl.1
      have hws : ws.length ≤ 1048576 := by have := hwl.2; have := HLn.out; omega
      have fk1 : (f : Int) ≤ (k : Int) := by omega
      have kt1 : (k : Int) ≤ (t.size : Int) := by omega
      clear hwl
      by_cases hend : k = t.size
      · subst hend
        have hx : (t.extract f t.size).data.toList = (t.data.toList.drop f).take (t.data.toList.length - f) := by rw [Lib.extract_data, HLn.out]
        have HX := Lib.hid hx
        clear hx
        go_wp2_with (at_builtin; refine wpList_append_own _ rfl _ _ 74 rfl w.heap.size 9 i0 (.string ⟨#[]⟩) 1 16 Tryz.underlying74 hi hz0 hz1 hz2 rfl (by decide) _ _ _ rfl (hown.alloc _) ⟨wr.heap.size, 0, none⟩ 1 1 [.string (t.extract f t.size)] rfl rfl (cell_one_new _ _ _) (by simp [Value.oneCell']) (by unfold maxLen; omega) (by omega) (by have := hB.size; simp; omega) ?_; intro v' w1 hown' hgrow _; have R := cut_step hB hown hown' hgrow; clear hown' hgrow)
        go_roundw
        case rel => exact ⟨t.size + 1, t.size + 1, _, by omega, by omega, by go_num, by go_num, by have := ac_end (by have h := HA.out; rw [← HLn.out] at h; exact h); rw [← HX.out, HLn.out] at this; exact this, R.1, R.2⟩
        case measure => simp [intOf]
      · have hlt : k < t.size := by omega
        have hlt2 : k < t.data.toList.length := by rw [HLn.out]; exact hlt
        have kt2 : (k : Int) < (t.size : Int) := by omega
        by_cases hc : t.data.toList[k] = 44
        · have hx : (t.extract f k).data.toList = (t.data.toList.drop f).take (k - f) := Lib.extract_data t f k
          have HX := Lib.hid hx
          have HC := Lib.hid hc
          have hv : ∀ h : k < t.size, t[k]'h = 44 := fun _ => HC.out
          clear hx hc
          go_wp2_with (at_builtin; refine wpList_append_own _ rfl _ _ 74 rfl w.heap.size 9 i0 (.string ⟨#[]⟩) 1 16 Tryz.underlying74 hi hz0 hz1 hz2 rfl (by decide) _ _ _ rfl (hown.alloc _) ⟨wr.heap.size, 0, none⟩ 1 1 [.string (t.extract f k)] rfl rfl (cell_one_new _ _ _) (by simp [Value.oneCell']) (by unfold maxLen; omega) (by omega) (by have := hB.size; simp; omega) ?_; intro v' w1 hown' hgrow _; have R := cut_step hB hown hown' hgrow; clear hown' hgrow)
          go_roundw
          case rel => exact ⟨k + 1, k + 1, _, by omega, by omega, by go_num, by go_num, by rw [HX.out]; exact ac_comma HA.out hlt2 HC.out, R.1, R.2⟩
          case measure => simp [intOf]; omega
        · have HC := Lib.hid hc
          have hv : ∀ h : k < t.size, (((t[k]'h).toNat : Int) == 44) = false := fun h => by
            have h1 : t[k]'h ≠ 44 := HC.out
            have h2 : (t[k]'h).toNat ≠ 44 := fun e => h1 (UInt8.toNat_inj.1 (by rw [e]; rfl))
            simp; omega
          have hv2 := hv hlt
          clear hc hv
          go_wp2
          go_roundw
          case rel => exact ⟨k + 1, f, ws, by omega, by omega, by go_num, by go_num, ac_other HA.out hlt2 HC.out, hown, hB⟩
          case measure => simp [intOf]; omega
    · have hk2 : k = t.size + 1 := by omega
      subst hk2
      go_wp2
      go_ret
      rcases HA.out with ⟨h1, _⟩ | ⟨_, rfl⟩
      · have := HLn.out; omega
      · exact ⟨_, rfl, hown, hB⟩

theorem ba_eq (x : ByteArray) : (⟨x.data.toList.toArray⟩ : ByteArray) = x := rfl
/-- What ParseSet answers. -/
def parseN (t : List UInt8) : Int := ((parseL t).getD 0 : Nat)
def parseOk (t : List UInt8) : Bool := (parseL t).isSome
theorem or_pow9 (n : Nat) (z : Fin 9) (hn : n < 512) : bits .or .i64 (n : Int) (2 ^ z.val) = ((n ||| 2 ^ z.val : Nat) : Int) := by
  have e : ((2 : Int) ^ z.val) = ((2 ^ z.val : Nat) : Int) := by simp
  have hb : 2 ^ z.val < 512 := by
    have : ∀ z : Fin 9, 2 ^ z.val < 512 := by decide
    exact this z
  have hx : n ||| 2 ^ z.val < 2 ^ 62 := Nat.or_lt_two_pow (by omega) (by omega)
  have h1 : (BitVec.ofInt 64 (n : Int)).toNat = n := by
    rw [BitVec.ofInt_natCast, BitVec.toNat_ofNat]; exact Nat.mod_eq_of_lt (by omega)
  have h2 : (BitVec.ofInt 64 ((2 ^ z.val : Nat) : Int)).toNat = 2 ^ z.val := by
    rw [BitVec.ofInt_natCast, BitVec.toNat_ofNat]; exact Nat.mod_eq_of_lt (by omega)
  rw [e]
  show IntKind.i64.wrap ((BitVec.ofInt 64 (n : Int) ||| BitVec.ofInt 64 ((2 ^ z.val : Nat) : Int)).toNat : Int) = _
  rw [BitVec.toNat_or, h1, h2]
  exact IntWalk.i64_in _ (by omega)
theorem piecec_len : ∀ (l : List UInt8) (p : List UInt8), p ∈ cutC l → p.length ≤ l.length
  | [], p, h => by simp [cutC] at h; subst h; simp
  | c :: r, p, h => by
    have ih := piecec_len r
    unfold cutC at h
    split at h
    · rcases List.mem_cons.1 h with rfl | h
      · simp
      · have := ih p h; simp; omega
    · split at h
      · simp at h; subst h; simp
      · rename_i w ws hc
        rcases List.mem_cons.1 h with rfl | h
        · have := ih w (by rw [hc]; simp); simp; omega
        · have := ih p (by rw [hc]; simp [h]); simp; omega

theorem nine (z : Fin 9) : z = 0 ∨ z = 1 ∨ z = 2 ∨ z = 3 ∨ z = 4 ∨ z = 5 ∨ z = 6 ∨ z = 7 ∨ z = 8 := by
  have : ∀ z : Fin 9, z = 0 ∨ z = 1 ∨ z = 2 ∨ z = 3 ∨ z = 4 ∨ z = 5 ∨ z = 6 ∨ z = 7 ∨ z = 8 := by decide
  exact this z
theorem two0 : two 0 = [48, 48] := by decide
theorem two1 : two 1 = [48, 49] := by decide
theorem two2 : two 2 = [48, 50] := by decide
theorem two3 : two 3 = [49, 48] := by decide
theorem two4 : two 4 = [49, 49] := by decide
theorem two5 : two 5 = [49, 50] := by decide
theorem two6 : two 6 = [50, 48] := by decide
theorem two7 : two 7 = [50, 49] := by decide
theorem two8 : two 8 = [50, 50] := by decide
theorem allW_take {ws : List (List UInt8)} {k : Nat} {xs : List (Fin 9)} {p : List UInt8} {z : Fin 9} (h : allW (ws.take k) = some xs) (hp : ws[k]? = some p) (hz : wordOf p = some z) : allW (ws.take (k + 1)) = some (xs ++ [z]) := by
  rw [List.take_add_one, hp]
  exact allW_snoc h hz
theorem allW_hole {ws : List (List UInt8)} {k : Nat} {p : List UInt8} (hp : ws[k]? = some p) (hz : wordOf p = none) : allW ws = none := by
  refine allW_bad hz (ws.take k) ?_
  have h : ws.take (k + 1) = ws.take k ++ [p] := by rw [List.take_add_one, hp]; rfl
  rw [← h]
  exact List.take_prefix _ _

theorem parse_none {t : List UInt8} (h0 : t ≠ [45]) (h : allW (cutC t) = none) : parseN t = 0 ∧ parseOk t = false := by
  unfold parseN parseOk parseL
  rw [if_neg h0, h]
  exact ⟨rfl, rfl⟩


end Go.Proofs.YtgdgbjnmibkmhaaGreatDoor

