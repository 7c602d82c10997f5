/- Chapter 6: the words of the rules, the model's and the program's. Chapter 6, the program: the table of the rules, their words. Chapter 6: the index of a word among the rules, the model's and the program's. -/
import Derived.Test.YtgdgbjnmibkmhaaGreatDoorTD
namespace Go.Proofs.YtgdgbjnmibkmhaaGreatDoor
open Go.ChangeShapes Go.WideShapes Go.ChangeAt Go.RowKit Go.Shelf
attribute [local go_sem] Oper.semAt_some
set_option maxRecDepth 100000

/-- The rules' words, in order. -/
def rulesL : List (List UInt8) := [[97, 116, 111, 109], [110, 111, 110, 101], [115, 101, 113], [115, 116, 111, 112], [108, 101, 102, 116], [114, 105, 103, 104, 116], [122, 101, 114, 111], [111, 110, 99, 101], [102, 97, 105, 108], [98, 111, 116, 104], [108, 101, 115, 115]]
def rulesText : ByteArray := ⟨([97, 116, 111, 109, 32, 110, 111, 110, 101, 32, 115, 101, 113, 32, 115, 116, 111, 112, 32, 108, 101, 102, 116, 32, 114, 105, 103, 104, 116, 32, 122, 101, 114, 111, 32, 111, 110, 99, 101, 32, 102, 97, 105, 108, 32, 98, 111, 116, 104, 32, 108, 101, 115, 115] : List UInt8).toArray⟩
theorem cut_rules : cutL rulesText.data.toList = rulesL := by decide +kernel
/-- The index of a word. -/
def ixR (t : List UInt8) : Option Nat := rulesL.idxOf? t
theorem ix_hit : ∀ (k : Nat) (t : List UInt8), k < 11 → rulesL[k]? = some t → ixR t = some k := by
  intro k t hk h
  match k, hk with
  | 0, _ | 1, _ | 2, _ | 3, _ | 4, _ | 5, _ | 6, _ | 7, _ | 8, _ | 9, _ | 10, _ => cases h; decide
theorem ix_miss {t : List UInt8} (h : ∀ k, k < 11 → rulesL[k]? ≠ some t) : ixR t = none := by
  unfold ixR
  rw [List.idxOf?_eq_none_iff]
  intro hm
  obtain ⟨k, hk, he⟩ := List.getElem_of_mem hm
  exact h k hk (by rw [List.getElem?_eq_getElem hk, he])
theorem ix_lt {t : List UInt8} {k : Nat} (h : ixR t = some k) : k < 11 ∧ rulesL[k]? = some t := by
  unfold ixR at h
  obtain ⟨hk, he, _⟩ := List.idxOf?_eq_some_iff.1 h
  exact ⟨hk, by rw [List.getElem?_eq_getElem hk, he]⟩
end Go.Proofs.YtgdgbjnmibkmhaaGreatDoor

namespace Go.Proofs.YtgdgbjnmibkmhaaGreatDoor
open Go.ChangeShapes Go.WideShapes Go.ChangeAt Go.RowKit Go.Shelf
attribute [local go_sem] Oper.semAt_some
set_option maxRecDepth 100000

theorem store_func {P : Program} {w : World} {a : Addr} {m : Mode} (fn : Fn) (first captured : Array Value) : (store a (.func fn first captured) m).run P w = stored P w a (.func fn first captured) m := run_store P w a _ m rfl
attribute [local go_sem] store_func
/-- The table's cells, four a rule: the word, the kind, how many it takes, what tells. -/
def ruleCells : Array Value := #[.string ⟨#[97, 116, 111, 109]⟩, .string ⟨#[]⟩, .int .i64 0, .func (.func 94) #[] #[],
  .string ⟨#[110, 111, 110, 101]⟩, .string ⟨#[]⟩, .int .i64 0, .func (.func 96) #[] #[],
  .string ⟨#[115, 101, 113]⟩, .string ⟨#[59]⟩, .int .i64 2, .func (.func 97) #[] #[],
  .string ⟨#[115, 116, 111, 112]⟩, .string ⟨#[59]⟩, .int .i64 1, .func (.func 99) #[] #[],
  .string ⟨#[108, 101, 102, 116]⟩, .string ⟨#[124]⟩, .int .i64 1, .func (.func 100) #[] #[],
  .string ⟨#[114, 105, 103, 104, 116]⟩, .string ⟨#[124]⟩, .int .i64 1, .func (.func 102) #[] #[],
  .string ⟨#[122, 101, 114, 111]⟩, .string ⟨#[123]⟩, .int .i64 0, .func (.func 103) #[] #[],
  .string ⟨#[111, 110, 99, 101]⟩, .string ⟨#[123]⟩, .int .i64 2, .func (.func 104) #[] #[],
  .string ⟨#[102, 97, 105, 108]⟩, .string ⟨#[123]⟩, .int .i64 1, .func (.func 99) #[] #[],
  .string ⟨#[98, 111, 116, 104]⟩, .string ⟨#[]⟩, .int .i64 2, .func (.func 105) #[] #[],
  .string ⟨#[108, 101, 115, 115]⟩, .string ⟨#[]⟩, .int .i64 1, .func (.func 106) #[] #[]]
set_option maxHeartbeats 1000000 in
theorem rules90 (W : World) :
    Calls Tryz.prog 74 #[] W fun e W' => e = .returned (.slice (some ⟨W.heap.size, 0, none⟩) 11 11) ∧ W' = W.alloc (.cells ruleCells 67) := by
  go_enter Tryz.func74, Tryz.ntmps74
  go_wp2_with fail
  exact bodyPost_ret (v := .slice (some ⟨W.heap.size, 0, none⟩) 11 11) (by simp [results, Tryz.results74, go_sem]) rfl ⟨rfl, rfl⟩
/-- The table at its block. -/
def RulesAt (W : World) (g : Nat) : Prop := W.heap[g]? = some (.cells ruleCells 67 (0, 0))
theorem RulesAt.new (W : World) : RulesAt (W.alloc (.cells ruleCells 67)) W.heap.size := heap_alloc_new W _
theorem RulesAt.lt {W : World} {g : Nat} (h : RulesAt W g) : g < W.heap.size := (Array.getElem?_eq_some_iff.1 h).1
theorem RulesAt.below {W W' : World} {g : Nat} (h : RulesAt W g) {n : Nat} (hb : Below n W W') (hn : g < n) : RulesAt W' g := (hb.block g hn).trans h
theorem RulesAt.cell {W : World} {g : Nat} (h : RulesAt W g) (i : Nat) : W.cell? ⟨g, i, none⟩ = ruleCells[i]? := cell_of_row _ g i _ _ (0, 0) h
/-- A rule's four cells. -/
theorem rule_four : ∀ k, k < 11 → ∃ w kd tk f, rulesL[k]? = some w ∧ ruleCells[k * 4]? = some (.string ⟨w.toArray⟩) ∧ ruleCells[k * 4 + 1]? = some (.string kd) ∧ ruleCells[k * 4 + 2]? = some (.int .i64 tk) ∧ ruleCells[k * 4 + 3]? = some (.func (.func f) #[] #[]) := by
  intro k hk
  match k, hk with
  | 0, _ | 1, _ | 2, _ | 3, _ | 4, _ | 5, _ | 6, _ | 7, _ | 8, _ | 9, _ | 10, _ => exact ⟨_, _, _, _, rfl, rfl, rfl, rfl, rfl⟩

/-! ### The words -/
theorem own_less {W : World} {B B' n : Nat} {v : Value} {xs : List Value} (h : W.ownsRow B 9 1 v n xs) (hB : B' ≤ B) : W.ownsRow B' 9 1 v n xs := by
  obtain ⟨h1, h2⟩ := h
  refine ⟨h1, ?_⟩
  rcases h2 with h2 | ⟨g, cap, cur, a, b, c⟩
  · exact .inl h2
  · exact .inr ⟨g, cap, cur, a, Nat.le_trans hB b, c⟩
set_option maxHeartbeats 2000000 in
theorem prules31 (W : World) :
    Calls Tryz.prog 53 #[] W fun e W' => ∃ v, e = .returned v ∧ W'.ownsRow W.heap.size 9 1 v 11 (texts rulesL) ∧ Below W.heap.size W W' := by
  obtain ⟨i0, hi, hz0, hz1, hz2⟩ := info_parts Tryz.info9
  have h0 := RulesAt.new W
  have hA : Below W.heap.size W (W.alloc (.cells ruleCells 67)) := (Below.refl _ W).alloc (Nat.le_refl _) _
  go_enter Tryz.func53, Tryz.ntmps53
  go_wp2_with fail
  go_at_call 74
  refine (rules90 W).mono ?_
  rintro e W1 ⟨rfl, rfl⟩
  have hs : (W.alloc (.cells ruleCells 67)).heap.size = W.heap.size + 1 := by simp
  generalize W.alloc (.cells ruleCells 67) = W1 at h0 hA hs ⊢
  go_wp2_with fail
  go_loopw [1, 6] (fun o i wr => ∃ k : Nat, k ≤ 11 ∧ i = .int .i64 (k : Int) ∧ wr.ownsRow (W.heap.size + 1) 9 1 o k (texts (rulesL.take k)) ∧ Below (W.heap.size + 1) W1 wr) (fun _ i _ => 11 - (intOf i).toNat)
  case atStart => exact ⟨0, by omega, rfl, World.ownsRow_nil _ _ _ _, Below.refl _ _⟩
  case round =>
    obtain ⟨k, hk, rfl, hown, hB⟩ := hrel
    have hR := h0.below hB (Nat.lt_succ_self _)
    by_cases hlt : k < 11
    · have hlt2 : (k : Int) < 11 := by omega
      obtain ⟨w, kd, tk, f, hw, q0, q1, q2, q3⟩ := rule_four k hlt
      have c0 := (hR.cell _).trans q0
      have c1 := (hR.cell _).trans q1
      have c2 := (hR.cell _).trans q2
      have c3 := (hR.cell _).trans q3
      have hw2 : texts (rulesL.take (k + 1)) = texts (rulesL.take k) ++ [.string ⟨w.toArray⟩] := by
        rw [List.take_add_one, hw]
        exact texts_snoc _ _
      clear q0 q1 q2 q3
      have hlen : (texts (rulesL.take k)).length = k := hown.1.trans (by simp)
      go_wp2_with (at_builtin; refine wpList_append_own _ rfl _ _ 74 rfl (W.heap.size + 1) 9 i0 (.string ⟨#[]⟩) 1 16 Tryz.underlying74 hi hz0 hz1 hz2 rfl (by decide) _ _ _ rfl ((hown.alloc _).alloc _) ⟨wr.heap.size + 1, 0, none⟩ 1 1 [.string ⟨w.toArray⟩] rfl rfl (by have := cell_one_new (wr.alloc (.cells #[.string ⟨w.toArray⟩, .string kd, .int .i64 tk, .func (.func f) #[] #[]] 67)) (.string ⟨w.toArray⟩) 9; simpa using this) (by simp [Value.oneCell']) (by unfold maxLen; omega) (by omega) (by have := hB.size; simp; omega) ?_; intro v' w1 hown' hgrow _)
      go_roundw
      case rel => exact ⟨k + 1, by omega, by go_num, by rw [hw2]; exact hown', ((hB.alloc (by have := hB.size; omega) _).alloc (by have := hB.size; simp; omega) _).grown hgrow (by have := hB.size; simp; omega) (fun i e => (hown.lt i e).1)⟩
      case measure => simp [intOf]; omega
    · have hkn : k = 11 := by omega
      subst hkn
      go_wp2_with fail
      go_ret
      exact ⟨_, rfl, own_less hown (Nat.le_succ _), hA.trans (hB.mono (Nat.le_succ _))⟩
/-! ### The model's -/
theorem mrules32 (W : World) :
    Calls Tryz.prog 52 #[] W fun e W' => ∃ v, e = .returned v ∧ W'.ownsRow W.heap.size 9 1 v 11 (texts rulesL) ∧ Below W.heap.size W W' := by
  go_enter Tryz.func52, Tryz.ntmps52
  go_wp2_with (go_at_call 80; refine (cut23 rulesText (by decide) _).mono ?_; rintro e W1 ⟨v, rfl, hown, hb⟩; rw [cut_rules] at hown)
  go_ret
  exact ⟨_, rfl, hown, hb⟩
end Go.Proofs.YtgdgbjnmibkmhaaGreatDoor

namespace Go.Proofs.YtgdgbjnmibkmhaaGreatDoor
open Go.ChangeShapes Go.WideShapes Go.ChangeAt Go.RowKit Go.Shelf
attribute [local go_sem] Oper.semAt_some
set_option maxRecDepth 100000


/-! ### The index of a word -/
def ixV (t : List UInt8) : Int := match ixR t with
  | some k => (k : Int)
  | none => -1
theorem ixV_hit {k : Nat} {t : List UInt8} (hk : k < 11) (h : rulesL[k]? = some t) : ixV t = (k : Int) := by unfold ixV; rw [ix_hit k t hk h]
theorem ixV_miss {t : List UInt8} (h : ∀ k, k < 11 → rulesL[k]? ≠ some t) : ixV t = -1 := by unfold ixV; rw [ix_miss h]
theorem word_of (w : List UInt8) : (⟨w.toArray⟩ : ByteArray).toList = w := by rw [Lib.toList_data]
theorem rule_at {k : Nat} (hk : k < 11) : ∃ w, rulesL[k]? = some w := ⟨rulesL[k]'hk, List.getElem?_eq_getElem hk⟩
set_option maxHeartbeats 1000000 in
theorem mix89 (t : ByteArray) (W : World) :
    Calls Tryz.prog 38 #[.string t] W fun e W' => e = .returned (.int .i64 (ixV t.toList)) ∧ Below W.heap.size W W' := by
  have HM := Lib.hid (fun h => ixV_miss (t := t.toList) h)
  have HH := Lib.hid (fun k hk h => ixV_hit (k := k) (t := t.toList) hk h)
  generalize ixV t.toList = z at HM HH ⊢
  go_enter Tryz.func38, Tryz.ntmps38
  go_wp2_with fail
  go_at_call 52
  refine (mrules32 _).mono ?_
  rintro e W1 ⟨v, rfl, hown, hb⟩
  obtain ⟨g, cap, rfl, hg, hcells⟩ := texts_at (ws := rulesL) hown (by decide)
  have HC := Lib.hid hcells
  rw [show rulesL.length = 11 from rfl]
  clear hown hcells
  go_wp2_with fail
  go_loopw [7] (fun i wr => ∃ k : Nat, k ≤ 11 ∧ i = .int .i64 (k : Int) ∧ (∀ j, j < k → rulesL[j]? ≠ some t.toList) ∧ wr = W1) (fun i _ => 11 - (intOf i).toNat)
  case atStart => exact ⟨0, by omega, rfl, fun j hj => by omega, rfl⟩
  case round =>
    obtain ⟨k, hk, rfl, hno, rfl⟩ := hrel
    by_cases hlt : k < 11
    · have hlt2 : (k : Int) < 11 := by omega
      obtain ⟨w, hw⟩ := rule_at hlt
      have hc := HC.out k w hw
      cases q : (w == t.toList) with
      | true =>
        have hq : w = t.toList := eq_of_beq q
        have hz := HH.out k hlt (by rw [hw, hq])
        go_wp2_with fail
        go_ret
        exact ⟨by rw [hz]; rfl, hb⟩
      | false =>
        have hq : w ≠ t.toList := fun e => by rw [e] at q; simp at q
        go_wp2_with fail
        go_roundw
        case rel => exact ⟨k + 1, by omega, by go_num, fun j hj => by
          by_cases he : j = k
          · subst he; rw [hw]; exact fun e => hq (Option.some.inj e)
          · exact hno j (by omega), trivial⟩
        case measure => simp [intOf]; omega
    · have hkn : k = 11 := by omega
      subst hkn
      have hz := HM.out hno
      go_wp2_with fail
      go_ret
      exact ⟨by rw [hz]; rfl, hb⟩
set_option maxHeartbeats 1000000 in
theorem pix88 (t : ByteArray) (W : World) (B : Nat) (v : Value) (hown : W.ownsRow B 9 1 v 11 (texts rulesL)) :
    Calls Tryz.prog 54 #[v, .string t] W fun e W' => e = .returned (.int .i64 (ixV t.toList)) ∧ W' = W := by
  have HM := Lib.hid (fun h => ixV_miss (t := t.toList) h)
  have HH := Lib.hid (fun k hk h => ixV_hit (k := k) (t := t.toList) hk h)
  generalize ixV t.toList = z at HM HH ⊢
  obtain ⟨g, cap, rfl, hg, hcells⟩ := texts_at (ws := rulesL) hown (by decide)
  have HC := Lib.hid hcells
  rw [show rulesL.length = 11 from rfl]
  clear hown hcells
  obtain ⟨W0, hW0⟩ : ∃ W0, W0 = W := ⟨_, rfl⟩
  go_enter Tryz.func54, Tryz.ntmps54
  go_wp2_with fail
  go_loopw [8] (fun i wr => ∃ k : Nat, k ≤ 11 ∧ i = .int .i64 (k : Int) ∧ (∀ j, j < k → rulesL[j]? ≠ some t.toList) ∧ wr = W0) (fun i _ => 11 - (intOf i).toNat)
  case atStart => exact ⟨0, by omega, rfl, fun j hj => by omega, hW0.symm⟩
  case round =>
    obtain ⟨k, hk, rfl, hno, hwr⟩ := hrel
    subst hwr
    subst hW0
    by_cases hlt : k < 11
    · have hlt2 : (k : Int) < 11 := by omega
      obtain ⟨w, hw⟩ := rule_at hlt
      have hc := HC.out k w hw
      cases q : (t.toList == w) with
      | true =>
        have hq : w = t.toList := (eq_of_beq q).symm
        have hz := HH.out k hlt (by rw [hw, hq])
        go_wp2_with fail
        go_ret
        exact ⟨by rw [hz]; rfl, rfl⟩
      | false =>
        have hq : w ≠ t.toList := fun e => by rw [e] at q; simp at q
        go_wp2_with fail
        go_roundw
        case rel => exact ⟨k + 1, by omega, by go_num, fun j hj => by
          by_cases he : j = k
          · subst he; rw [hw]; exact fun e => hq (Option.some.inj e)
          · exact hno j (by omega), trivial⟩
        case measure => simp [intOf]; omega
    · have hkn : k = 11 := by omega
      subst hkn
      have hz := HM.out hno
      go_wp2_with fail
      go_ret
      exact ⟨by rw [hz]; rfl, rfl⟩
end Go.Proofs.YtgdgbjnmibkmhaaGreatDoor
