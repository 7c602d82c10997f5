/- The first test for a set, and the opposites of a test, in the program. -/
import Derived.Test.YtemilnkglkpnjaaDoorT9
namespace Go.Proofs.YtemilnkglkpnjaaDoor
open Go.ChangeShapes Go.WideShapes Go.ChangeAt Go.RowKit Go.Shelf Go.Maps
set_option maxRecDepth 100000
attribute [local go_sem] Oper.semAt_some

theorem take_all : tests.take 20 = tests := List.take_of_length_le (by rw [tests_len]; exact Nat.le_refl _)
theorem look_test {W : World} {b : Nat} (h : ByTest W b 20) {p : List UInt8} (hp : p ∈ tests) :
    (Instr.lookup 87 (.map (some b)) (.string ⟨p.toArray⟩) false).run Tryd.prog W = .ok (.int .i64 (whereL p)) W := by
  unfold ByTest at h
  rw [take_all] at h
  obtain ⟨c, hrun, hat, _⟩ := h.lookup_int lawStr Tryd.underlying87 Tryd.underlying89 (zero47 W) (key_test hp)
  rw [map_at hp] at hat
  injection hat with hat
  injection hat with _ hat
  rw [hrun, hat]
theorem look_any {W : World} {b : Nat} (h : ByTest W b 20) {t : ByteArray} (ht : t.size ≤ maxLen) :
    (Instr.lookup 87 (.map (some b)) (.string t) true).run Tryd.prog W = .ok (.tuple #[.int .i64 (whereT t), .bool (isTest t)]) W := by
  unfold ByTest at h
  rw [take_all] at h
  have hkey : keyOf Tryd.prog 9 (.string t) = some (.string t.toList) := by rw [Lib.toList_data]; exact Go.WideMaps.keyOf_string_mk Tryd.underlying9 ht
  obtain ⟨v, ps, hrun, hv⟩ := h.look_ok lawStr Tryd.underlying87 (zero47 W) (plainElem_int Tryd.underlying89 (by decide)) hkey
  rw [map_has] at hrun
  obtain ⟨c, rfl, hc, _⟩ := plainElem_int_inv Tryd.underlying89 hv
  have hc1 := congrArg Prod.fst hc
  dsimp only at hc1
  have hx : c = whereT t := by
    unfold whereT
    by_cases hm : t.toList ∈ tests
    · rw [if_pos (show isTest t = true from decide_eq_true hm)]
      rw [map_at hm] at hc1
      injection hc1 with hc1
      injection hc1 with _ hc1
      exact hc1.symm
    · rw [if_neg (show ¬ isTest t = true by unfold isTest; simpa using hm)]
      rw [atKey_of_not_has (by rw [map_has]; exact decide_eq_false hm)] at hc1
      injection hc1 with hc1
      injection hc1 with _ hc1
      exact hc1.symm
  rw [hrun, hx]
  rfl

theorem ByTest.below {W W' : World} {b : Nat} (h : ByTest W b 20) (hb : Below W.heap.size W W') : ByTest W' b 20 :=
  World.ownsMap.kept (row := none) h ⟨hb.os, hb.tape, hb.output, hb.size, fun i hi _ => hb.block i hi⟩ (by simp)


set_option maxHeartbeats 2000000 in
theorem opp22 (t : ByteArray) (ht : t.size ≤ maxLen) (w : World) {N : Nat} (hL : Laid N w) :
    Calls Tryd.prog 51 #[.string t] w fun e w' => ∃ v, e = .returned (.tuple #[v, .bool (isTest t)]) ∧ w'.ownsRow w.heap.size 9 1 v (oppL t).length (texts (oppL t)) ∧ Below w.heap.size w w' := by
  obtain ⟨i0, hi, hz0, hz1, hz2⟩ := info_parts Tryd.info9
  cases h : isTest t with
  | false =>
    have H := Lib.hid h
    have hw : oppL t = [] := by unfold oppL; rw [if_neg (by simp [h])]
    rw [hw]
    clear h hw
    go_enter Tryd.func51, Tryd.ntmps51
    go_wp2_with (go_at_call 63; refine (byTest45 _ hL).mono ?_; rintro e W1 ⟨rfl, hM1, hb1, hl1⟩; have hlk := look_any hM1 ht; rw [H.out] at hlk)
    go_ret2
    exact ⟨_, rfl, World.ownsRow_nil _ _ _ _, hb1⟩
  | true =>
    have H := Lib.hid h
    have hw : oppL t = tests.filter (isOpp t) := by unfold oppL; rw [if_pos h]
    have hwt : whereT t = whereL t.toList := by unfold whereT; rw [if_pos h]
    have HT := Lib.hid hwt
    rw [hw]
    clear h hw hwt
    go_enter Tryd.func51, Tryd.ntmps51
    go_wp2_with (first
      | (go_at_call 63; refine (byTest45 _ hL).mono ?_; rintro e W1 ⟨rfl, hM1, hb1, hl1⟩; have hL1 := hL.below hb1 hL.lt; have hlk := look_any hM1 ht; rw [H.out, HT.out] at hlk)
      | (go_at_call 64; refine (all27 _ hL1).mono ?_; rintro e W2 ⟨v, rfl, hown, hb⟩; obtain ⟨g, cap, rfl, hgB, hgl, hcells⟩ := tests_at hown; have hM2 := hM1.below hb; clear hown))
    have h0 : Opps W1 W2 g (.slice none 0 0) [] W2 := ⟨World.ownsRow_nil _ _ _ _, by simp [Value.ownBlock], hb, Nat.le_refl _, hcells⟩
    clear hcells
    go_loopw [7, 21] (fun o i wr => ∃ k : Nat, k ≤ 20 ∧ i = .int .i64 k ∧ Opps W1 W2 g o ((tests.take k).filter (isOpp t)) wr ∧ ByTest wr w.heap.size 20) (fun _ i _ => 20 - (intOf i).toNat)
    case atStart => exact ⟨0, by omega, rfl, h0, hM2⟩
    case round =>
      obtain ⟨k, hk, rfl, hO, hM⟩ := hrel
      by_cases hlt : k < 20
      · obtain ⟨p, hp⟩ := tests_some k hlt
        have c1 := hO.2.2.2.2 k p hp
        have hlp := look_test hM (some_mem hp)
        have HP := Lib.hid hp
        clear hp
        have hfl := filter_len (isOpp t) k
        cases ho : isOpp t p with
        | true =>
          have hu := Lib.hid (filter_hit HP.out ho)
          have he : (whereL p == bits .andNot .i64 511 (whereL t.toList)) = true := ho
          clear ho
          go_wp2_with (at_builtin; refine wpList_append_own_at _ rfl _ _ 24 rfl W1.heap.size 9 i0 (.string ⟨#[]⟩) 1 16 Tryd.underlying24 hi hz0 hz1 hz2 rfl (by decide) _ _ _ rfl (hO.1.alloc _) ⟨wr.heap.size, 0, none⟩ 1 1 [.string ⟨p.toArray⟩] rfl rfl (cell_one_new _ _ _) (by simp [Value.oneCell']) (by unfold maxLen; omega) (by omega) (by have := hO.2.2.1.size; simp; omega) ?_; intro v' w1 hown' hgrow _ hloc; have hO5 := hO.added hgl hown' hgrow hloc; have hM5 : ByTest w1 w.heap.size 20 := World.ownsMap.kept (World.ownsMap.alloc hM _) hgrow (fun e => Nat.not_lt.2 (hO.1.lt _ e.symm).1 hl1); clear hown' hgrow hloc)
          go_roundw
          case rel => exact ⟨k + 1, by omega, by go_num, by rw [hu.out]; exact hO5, hM5⟩
          case measure => simp [intOf]; omega
        | false =>
          have hu := Lib.hid (filter_miss HP.out ho)
          have he : (whereL p == bits .andNot .i64 511 (whereL t.toList)) = false := ho
          clear ho
          go_wp2
          go_roundw
          case rel => exact ⟨k + 1, by omega, by go_num, by rw [hu.out]; exact hO, hM⟩
          case measure => simp [intOf]; omega
      · obtain rfl : k = 20 := by omega
        rw [take_all] at hO
        go_wp2
        go_ret2
        exact ⟨_, rfl, own_base hO.1 hb1.size, hb1.trans (hO.2.2.1.mono hb1.size)⟩
end Go.Proofs.YtemilnkglkpnjaaDoor

