/- Where tests hold and what their opposites are, by the model. -/
import Derived.Test.YtemilnkglkpnjaaDoorT5
import Derived.Test.YtemilnkglkpnjaaDoorT6
namespace Go.Proofs.YtemilnkglkpnjaaDoor
open Go.ChangeShapes Go.WideShapes Go.ChangeAt Go.RowKit Go.Shelf
set_option maxRecDepth 100000
attribute [local go_sem] Oper.semAt_some

theorem wh35t {t : ByteArray} (h : isTest t = true) (w : World) :
    Calls Tryd.prog 67 #[.string t] w fun e w' => e = .returned (.int .i64 (whereL t.toList)) ∧ Below w.heap.size w w' := by
  have := wh35 (mem_of h) w
  rw [← of_list t] at this
  exact this
theorem st34t {t : ByteArray} (h : isTest t = true) (w : World) :
    Calls Tryd.prog 79 #[.string t] w fun e w' => e = .returned (.int .i64 (whereL t.toList)) ∧ Below w.heap.size w w' := by
  have := st34 (mem_of h) w
  rw [← of_list t] at this
  exact this

/-- The set of a text, and whether it holds in a state. -/
def whereT (t : ByteArray) : Int := if isTest t = true then whereL t.toList else 0
def holdsT (t : ByteArray) (s : Int) : Bool := isTest t && inB s 0 8 && holdsL t.toList s.toNat



/-- Is a test one of a test's opposites; all of them. -/
def isOpp (t : ByteArray) (p : List UInt8) : Bool := whereL p == bits .andNot .i64 511 (whereL t.toList)
def oppL (t : ByteArray) : List (List UInt8) := if isTest t = true then tests.filter (isOpp t) else []
theorem filter_hit {f : List UInt8 → Bool} {k : Nat} {p : List UInt8} (h : tests[k]? = some p) (hf : f p = true) : (tests.take (k + 1)).filter f = (tests.take k).filter f ++ [p] := by
  rw [List.take_add_one, h, List.filter_append]
  simp [hf]
theorem filter_miss {f : List UInt8 → Bool} {k : Nat} {p : List UInt8} (h : tests[k]? = some p) (hf : f p = false) : (tests.take (k + 1)).filter f = (tests.take k).filter f := by
  rw [List.take_add_one, h, List.filter_append]
  simp [hf]
theorem filter_len (f : List UInt8 → Bool) (k : Nat) : ((tests.take k).filter f).length ≤ 20 := by
  have h1 := List.length_filter_le f (tests.take k)
  have h2 : (tests.take k).length ≤ 20 := by rw [List.length_take, tests_len]; omega
  omega

/-- What the loop over the tests keeps: the tests' own slice, and the slice of what was found. -/
def Opps (w W2 : World) (g : Nat) (o : Value) (ws : List (List UInt8)) (wr : World) : Prop :=
  wr.ownsRow w.heap.size 9 1 o ws.length (texts ws) ∧ o.ownBlock ≠ some g ∧ Below w.heap.size w wr ∧ W2.heap.size ≤ wr.heap.size ∧ ∀ (j : Nat) p, tests[j]? = some p → wr.cell? ⟨g, j, none⟩ = some (.string ⟨p.toArray⟩)
theorem Opps.below {w W2 wr W' : World} {g : Nat} {o : Value} {ws : List (List UInt8)} (h : Opps w W2 g o ws wr) (hg : g < W2.heap.size) (hb : Below wr.heap.size wr W') : Opps w W2 g o ws W' := by
  obtain ⟨h1, h2, h3, h4, h5⟩ := h
  refine ⟨World.ownsRow.kept (row := none) h1 ⟨hb.os, hb.tape, hb.output, hb.size, fun i hi _ => hb.block i hi⟩ ?_, h2, h3.trans (hb.mono h3.size), Nat.le_trans h4 hb.size, fun j p hp => (hb.cell (p := ⟨g, j, none⟩) (Nat.lt_of_lt_of_le hg h4)).trans (h5 j p hp)⟩
  cases ho : o.ownBlock with
  | none => exact .inl rfl
  | some b => exact .inr (by simp)
theorem Opps.added {w W2 wr w1 : World} {g : Nat} {o v' : Value} {ws : List (List UInt8)} {p : List UInt8} (h : Opps w W2 g o ws wr) (hg : g < W2.heap.size)
    (hown : w1.ownsRow w.heap.size 9 1 v' (ws.length + 1) (texts ws ++ [.string ⟨p.toArray⟩])) (hgr : (wr.alloc (.cells #[.string ⟨p.toArray⟩] 9)).grownBy w1 o.ownBlock)
    (hloc : v'.ownBlock = o.ownBlock ∨ v'.ownBlock = some (wr.alloc (.cells #[.string ⟨p.toArray⟩] 9)).heap.size) : Opps w W2 g v' (ws ++ [p]) w1 := by
  obtain ⟨h1, h2, h3, h4, h5⟩ := h
  have hA : Below w.heap.size w (wr.alloc (.cells #[.string ⟨p.toArray⟩] 9)) := h3.alloc h3.size _
  have hs := hgr.size
  have ha : (wr.alloc (.cells #[.string ⟨p.toArray⟩] 9)).heap.size = wr.heap.size + 1 := by simp
  refine ⟨by rw [texts_snoc, List.length_append]; exact hown, ?_, hA.grown hgr hA.size (fun i e => (h1.lt i e).1), by omega, fun j q hq => ?_⟩
  · rcases hloc with e | e
    · rw [e]; exact h2
    · rw [e, ha]; intro h; cases h; omega
  · refine (hgr.cell (a := ⟨g, j, none⟩) (cellAlloc _ (h5 j q hq)) ?_)
    intro e; exact h2 e.symm

set_option maxHeartbeats 2000000 in
theorem opp23 (t : ByteArray) (w : World) :
    Calls Tryd.prog 53 #[.string t] w fun e w' => ∃ v, e = .returned (.tuple #[v, .bool (isTest t)]) ∧ w'.ownsRow w.heap.size 9 1 v (oppL t).length (texts (oppL t)) ∧ Below w.heap.size w w' := by
  obtain ⟨i0, hi, hz0, hz1, hz2⟩ := info_parts Tryd.info9
  have hA : Below w.heap.size w (w.alloc (.cells #[] 9)) := (Below.refl _ _).alloc (Nat.le_refl _) _
  have hMade : (w.alloc (.cells #[] 9)).ownsRow w.heap.size 9 1 (.slice (some ⟨w.heap.size, 0, none⟩) 0 0) 0 (texts []) := World.ownsRow_made w #[] 0 (Nat.le_refl _) (by unfold maxLen; omega) rfl
  cases h : isTest t with
  | false =>
    have H := Lib.hid h
    have hw : oppL t = [] := by unfold oppL; rw [if_neg (by simp [h])]
    rw [hw]
    clear h hw
    go_enter Tryd.func53, Tryd.ntmps53
    go_wp2_with (go_at_call 65; refine (valid16 t _).mono ?_; rintro e W1 ⟨rfl, hb⟩; rw [H.out])
    go_ret2
    exact ⟨_, rfl, World.ownsRow.kept (row := none) hMade ⟨hb.os, hb.tape, hb.output, hb.size, fun i hi _ => hb.block i hi⟩ (.inr (by simp [Value.ownBlock])), hA.trans (hb.mono hA.size)⟩
  | true =>
    have H := Lib.hid h
    have hw : oppL t = tests.filter (isOpp t) := by unfold oppL; rw [if_pos h]
    rw [hw]
    clear h hw
    go_enter Tryd.func53, Tryd.ntmps53
    go_wp2_with (first | (go_at_call 65; refine (valid16 t _).mono ?_; rintro e W1 ⟨rfl, hb⟩; rw [H.out]) | (go_at_call 66; refine (all39 _).mono ?_; rintro e W2 ⟨v, rfl, hown2, hb2⟩; obtain ⟨g, cap, rfl, hgB, hgl, hcells⟩ := tests_at hown2))
    have hs1 := hb.size
    have ha : (w.alloc (.cells #[] 9)).heap.size = w.heap.size + 1 := by simp
    have h0 : Opps w W2 g (.slice (some ⟨w.heap.size, 0, none⟩) 0 0) [] W2 := by
      have k1 := World.ownsRow.kept (row := none) hMade ⟨hb.os, hb.tape, hb.output, hb.size, fun i hi _ => hb.block i hi⟩ (.inr (by simp [Value.ownBlock]))
      have k2 := World.ownsRow.kept (row := none) k1 ⟨hb2.os, hb2.tape, hb2.output, hb2.size, fun i hi _ => hb2.block i hi⟩ (.inr (by simp [Value.ownBlock]))
      exact ⟨k2, by simp [Value.ownBlock]; omega, (hA.trans (hb.mono hA.size)).trans (hb2.mono (Nat.le_trans hA.size hb.size)), Nat.le_refl _, hcells⟩
    clear hcells hown2 hMade hA
    go_loopw [4, 14] (fun o i wr => ∃ k : Nat, k ≤ 20 ∧ i = .int .i64 k ∧ Opps w W2 g o ((tests.take k).filter (isOpp t)) wr) (fun _ i _ => 20 - (intOf i).toNat)
    case atStart => exact ⟨0, by omega, rfl, h0⟩
    case round =>
      obtain ⟨k, hk, rfl, hO⟩ := hrel
      by_cases hlt : k < 20
      · obtain ⟨p, hp⟩ := tests_some k hlt
        have c1 := hO.2.2.2.2 k p hp
        have HP := Lib.hid hp
        clear hp
        have hfl := filter_len (isOpp t) k
        cases ho : isOpp t p with
        | true =>
          have hu := Lib.hid (filter_hit HP.out ho)
          have he : (whereL p == bits .andNot .i64 511 (whereL t.toList)) = true := ho
          clear ho
          go_wp2_with (first
            | (go_at_call_of 67 (Value.string t); refine (wh35t H.out _).mono ?_; rintro e W4 ⟨rfl, hb4⟩; have hO4 := hO3.below hgl hb4)
            | (go_at_call 67; refine (wh35 (some_mem HP.out) _).mono ?_; rintro e W3 ⟨rfl, hb3⟩; have hO3 := hO.below hgl hb3)
            | (at_builtin; refine wpList_append_own_at _ rfl _ _ 24 rfl w.heap.size 9 i0 (.string ⟨#[]⟩) 1 16 Tryd.underlying24 hi hz0 hz1 hz2 rfl (by decide) _ _ _ rfl (hO4.1.alloc _) ⟨W4.heap.size, 0, none⟩ 1 1 [.string ⟨p.toArray⟩] rfl rfl (cell_one_new _ _ _) (by simp [Value.oneCell']) (by unfold maxLen; omega) (by omega) (by have := hO4.2.2.1.size; simp; omega) ?_; intro v' w1 hown' hgrow _ hloc; have hO5 := hO4.added hgl hown' hgrow hloc; clear hown' hgrow hloc))
          go_roundw
          case rel => exact ⟨k + 1, by omega, by go_num, by rw [hu.out]; exact hO5⟩
          case measure => simp [intOf]; omega
        | false =>
          have hu := Lib.hid (filter_miss HP.out ho)
          have he : (whereL p == bits .andNot .i64 511 (whereL t.toList)) = false := ho
          clear ho
          go_wp2_with (first
            | (go_at_call_of 67 (Value.string t); refine (wh35t H.out _).mono ?_; rintro e W4 ⟨rfl, hb4⟩; have hO4 := hO3.below hgl hb4)
            | (go_at_call 67; refine (wh35 (some_mem HP.out) _).mono ?_; rintro e W3 ⟨rfl, hb3⟩; have hO3 := hO.below hgl hb3))
          go_roundw
          case rel => exact ⟨k + 1, by omega, by go_num, by rw [hu.out]; exact hO4⟩
          case measure => simp [intOf]; omega
      · obtain rfl : k = 20 := by omega
        have ht : tests.take 20 = tests := List.take_of_length_le (by rw [tests_len]; exact Nat.le_refl _)
        rw [ht] at hO
        go_wp2
        go_ret2
        exact ⟨_, rfl, hO.1, hO.2.2.1⟩
end Go.Proofs.YtemilnkglkpnjaaDoor

