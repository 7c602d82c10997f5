/- The model's answers from each state: does a program stick, has it one result. -/
import Derived.Test.YtkmfmnolibkmoaaDoorM7
namespace Go.Proofs.YtkmfmnolibkmoaaDoor
open Go.ChangeShapes Go.WideShapes Go.ChangeAt Go.RowKit Go.Shelf
attribute [local go_sem] Oper.semAt_some
set_option maxRecDepth 100000

set_option maxHeartbeats 4000000 in
theorem mstick_none (t : ByteArray) (ht : t.size ≤ 9000000) (w : World) (hP : readP t.toList = none) :
    Calls Tryd.prog 17 #[.string t] w fun e w' => e = .returned (.bool false) ∧ Below w.heap.size w w' := by
  have hr := read42 t ht
  have HP := Lib.hid hP
  clear hP
  go_enter Tryd.func17, Tryd.ntmps17
  go_wp2_with (go_at_call 34; refine (hr _).mono ?_; rintro e W1 ⟨hb1, hm⟩; rw [HP.out] at hm; obtain rfl := hm)
  have hA := hb1.alloc hb1.size (.cells #[.int .u8 0, .string ⟨#[]⟩, .slice none 0 0] 30)
  generalize W1.alloc (.cells #[.int .u8 0, .string ⟨#[]⟩, .slice none 0 0] 30) = V at hA ⊢
  go_loopw [11] (fun i wr => ∃ k : Nat, k ≤ 9 ∧ i = .int .i64 (k : Int) ∧ wr = V) (fun i _ => 9 - (intOf i).toNat)
  case atStart => exact ⟨0, by omega, rfl, rfl⟩
  case round =>
    obtain ⟨k, hk, rfl, rfl⟩ := hrel
    by_cases hlt : k < 9
    · have k8 : (k : Int) < 9 := by omega
      go_wp2_with fail
      go_roundw
      case rel => exact ⟨k + 1, by omega, by go_num, trivial⟩
      case measure => simp [intOf]; omega
    · obtain rfl : k = 9 := by omega
      go_wp2
      go_ret
      exact ⟨rfl, hA⟩
theorem sticks_some' (nd : Node) : someB (fun s => decide (runR nd (2 ^ s) = (0, 0))) 9 = sticksP nd := by
  unfold someB sticksP
  congr 1
  funext s
  rw [Bool.eq_iff_iff]
  simp
set_option maxHeartbeats 4000000 in
theorem mstick_some (t : ByteArray) (ht : t.size ≤ 9000000) (w : World) {nd : Node} (hP : readP t.toList = some nd) :
    Calls Tryd.prog 17 #[.string t] w fun e w' => e = .returned (.bool (sticksP nd)) ∧ Below w.heap.size w w' := by
  have hr := read42 t ht
  obtain ⟨hok, _⟩ := readP_iff.1 hP
  have hrun := fun W lo hi k s ad n cap j h h2 hj => mrun23 nd hok W lo hi k s ad n cap j h h2 hj
  have HP := Lib.hid hP
  clear hP
  rw [← sticks_some']
  generalize runR nd = r at hrun ⊢
  go_enter Tryd.func17, Tryd.ntmps17
  go_wp2_with (go_at_call 34; refine (hr _).mono ?_; rintro e W1 ⟨hb1, hm⟩; rw [HP.out] at hm; obtain ⟨kk, s1, ad, n, cap, rfl, hnd⟩ := hm)
  have hA := hb1.alloc hb1.size (.cells #[.int .u8 kk, .string s1, .slice ad n cap] 30)
  have hN := hnd.below ((Below.refl _ W1).alloc (Nat.le_refl _) (.cells #[.int .u8 kk, .string s1, .slice ad n cap] 30)) (Nat.le_refl _)
  have hX := Lies.new W1 #[.int .u8 kk, .string s1, .slice ad n cap] 30
  have hV1 : W1.heap.size ≤ (W1.alloc (.cells #[.int .u8 kk, .string s1, .slice ad n cap] 30)).heap.size := by simp
  clear hnd
  generalize W1.alloc (.cells #[.int .u8 kk, .string s1, .slice ad n cap] 30) = V at hA hN hX hV1 ⊢
  generalize W1.heap.size = g at hX hN hV1 ⊢
  go_loopw [11] (fun i wr => ∃ k : Nat, k ≤ 9 ∧ i = .int .i64 (k : Int) ∧ someB (fun s => decide (r (2 ^ s) = (0, 0))) k = false ∧ Below V.heap.size V wr) (fun i _ => 9 - (intOf i).toNat)
  case atStart => exact ⟨0, by omega, rfl, rfl, Below.refl _ _⟩
  case round =>
    obtain ⟨k, hk, rfl, hno, hB⟩ := hrel
    by_cases hlt : k < 9
    · have k8 : (k : Int) < 9 := by omega
      have k0 : (0 : Int) ≤ (k : Int) := by omega
      have hsh := shl_state (n := k) (by omega)
      have hX2 := lies_kept hB hX
      obtain ⟨c0, c1, c2, _⟩ := Var.cells hX2
      have hr2 := hrun wr _ _ kk s1 ad n cap (2 ^ k) (hN.below hB hV1) (Nat.le_trans hV1 hB.size) (pow9 hlt)
      have hsu := some_succ (fun s => decide (r (2 ^ s) = (0, 0))) k
      rw [hno, Bool.false_or] at hsu
      have hhit := @some_hit (fun s => decide (r (2 ^ s) = (0, 0))) k 9 hlt
      generalize r (2 ^ k) = x at hr2 hsu hhit
      generalize (2 : Nat) ^ k = c at hsh hr2
      have hE : ∀ W, (Op.equalIn 10000 35 (.agg #[.int .i64 (x.1 : Int), .int .i64 (x.2 : Int)]) (.agg #[.int .i64 0, .int .i64 0])).run Tryd.prog W = .ok (decide (x = (0, 0))) W := fun W => eqModV x (0, 0) W
      have HH := Lib.hid (And.intro hsu hhit)
      clear hsu hhit hX2 hno
      cases hb : decide (x = (0, 0)) with
      | true =>
        rw [hb] at hE HH
        clear hb
        go_wp2_with (go_at_call 23; refine hr2.mono ?_; rintro e W2 ⟨rfl, hb2⟩)
        go_ret
        exact ⟨by have := HH.out.2 (by first | rfl | trivial); rw [this]; rfl, hA.trans ((hB.trans (hb2.mono hB.size)).mono hA.size)⟩
      | false =>
        rw [hb] at hE HH
        clear hb
        go_wp2_with (go_at_call 23; refine hr2.mono ?_; rintro e W2 ⟨rfl, hb2⟩)
        go_roundw
        case rel => exact ⟨k + 1, by omega, by go_num, HH.out.1, hB.trans (hb2.mono hB.size)⟩
        case measure => simp [intOf]; omega
    · obtain rfl : k = 9 := by omega
      go_wp2
      go_ret
      exact ⟨by rw [hno]; rfl, hA.trans (hB.mono hA.size)⟩
theorem mstick17 (t : ByteArray) (ht : t.size ≤ 9000000) (w : World) :
    Calls Tryd.prog 17 #[.string t] w fun e w' => e = .returned (.bool (tellsP sticksP t)) ∧ Below w.heap.size w w' := by
  unfold tellsP
  cases hP : readP t.toList with
  | none => exact mstick_none t ht w hP
  | some nd => exact mstick_some t ht w hP

theorem len_of {W : World} {B : Nat} {v : Value} {l : List (Fin 9)} (h : Holds W B v l) : ∃ a cap, v = .slice a l.length cap := by
  obtain ⟨a, cap, h, _⟩ := holds_at h
  exact ⟨a, cap, h⟩
set_option maxHeartbeats 4000000 in
theorem msingle_none (t : ByteArray) (ht : t.size ≤ 9000000) (w : World) (hP : readP t.toList = none) :
    Calls Tryd.prog 19 #[.string t] w fun e w' => e = .returned (.bool false) ∧ Below w.heap.size w w' := by
  have hr := read42 t ht
  have HP := Lib.hid hP
  clear hP
  go_enter Tryd.func19, Tryd.ntmps19
  go_wp2_with (go_at_call 34; refine (hr _).mono ?_; rintro e W1 ⟨hb1, hm⟩; rw [HP.out] at hm; obtain rfl := hm)
  go_ret
  exact ⟨rfl, hb1.alloc hb1.size _⟩
set_option maxHeartbeats 8000000 in
theorem msingle_some (t : ByteArray) (ht : t.size ≤ 9000000) (w : World) {nd : Node} (hP : readP t.toList = some nd) :
    Calls Tryd.prog 19 #[.string t] w fun e w' => e = .returned (.bool (singleP nd)) ∧ Below w.heap.size w w' := by
  have hr := read42 t ht
  obtain ⟨hok, _⟩ := readP_iff.1 hP
  have hrun := fun W lo hi k s ad n cap j h h2 hj => mrun23 nd hok W lo hi k s ad n cap j h h2 hj
  have hsm := run_small hok
  have HP := Lib.hid hP
  have hs := single_some nd
  clear hP
  generalize singleP nd = b at hs ⊢
  generalize runR nd = r at hrun hs hsm ⊢
  have hb : b = !(someB (fun s => manyZ (r (2 ^ s))) 9) := by rw [hs, Bool.not_not]
  clear hs
  subst hb
  go_enter Tryd.func19, Tryd.ntmps19
  go_wp2_with (go_at_call 34; refine (hr _).mono ?_; rintro e W1 ⟨hb1, hm⟩; rw [HP.out] at hm; obtain ⟨kk, s1, ad, n, cap, rfl, hnd⟩ := hm)
  have hA := hb1.alloc hb1.size (.cells #[.int .u8 kk, .string s1, .slice ad n cap] 30)
  have hN := hnd.below ((Below.refl _ W1).alloc (Nat.le_refl _) (.cells #[.int .u8 kk, .string s1, .slice ad n cap] 30)) (Nat.le_refl _)
  have hX := Lies.new W1 #[.int .u8 kk, .string s1, .slice ad n cap] 30
  have hV1 : W1.heap.size ≤ (W1.alloc (.cells #[.int .u8 kk, .string s1, .slice ad n cap] 30)).heap.size := by simp
  clear hnd
  generalize W1.alloc (.cells #[.int .u8 kk, .string s1, .slice ad n cap] 30) = V at hA hN hX hV1 ⊢
  generalize W1.heap.size = g at hX hN hV1 ⊢
  go_loopw [14] (fun i wr => ∃ k : Nat, k ≤ 9 ∧ i = .int .i64 (k : Int) ∧ someB (fun s => manyZ (r (2 ^ s))) k = false ∧ Below V.heap.size V wr) (fun i _ => 9 - (intOf i).toNat)
  case atStart => exact ⟨0, by omega, rfl, rfl, Below.refl _ _⟩
  case round =>
    obtain ⟨k, hk, rfl, hno, hB⟩ := hrel
    by_cases hlt : k < 9
    · have k8 : (k : Int) < 9 := by omega
      have k0 : (0 : Int) ≤ (k : Int) := by omega
      have hsh := shl_state (n := k) (by omega)
      have hX2 := lies_kept hB hX
      obtain ⟨c0, c1, c2, _⟩ := Var.cells hX2
      have hr2 := hrun wr _ _ kk s1 ad n cap (2 ^ k) (hN.below hB hV1) (Nat.le_trans hV1 hB.size) (pow9 hlt)
      have hsx := hsm (2 ^ k) (pow9 hlt)
      have hsu := some_succ (fun s => manyZ (r (2 ^ s))) k
      rw [hno, Bool.false_or] at hsu
      have hhit := @some_hit (fun s => manyZ (r (2 ^ s))) k 9 hlt
      generalize r (2 ^ k) = x at hr2 hsu hhit hsx
      generalize (2 : Nat) ^ k = c at hsh hr2
      have l1 : ((upTo (x.1 : Int) 9).length : Int) ≤ 9 := by have := upTo_len (x.1 : Int) 9; omega
      have l2 : ((upTo (x.2 : Int) 9).length : Int) ≤ 9 := by have := upTo_len (x.2 : Int) 9; omega
      have HH := Lib.hid (And.intro hsu hhit)
      have h1 := fun w => st35 (x.1 : Int) w
      have h2 := fun w => st35 (x.2 : Int) w
      clear hsu hhit hX2 hno
      have hw : IntKind.i64.wrap (((upTo (x.1 : Int) 9).length : Int) + ((upTo (x.2 : Int) 9).length : Int)) = ((upTo (x.1 : Int) 9).length : Int) + ((upTo (x.2 : Int) 9).length : Int) := IntWalk.i64_in _ (by omega)
      cases hb : manyZ x with
      | true =>
        rw [hb] at HH
        have hgt : (1 : Int) < ((upTo (x.1 : Int) 9).length : Int) + ((upTo (x.2 : Int) 9).length : Int) := of_decide_eq_true hb
        clear hb
        go_wp2_with (go_at_call 23; refine hr2.mono ?_; rintro e W2 ⟨rfl, hb2⟩)
        have hB2 := (hB.trans (hb2.mono hB.size)).alloc (Nat.le_trans hB.size hb2.size) (.cells #[.int .i64 (x.1 : Int), .int .i64 (x.2 : Int)] 35)
        have LX := Lies.new W2 #[.int .i64 (x.1 : Int), .int .i64 (x.2 : Int)] 35
        generalize W2.alloc (.cells #[.int .i64 (x.1 : Int), .int .i64 (x.2 : Int)] 35) = V2 at hB2 LX ⊢
        clear hb2
        generalize W2.heap.size = g6 at LX ⊢
        obtain ⟨p0, p1, _, _⟩ := LX.cells
        have HB2 := Lib.hid hB2
        clear LX hB2
        go_region_held3 (fun w' => w'.cell? ⟨g6, 0, none⟩ = some (.int .i64 (x.1 : Int)) ∧ w'.cell? ⟨g6, 1, none⟩ = some (.int .i64 (x.2 : Int)))
          (first | exact ⟨p0, p1⟩ | exact ⟨d0, d1⟩ | exact ⟨f0, f1⟩ | go_keep)
          (first
            | (go_at_call_of 36 (Value.int IntKind.i64 (x.2 : Int)); refine (h2 _).mono ?_; rintro e W4 ⟨v4, rfl, ho4, hb4⟩; refine two_then (a := ⟨g6, 0, none⟩) (b := ⟨g6, 1, none⟩) (u := .int .i64 (x.1 : Int)) (v := .int .i64 (x.2 : Int)) hb4 ?_ ?_ ?_; exact d0; exact d1; intro f0 f1; obtain ⟨a4, cap4, rfl⟩ := len_of ho4)
            | (go_at_call_of 36 (Value.int IntKind.i64 (x.1 : Int)); refine (h1 _).mono ?_; rintro e W3 ⟨v3, rfl, ho3, hb3⟩; refine two_then (a := ⟨g6, 0, none⟩) (b := ⟨g6, 1, none⟩) (u := .int .i64 (x.1 : Int)) (v := .int .i64 (x.2 : Int)) hb3 ?_ ?_ ?_; exact p0; exact p1; intro d0 d1; obtain ⟨a3, cap3, rfl⟩ := len_of ho3))
        all_goals
          have hB2 := HB2.out
          have hB4 : Below V.heap.size V W4 := (hB2.drew.trans (hb3.mono hB2.size)).trans (hb4.mono (Nat.le_trans hB2.size hb3.size))
          clear ho3 ho4
          go_wp2
          go_ret
          exact ⟨by have := HH.out.2 (by first | rfl | trivial); rw [this]; rfl, hA.trans (hB4.mono hA.size)⟩
      | false =>
        rw [hb] at HH
        have hgt : ¬ (1 : Int) < ((upTo (x.1 : Int) 9).length : Int) + ((upTo (x.2 : Int) 9).length : Int) := of_decide_eq_false hb
        clear hb
        go_wp2_with (go_at_call 23; refine hr2.mono ?_; rintro e W2 ⟨rfl, hb2⟩)
        have hB2 := (hB.trans (hb2.mono hB.size)).alloc (Nat.le_trans hB.size hb2.size) (.cells #[.int .i64 (x.1 : Int), .int .i64 (x.2 : Int)] 35)
        have LX := Lies.new W2 #[.int .i64 (x.1 : Int), .int .i64 (x.2 : Int)] 35
        generalize W2.alloc (.cells #[.int .i64 (x.1 : Int), .int .i64 (x.2 : Int)] 35) = V2 at hB2 LX ⊢
        clear hb2
        generalize W2.heap.size = g6 at LX ⊢
        obtain ⟨p0, p1, _, _⟩ := LX.cells
        have HB2 := Lib.hid hB2
        clear LX hB2
        go_region_held3 (fun w' => w'.cell? ⟨g6, 0, none⟩ = some (.int .i64 (x.1 : Int)) ∧ w'.cell? ⟨g6, 1, none⟩ = some (.int .i64 (x.2 : Int)))
          (first | exact ⟨p0, p1⟩ | exact ⟨d0, d1⟩ | exact ⟨f0, f1⟩ | go_keep)
          (first
            | (go_at_call_of 36 (Value.int IntKind.i64 (x.2 : Int)); refine (h2 _).mono ?_; rintro e W4 ⟨v4, rfl, ho4, hb4⟩; refine two_then (a := ⟨g6, 0, none⟩) (b := ⟨g6, 1, none⟩) (u := .int .i64 (x.1 : Int)) (v := .int .i64 (x.2 : Int)) hb4 ?_ ?_ ?_; exact d0; exact d1; intro f0 f1; obtain ⟨a4, cap4, rfl⟩ := len_of ho4)
            | (go_at_call_of 36 (Value.int IntKind.i64 (x.1 : Int)); refine (h1 _).mono ?_; rintro e W3 ⟨v3, rfl, ho3, hb3⟩; refine two_then (a := ⟨g6, 0, none⟩) (b := ⟨g6, 1, none⟩) (u := .int .i64 (x.1 : Int)) (v := .int .i64 (x.2 : Int)) hb3 ?_ ?_ ?_; exact p0; exact p1; intro d0 d1; obtain ⟨a3, cap3, rfl⟩ := len_of ho3))
        all_goals
          have hB2 := HB2.out
          have hB4 : Below V.heap.size V W4 := (hB2.drew.trans (hb3.mono hB2.size)).trans (hb4.mono (Nat.le_trans hB2.size hb3.size))
          clear ho3 ho4
          go_wp2
          go_roundw
          case rel => exact ⟨k + 1, by omega, by go_num, HH.out.1, hB4⟩
          case measure => simp [intOf]; omega
    · obtain rfl : k = 9 := by omega
      go_wp2
      go_ret
      exact ⟨by rw [hno]; rfl, hA.trans (hB.mono hA.size)⟩
theorem msingle19 (t : ByteArray) (ht : t.size ≤ 9000000) (w : World) :
    Calls Tryd.prog 19 #[.string t] w fun e w' => e = .returned (.bool (tellsP singleP t)) ∧ Below w.heap.size w w' := by
  unfold tellsP
  cases hP : readP t.toList with
  | none => exact msingle_none t ht w hP
  | some nd => exact msingle_some t ht w hP
end Go.Proofs.YtkmfmnolibkmoaaDoor

