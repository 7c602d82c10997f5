/- The law on what a set of states reaches: its walk. -/
import Derived.Test.YtkmfmnolibkmoaaGreatDoorDR
import Derived.Test.YtkmfmnolibkmoaaGreatDoorE4
import Derived.Test.YtkmfmnolibkmoaaGreatDoorM7
import Derived.Test.YtkmfmnolibkmoaaGreatDoorR5
namespace Go.Proofs.YtkmfmnolibkmoaaGreatDoor
open Go.ChangeShapes Go.WideShapes Go.ChangeAt Go.RowKit Go.Shelf
attribute [local go_sem] Oper.semAt_some
set_option maxRecDepth 100000

theorem mname20 (x : Int) (w : World) :
    Calls Tryz.prog 20 #[.int .i64 x] w fun e w' => e = .returned (.string (nameX x)) ∧ w = w' := by
  by_cases h0 : x = 0
  · subst h0
    go_enter Tryz.func20, Tryz.ntmps20
    go_wp2
    go_ret
    exact ⟨rfl, rfl⟩
  · by_cases h1 : x = 1
    · subst h1
      go_enter Tryz.func20, Tryz.ntmps20
      go_wp2
      go_ret
      exact ⟨rfl, rfl⟩
    · have e : nameX x = ⟨#[]⟩ := by unfold nameX; rw [if_neg h0, if_neg h1]
      have b0 : (x == 0) = false := by simpa using h0
      have b1 : (x == 1) = false := by simpa using h1
      rw [e]
      clear h0 h1 e
      go_enter Tryz.func20, Tryz.ntmps20
      go_wp2
      go_ret
      exact ⟨rfl, rfl⟩

theorem fromB_exit (t : ByteArray) (s : Int) : fromB t s 1 = fromB t s 0 := rfl
/-- Results with an exit, from one state of a program. -/
theorem from_state {t : ByteArray} {nd : Node} (h : readP t.toList = some nd) {n : Nat} (hn : n ≤ 8) :
    fromN t (n : Int) 0 = ((runR nd (2 ^ n)).1 : Int) ∧ fromB t (n : Int) 0 = true ∧ fromN t (n : Int) 1 = ((runR nd (2 ^ n)).2 : Int) ∧ fromB t (n : Int) 1 = true := by
  have a0 := from_true (t := t) hn 0
  have a1 := from_true (t := t) hn 1
  have b0 := reach_ok h (pow9 (by omega : n < 9)) (x := 0) (.inl rfl)
  have b1 := reach_ok h (pow9 (by omega : n < 9)) (x := 1) (.inr rfl)
  exact ⟨a0.1.trans b0.1, a0.2.trans b0.2, a1.1.trans b1.1, a1.2.trans b1.2⟩
/-- What the law's walk is told of its program: the answers of both sides from one state. -/
structure FromTold (w : World) (t : ByteArray) (F E : Nat → Nat) : Prop where
  pn : ∀ n : Nat, n ≤ 8 → ∀ X : World, Below w.heap.size w X → Calls Tryz.prog 13 #[.string t, .int .i64 (n : Int)] X fun e w' => e = .returned (.tuple #[.int .i64 (F n : Int), .bool true]) ∧ Below X.heap.size X w'
  pe : ∀ n : Nat, n ≤ 8 → ∀ X : World, Below w.heap.size w X → Calls Tryz.prog 14 #[.string t, .int .i64 (n : Int)] X fun e w' => e = .returned (.tuple #[.int .i64 (E n : Int), .bool true]) ∧ Below X.heap.size X w'
  mn : ∀ n : Nat, n ≤ 8 → ∀ X : World, Calls Tryz.prog 15 #[.string t, .int .i64 (n : Int)] X fun e w' => e = .returned (.tuple #[.int .i64 (F n : Int), .bool true]) ∧ Below X.heap.size X w'
  me : ∀ n : Nat, n ≤ 8 → ∀ X : World, Calls Tryz.prog 16 #[.string t, .int .i64 (n : Int)] X fun e w' => e = .returned (.tuple #[.int .i64 (E n : Int), .bool true]) ∧ Below X.heap.size X w'
theorem from_told {t : ByteArray} (ht : t.size ≤ 9000000) {nd : Node} (h : readP t.toList = some nd) {w : World} {N : Nat} (hL : Laid3 N w) :
    FromTold w t (fun s => (runR nd (2 ^ s)).1) (fun s => (runR nd (2 ^ s)).2) where
  pn n hn X hX := by
    have := pnext12 t (n : Int) X (hL.below hX hL.lt)
    rwa [(from_state h hn).1, (from_state h hn).2.1] at this
  pe n hn X hX := by
    have := perrs14 t (n : Int) X (hL.below hX hL.lt)
    rwa [(from_state h hn).2.2.1, (from_state h hn).2.2.2] at this
  mn n hn X := by
    have := mnext11 t ht (n : Int) X
    rwa [(from_state h hn).1, (from_state h hn).2.1] at this
  me n hn X := by
    have := merrs13 t ht (n : Int) X
    rwa [(from_state h hn).2.2.1, (from_state h hn).2.2.2] at this
theorem exit_over {nd : Node} {m : Nat} (hm : m < 512) :
    exitN 0 (runR nd m) = overL (fun s => (runR nd (2 ^ s)).1) (upTo (m : Int) 9) ∧ exitN 1 (runR nd m) = overL (fun s => (runR nd (2 ^ s)).2) (upTo (m : Int) 9) := by
  have h := run_states nd hm
  refine ⟨?_, ?_⟩
  · unfold exitN; rw [if_neg (by decide)]; exact congrArg Prod.fst h
  · unfold exitN; rw [if_pos rfl]; exact congrArg Prod.snd h
theorem reach_pair {t : ByteArray} (ht : t.size ≤ 9000000) {nd : Node} (h : readP t.toList = some nd) {m : Nat} (hm : m < 512) {x : Int} (hx : x = 0 ∨ x = 1) {w : World} {N : Nat} (hL : Laid3 N w) :
    (∀ X : World, Below w.heap.size w X → Calls Tryz.prog 6 #[.string t, .int .i64 (m : Int), .int .i64 x] X fun e w' => e = .returned (.tuple #[.int .i64 ((exitN x (runR nd m) : Nat) : Int), .bool true]) ∧ Below X.heap.size X w') ∧
    (∀ X : World, Calls Tryz.prog 7 #[.string t, .int .i64 (m : Int), .int .i64 x] X fun e w' => e = .returned (.tuple #[.int .i64 ((exitN x (runR nd m) : Nat) : Int), .bool true]) ∧ Below X.heap.size X w') := by
  refine ⟨fun X hX => ?_, fun X => ?_⟩
  · have := preach10 t m x X (hL.below hX hL.lt)
    rwa [(reach_ok h hm hx).1, (reach_ok h hm hx).2] at this
  · have := mreach9 t ht m x X
    rwa [(reach_ok h hm hx).1, (reach_ok h hm hx).2] at this
theorem isSet_nat' {m : Nat} (h : m < 512) : isSet (m : Int) = true := decide_eq_true (by omega)

set_option maxHeartbeats 4000000 in
theorem states_walk (w : World) (a : Option Addr) (len cap : Nat) (hc : Code w.heap.size w a len cap) (hl : len ≤ 1048576) (a2 : Option Addr) (len2 cap2 : Nat) (hc2 : Code w.heap.size w a2 len2 cap2) (hl2 : len2 ≤ 1048576) {N : Nat} (hL : Laid3 N w) :
    Calls Tryz.prog 4 #[.slice a len cap, .slice a2 len2 cap2] w fun e w' => e = .returned (.bool true) ∧ Below w.heap.size w w' := by
  have l1 : (len : Int) ≤ 1048576 := by omega
  have l2 : (len2 : Int) ≤ 1048576 := by omega
  have HC := Lib.hid hc
  have HC2 := Lib.hid hc2
  clear hc hc2
  go_enter Tryz.func4, Tryz.ntmps4
  go_wp2_with fail
  go_at_call 5
  refine (drawR5 HC.out (Nat.le_refl _)).mono ?_
  rintro e W0 ⟨t, s, x, ht, rfl, hcur⟩
  cases hb : reachB t s x with
  | false =>
    have hz := reach_false hb
    have cR := fun (X : World) (hX : Below w.heap.size w X) => preach10 t s x X (hL.below hX hL.lt)
    have cM := fun (X : World) => mreach9 t (by omega) s x X
    simp only [hb, hz] at cR
    simp only [hb] at cM
    clear hb hz ht
    go_wp2_with fail
    go_at_call 6
    refine (cR _ hcur).mono ?_
    rintro e W1 ⟨rfl, hb1⟩
    replace hcur := hcur.trans (hb1.mono hcur.size)
    clear hb1
    go_wp2_with fail
    go_at_call 7
    refine (cM _).mono ?_
    rintro e W2 ⟨rfl, hb1⟩
    replace hcur := hcur.trans (hb1.mono hcur.size)
    clear hb1
    go_wp2_with fail
    go_ret
    exact ⟨rfl, hcur⟩
  | true =>
    obtain ⟨nd, m, hP, hm, rfl, hx, hn⟩ := reach_true hb
    clear hb hn
    obtain ⟨cR, cM⟩ := reach_pair (t := t) (by omega) hP hm hx hL
    have cS := fun (X : World) => si12yes (m : Int) X (isSet_nat' hm)
    have hlen := upTo_len (m : Int) 9
    obtain ⟨F, E, T, o0, o1, hF, hE⟩ : ∃ F E : Nat → Nat, FromTold w t F E ∧ exitN 0 (runR nd m) = overL F (upTo (m : Int) 9) ∧ exitN 1 (runR nd m) = overL E (upTo (m : Int) 9) ∧ (∀ s, s < 9 → F s < 512) ∧ (∀ s, s < 9 → E s < 512) :=
      ⟨_, _, from_told (t := t) (by omega) hP hL, (exit_over hm).1, (exit_over hm).2, fun s hs => (run_lt nd (readP_iff.1 hP).1 _ (pow9 hs)).1, fun s hs => (run_lt nd (readP_iff.1 hP).1 _ (pow9 hs)).2⟩
    have HF := Lib.hid (And.intro hF hE)
    rcases hx with rfl | rfl
    · simp only [o0] at cR cM
      generalize upTo (m : Int) 9 = l at cR cM cS hlen
      clear o0 o1 hP hm ht
      go_wp2_with fail
      go_at_call 6
      refine (cR _ hcur).mono ?_
      rintro e W1 ⟨rfl, hb1⟩
      replace hcur := hcur.trans (hb1.mono hcur.size)
      clear hb1
      go_wp2_with fail
      go_at_call 7
      refine (cM _).mono ?_
      rintro e W2 ⟨rfl, hb1⟩
      replace hcur := hcur.trans (hb1.mono hcur.size)
      clear hb1
      go_wp2_with fail
      go_at_call 12
      refine (cS _).mono ?_
      rintro e W3 ⟨v, rfl, ho, hb1⟩
      replace hcur := hcur.trans (hb1.mono hcur.size)
      clear hb1
      obtain ⟨ad, cap', rfl, hcs⟩ := holds_at ho
      clear ho cS cR cM
      go_wp2_with fail
      go_loopw [12, 78] (fun v i wr => ∃ k : Nat, k ≤ l.length ∧ i = .int .i64 (k : Int) ∧ v = .int .i64 ((overL F (l.take k) : Nat) : Int) ∧ Below W3.heap.size W3 wr) (fun _ i _ => l.length - (intOf i).toNat)
      case atStart => exact ⟨0, by omega, rfl, rfl, Below.refl _ _⟩
      case round =>
        obtain ⟨k, hk, rfl, hv, hB⟩ := hrel
        have hBw := hcur.trans (hB.mono hcur.size)
        by_cases hlt : k < l.length
        · subst hv
          obtain ⟨y, hy⟩ := mem_at9 hlt
          obtain ⟨g, rfl, hg1, hg2, hgc⟩ := hcs k y hy
          have e0 := (hB.cell (p := ⟨g, k, none⟩) hg2).trans hgc
          have hp := Lib.hid (overL_take (f := F) hy)
          have hov := overL_lt HF.out.1 (l.take k)
          have hfx := HF.out.1 y.val y.isLt
          have hor := or_nat (overL F (l.take k)) (F y.val) (by omega) (by omega)
          have hn8 : y.val ≤ 8 := by omega
          have hlt' : (k : Int) < (l.length : Int) := by omega
          have hk0 : (0 : Int) ≤ (k : Int) := by omega
          have hl9 : (l.length : Int) ≤ 9 := by omega
          have n1 := T.pn y.val hn8
          have n2 := T.pe y.val hn8
          have n3 := T.mn y.val hn8
          have n4 := T.me y.val hn8
          generalize overL F (l.take k) = z at hp hov hor
          go_wp2_with (first
            | (go_at_call 13; refine (n1 _ hBw).mono ?_; rintro e X1 ⟨rfl, d1⟩; have D1 := hBw.trans (d1.mono hBw.size))
            | (go_at_call 14; refine (n2 _ D1).mono ?_; rintro e X2 ⟨rfl, d2⟩)
            | (go_at_call 15; refine (n3 _).mono ?_; rintro e X3 ⟨rfl, d3⟩)
            | (go_at_call 16; refine (n4 _).mono ?_; rintro e X4 ⟨rfl, d4⟩))
          go_roundw
          case rel =>
            have E1 := hB.trans (d1.mono hB.size)
            have E2 := E1.trans (d2.mono E1.size)
            have E3 := E2.trans (d3.mono E2.size)
            exact ⟨k + 1, by omega, by go_num, by rw [hp.out], E3.trans (d4.mono E3.size)⟩
          case measure => simp [intOf]; omega
        · obtain rfl : k = l.length := by omega
          rw [List.take_length] at hv
          subst hv
          clear hcs hlt
          go_wp2_with fail
          go_at_call 17
          refine (drawN17 (HC2.out.below hBw) hBw.size).mono ?_
          rintro e Y0 ⟨q, j, hq, rfl, b0⟩
          replace hBw := hBw.trans (b0.mono hBw.size)
          have n1 := fun (X : World) (hX : Below w.heap.size w X) => pnext12 q j X (hL.below hX hL.lt)
          have n2 := fun (X : World) (hX : Below w.heap.size w X) => perrs14 q j X (hL.below hX hL.lt)
          have n3 := fun (X : World) => mnext11 q (by omega) j X
          have n4 := fun (X : World) => merrs13 q (by omega) j X
          simp only [fromB_exit] at n2 n4
          generalize fromN q j 0 = y0 at n1 n3
          generalize fromN q j 1 = y1 at n2 n4
          generalize fromB q j 0 = bo at n1 n2 n3 n4
          clear b0 hq
          go_wp2_with (first
            | (go_at_call 13; refine (n1 _ hBw).mono ?_; rintro e X1 ⟨rfl, d1⟩; have D1 := hBw.trans (d1.mono hBw.size))
            | (go_at_call 14; refine (n2 _ D1).mono ?_; rintro e X2 ⟨rfl, d2⟩)
            | (go_at_call 15; refine (n3 _).mono ?_; rintro e X3 ⟨rfl, d3⟩)
            | (go_at_call 16; refine (n4 _).mono ?_; rintro e X4 ⟨rfl, d4⟩))
          have D2 := D1.trans (d2.mono D1.size)
          have D3 := D2.trans (d3.mono D2.size)
          have D4 := D3.trans (d4.mono D3.size)
          clear D1 D2 D3 d1 d2 d3 d4 n1 n2 n3 n4
          go_at_call 18
          refine (drawX18 (HC2.out.below D4) D4.size).mono ?_
          rintro e Y1 ⟨ex, rfl, b1⟩
          replace D4 := D4.trans (b1.mono D4.size)
          clear b1
          have m1 := pname26 ex
          have m2 := mname20 ex
          generalize nameX ex = nm at m1 m2
          go_wp2_with (first
            | (go_at_call 19; refine (m1 _).mono ?_; rintro e Z1 ⟨rfl, rfl⟩)
            | (go_at_call 20; refine (m2 _).mono ?_; rintro e Z2 ⟨rfl, rfl⟩))
          go_ret
          exact ⟨rfl, D4⟩
    · simp only [o1] at cR cM
      generalize upTo (m : Int) 9 = l at cR cM cS hlen
      clear o0 o1 hP hm ht
      go_wp2_with fail
      go_at_call 6
      refine (cR _ hcur).mono ?_
      rintro e W1 ⟨rfl, hb1⟩
      replace hcur := hcur.trans (hb1.mono hcur.size)
      clear hb1
      go_wp2_with fail
      go_at_call 7
      refine (cM _).mono ?_
      rintro e W2 ⟨rfl, hb1⟩
      replace hcur := hcur.trans (hb1.mono hcur.size)
      clear hb1
      go_wp2_with fail
      go_at_call 12
      refine (cS _).mono ?_
      rintro e W3 ⟨v, rfl, ho, hb1⟩
      replace hcur := hcur.trans (hb1.mono hcur.size)
      clear hb1
      obtain ⟨ad, cap', rfl, hcs⟩ := holds_at ho
      clear ho cS cR cM
      go_wp2_with fail
      go_loopw [12, 78] (fun v i wr => ∃ k : Nat, k ≤ l.length ∧ i = .int .i64 (k : Int) ∧ v = .int .i64 ((overL E (l.take k) : Nat) : Int) ∧ Below W3.heap.size W3 wr) (fun _ i _ => l.length - (intOf i).toNat)
      case atStart => exact ⟨0, by omega, rfl, rfl, Below.refl _ _⟩
      case round =>
        obtain ⟨k, hk, rfl, hv, hB⟩ := hrel
        have hBw := hcur.trans (hB.mono hcur.size)
        by_cases hlt : k < l.length
        · subst hv
          obtain ⟨y, hy⟩ := mem_at9 hlt
          obtain ⟨g, rfl, hg1, hg2, hgc⟩ := hcs k y hy
          have e0 := (hB.cell (p := ⟨g, k, none⟩) hg2).trans hgc
          have hp := Lib.hid (overL_take (f := E) hy)
          have hov := overL_lt HF.out.2 (l.take k)
          have hfx := HF.out.2 y.val y.isLt
          have hor := or_nat (overL E (l.take k)) (E y.val) (by omega) (by omega)
          have hn8 : y.val ≤ 8 := by omega
          have hlt' : (k : Int) < (l.length : Int) := by omega
          have hk0 : (0 : Int) ≤ (k : Int) := by omega
          have hl9 : (l.length : Int) ≤ 9 := by omega
          have n1 := T.pn y.val hn8
          have n2 := T.pe y.val hn8
          have n3 := T.mn y.val hn8
          have n4 := T.me y.val hn8
          generalize overL E (l.take k) = z at hp hov hor
          go_wp2_with (first
            | (go_at_call 13; refine (n1 _ hBw).mono ?_; rintro e X1 ⟨rfl, d1⟩; have D1 := hBw.trans (d1.mono hBw.size))
            | (go_at_call 14; refine (n2 _ D1).mono ?_; rintro e X2 ⟨rfl, d2⟩)
            | (go_at_call 15; refine (n3 _).mono ?_; rintro e X3 ⟨rfl, d3⟩)
            | (go_at_call 16; refine (n4 _).mono ?_; rintro e X4 ⟨rfl, d4⟩))
          go_roundw
          case rel =>
            have E1 := hB.trans (d1.mono hB.size)
            have E2 := E1.trans (d2.mono E1.size)
            have E3 := E2.trans (d3.mono E2.size)
            exact ⟨k + 1, by omega, by go_num, by rw [hp.out], E3.trans (d4.mono E3.size)⟩
          case measure => simp [intOf]; omega
        · obtain rfl : k = l.length := by omega
          rw [List.take_length] at hv
          subst hv
          clear hcs hlt
          go_wp2_with fail
          go_at_call 17
          refine (drawN17 (HC2.out.below hBw) hBw.size).mono ?_
          rintro e Y0 ⟨q, j, hq, rfl, b0⟩
          replace hBw := hBw.trans (b0.mono hBw.size)
          have n1 := fun (X : World) (hX : Below w.heap.size w X) => pnext12 q j X (hL.below hX hL.lt)
          have n2 := fun (X : World) (hX : Below w.heap.size w X) => perrs14 q j X (hL.below hX hL.lt)
          have n3 := fun (X : World) => mnext11 q (by omega) j X
          have n4 := fun (X : World) => merrs13 q (by omega) j X
          simp only [fromB_exit] at n2 n4
          generalize fromN q j 0 = y0 at n1 n3
          generalize fromN q j 1 = y1 at n2 n4
          generalize fromB q j 0 = bo at n1 n2 n3 n4
          clear b0 hq
          go_wp2_with (first
            | (go_at_call 13; refine (n1 _ hBw).mono ?_; rintro e X1 ⟨rfl, d1⟩; have D1 := hBw.trans (d1.mono hBw.size))
            | (go_at_call 14; refine (n2 _ D1).mono ?_; rintro e X2 ⟨rfl, d2⟩)
            | (go_at_call 15; refine (n3 _).mono ?_; rintro e X3 ⟨rfl, d3⟩)
            | (go_at_call 16; refine (n4 _).mono ?_; rintro e X4 ⟨rfl, d4⟩))
          have D2 := D1.trans (d2.mono D1.size)
          have D3 := D2.trans (d3.mono D2.size)
          have D4 := D3.trans (d4.mono D3.size)
          clear D1 D2 D3 d1 d2 d3 d4 n1 n2 n3 n4
          go_at_call 18
          refine (drawX18 (HC2.out.below D4) D4.size).mono ?_
          rintro e Y1 ⟨ex, rfl, b1⟩
          replace D4 := D4.trans (b1.mono D4.size)
          clear b1
          have m1 := pname26 ex
          have m2 := mname20 ex
          generalize nameX ex = nm at m1 m2
          go_wp2_with (first
            | (go_at_call 19; refine (m1 _).mono ?_; rintro e Z1 ⟨rfl, rfl⟩)
            | (go_at_call 20; refine (m2 _).mono ?_; rintro e Z2 ⟨rfl, rfl⟩))
          go_ret
          exact ⟨rfl, D4⟩

theorem long_states (w : World) (a : Option Addr) (len cap : Nat) (a2 : Option Addr) (len2 cap2 : Nat) (h : 1048576 < len ∨ 1048576 < len2) :
    Calls Tryz.prog 4 #[.slice a len cap, .slice a2 len2 cap2] w fun e w' => e = .returned (.bool true) ∧ Below w.heap.size w w' := by
  by_cases h0 : 1048576 < len
  · have h1 : (1048576 : Int) < (len : Int) := by omega
    go_enter Tryz.func4, Tryz.ntmps4
    go_wp2
    go_ret
    exact ⟨rfl, Below.refl _ _⟩
  · have h1 : (len : Int) ≤ 1048576 := by omega
    have h2 : (1048576 : Int) < (len2 : Int) := by omega
    clear h h0
    go_enter Tryz.func4, Tryz.ntmps4
    go_wp2
    go_ret
    exact ⟨rfl, Below.refl _ _⟩

theorem walkFromStates (a0 : Option Addr) (len0 cap0 : Nat) (z0 : List Int) (a1 : Option Addr) (len1 cap1 : Nat) (z1 : List Int) (w : World) (w0 : IsRow .u8 w a0 len0 cap0 z0) (w1 : IsRow .u8 w a1 len1 cap1 z1) {N : Nat} (hL : Laid3 N w) :
    Calls Tryz.prog 4 #[.slice a0 len0 cap0, .slice a1 len1 cap1] w fun e w' => e = .returned (.bool true) ∧ Below w.heap.size w w' := by
  by_cases h : len0 ≤ 1048576 ∧ len1 ≤ 1048576
  · exact states_walk w a0 len0 cap0 (Code.ofRow w0) h.1 a1 len1 cap1 (Code.ofRow w1) h.2 hL
  · exact long_states w a0 len0 cap0 a1 len1 cap1 (by omega)
end Go.Proofs.YtkmfmnolibkmoaaGreatDoor

