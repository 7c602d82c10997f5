/- Chapter 8: the least set before a sure triple; the model. -/
import Derived.Test.YtpepaobgngighabGreatDoorBD
import Derived.Test.YtpepaobgngighabGreatDoorTW
namespace Go.Proofs.YtpepaobgngighabGreatDoor
open Go.ChangeShapes Go.WideShapes Go.ChangeAt Go.RowKit Go.Shelf Go.Maps
attribute [local go_sem] Oper.semAt_some
set_option maxRecDepth 100000

/-- The least triple, as both have it. -/
def leastZ (b : Int) (p : ByteArray) (x r : Int) : Trip := if sureT b p x r = true then ⟨((leastT (fun n => sureT (n : Int) p x r) b.toNat 0 : Nat) : Int), p, x, r⟩ else zeroT
theorem sure_set {b : Int} {p : ByteArray} {x r : Int} (h : sureT b p x r = true) : ∃ m : Nat, m < 512 ∧ b = (m : Int) := by
  unfold sureT at h
  rw [Bool.and_eq_true] at h
  exact set_nat (valid_all h.1).1

set_option maxHeartbeats 2000000 in
theorem pstart (b : Int) (p : ByteArray) (x r s : Int) (w : World) :
    Calls Tryz.prog 22 #[.agg #[.int .i64 b, .string p, .int .i64 x, .int .i64 r], .int .i64 s] w fun e w' => e = .returned (.agg #[.int .i64 s, .string p, .int .i64 x, .int .i64 r]) ∧ Below w.heap.size w w' := by
  go_enter Tryz.func22, Tryz.ntmps22
  go_wp2
  exact bodyPost_ret (v := .agg #[.int .i64 s, .string p, .int .i64 x, .int .i64 r]) (by simp [results, Tryz.results22, go_sem]) rfl ⟨rfl, ((Below.refl _ w).alloc (Nat.le_refl _) _).alloc (by simp) _⟩
/-- The argument's variable and the result's. -/
theorem two_trips (w : World) (b : Int) (p : ByteArray) (x r : Int) :
    TripAt ((w.alloc (.cells #[.int .i64 b, .string p, .int .i64 x, .int .i64 r] 25)).alloc (.cells #[.int .i64 0, .string ⟨#[]⟩, .int .i64 0, .int .i64 0] 25)) w.heap.size b p x r ∧
    TripAt ((w.alloc (.cells #[.int .i64 b, .string p, .int .i64 x, .int .i64 r] 25)).alloc (.cells #[.int .i64 0, .string ⟨#[]⟩, .int .i64 0, .int .i64 0] 25)) (w.heap.size + 1) 0 ⟨#[]⟩ 0 0 ∧
    Below w.heap.size w ((w.alloc (.cells #[.int .i64 b, .string p, .int .i64 x, .int .i64 r] 25)).alloc (.cells #[.int .i64 0, .string ⟨#[]⟩, .int .i64 0, .int .i64 0] 25)) := by
  have hA : Below w.heap.size w (w.alloc (.cells #[.int .i64 b, .string p, .int .i64 x, .int .i64 r] 25)) := (Below.refl _ w).alloc (Nat.le_refl _) _
  have hB : Below (w.alloc (.cells #[.int .i64 b, .string p, .int .i64 x, .int .i64 r] 25)).heap.size (w.alloc (.cells #[.int .i64 b, .string p, .int .i64 x, .int .i64 r] 25)) ((w.alloc (.cells #[.int .i64 b, .string p, .int .i64 x, .int .i64 r] 25)).alloc (.cells #[.int .i64 0, .string ⟨#[]⟩, .int .i64 0, .int .i64 0] 25)) := (Below.refl _ _).alloc (Nat.le_refl _) _
  have h2 := TripAt.new (w.alloc (.cells #[.int .i64 b, .string p, .int .i64 x, .int .i64 r] 25)) 0 ⟨#[]⟩ 0 0
  rw [World.size_alloc] at h2
  exact ⟨(TripAt.new w b p x r).below hB (TripAt.new w b p x r).lt, h2, hA.alloc hA.size _⟩
theorem set4_other {U : World} {g g' : Nat} {b0 : Int} {p0 : ByteArray} {x0 r0 : Int} (hne : g' ≠ g) (h : TripAt U g' b0 p0 x0 r0) (b : Int) (p : ByteArray) (x r : Int) : TripAt (set4 U g b p x r) g' b0 p0 x0 r0 := by
  have H : ∀ (Z : World) (o : Nat) (u : Value), (Z.setCell ⟨g, o, none⟩ u).heap[g']? = Z.heap[g']? := fun Z o u => heap_setCell_other Z _ g' u (by simpa using hne)
  unfold TripAt set4 at *
  rw [H, H, H, H]
  exact h
set_option maxHeartbeats 2000000 in
theorem mleast_no (b : Int) (p : ByteArray) (hp : p.size ≤ 9000000) (x r : Int) (w : World) (h : sureT b p x r = false) :
    Calls Tryz.prog 6 #[.agg #[.int .i64 b, .string p, .int .i64 x, .int .i64 r]] w fun e w' => e = .returned (.tuple #[.agg #[.int .i64 0, .string ⟨#[]⟩, .int .i64 0, .int .i64 0], .bool false]) ∧ Below w.heap.size w w' := by
  have hs := fun X => msure21 b p hp x r X
  rw [h] at hs
  clear h
  go_enter Tryz.func6, Tryz.ntmps6
  obtain ⟨hT, hR, hA⟩ := two_trips w b p x r
  go_wp2_with (go_at_call 19; refine (hs _).mono ?_; rintro e W1 ⟨rfl, hb⟩; have hR1 := hR.below hb hR.lt; obtain ⟨c0, c1, c2, c3⟩ := hR1.cells; obtain ⟨f0, f1, f2, f3⟩ := hR1.frozen)
  obtain ⟨d0, d1, d2, d3⟩ := (set4_trip hR1 0 ⟨#[]⟩ 0 0).cells
  have hB := set4_below (hA.trans (hb.mono hA.size)) (Nat.le_succ _) 0 ⟨#[]⟩ 0 0
  unfold set4 at d0 d1 d2 d3 hB
  exact bodyPost_ret (v := .tuple #[.agg #[.int .i64 0, .string ⟨#[]⟩, .int .i64 0, .int .i64 0], .bool false]) (by simp [results, Tryz.results6, go_sem, d0, d1, d2, d3]) rfl ⟨rfl, hB⟩
set_option maxHeartbeats 2000000 in
theorem mleast_yes (b : Nat) (p : ByteArray) (hp : p.size ≤ 9000000) (x r : Int) (w : World) (hb9 : b < 512) (h : sureT (b : Int) p x r = true) :
    Calls Tryz.prog 6 #[.agg #[.int .i64 (b : Int), .string p, .int .i64 x, .int .i64 r]] w fun e w' => e = .returned (.tuple #[.agg #[.int .i64 ((leastT (fun n => sureT (n : Int) p x r) b 0 : Nat) : Int), .string p, .int .i64 x, .int .i64 r], .bool true]) ∧ Below w.heap.size w w' := by
  have hs := fun (n : Nat) X => msure21 (n : Int) p hp x r X
  have hs0 := hs b
  rw [h] at hs0
  clear h
  generalize hS : (fun n : Nat => sureT (n : Int) p x r) = S
  have hs1 : ∀ (n : Nat) X, Calls Tryz.prog 19 #[.agg #[.int .i64 (n : Int), .string p, .int .i64 x, .int .i64 r]] X fun e w' => e = .returned (.bool (S n)) ∧ Below X.heap.size X w' := by rw [← hS]; exact hs
  clear hs hS
  obtain ⟨hT, hR, hA⟩ := two_trips w (b : Int) p x r
  go_enter Tryz.func6, Tryz.ntmps6
  go_wp2_with (go_at_call 19; refine (hs0 _).mono ?_; rintro e W1 ⟨rfl, hb⟩)
  have hT1 := hT.below hb hT.lt
  have hR1 := hR.below hb hR.lt
  have hA1 := hA.trans (hb.mono hA.size)
  clear hT hR hA hb hs0
  go_loopw [4] (fun i wr => ∃ k : Nat, k ≤ 9 ∧ i = .int .i64 ((k : Int) - 1) ∧ TripAt wr w.heap.size ((leastT S b k : Nat) : Int) p x r ∧ TripAt wr (w.heap.size + 1) 0 ⟨#[]⟩ 0 0 ∧ Below w.heap.size w wr) (fun i _ => (intOf i + 1).toNat)
  case atStart => exact ⟨9, by omega, rfl, hT1, hR1, hA1⟩
  case round =>
    obtain ⟨k, hk, rfl, hT, hR, hA⟩ := hrel
    cases k with
    | zero =>
      rw [show ((0 : Nat) : Int) - 1 = -1 from rfl]
      obtain ⟨c0, c1, c2, c3⟩ := hT.cells
      obtain ⟨q0, q1, q2, q3⟩ := hR.cells
      obtain ⟨f0, f1, f2, f3⟩ := hR.frozen
      go_wp2_with fail
      obtain ⟨d0, d1, d2, d3⟩ := (set4_trip hR ((leastT S b 0 : Nat) : Int) p x r).cells
      have hB := set4_below hA (Nat.le_succ _) ((leastT S b 0 : Nat) : Int) p x r
      unfold set4 at d0 d1 d2 d3 hB
      exact bodyPost_ret (v := .tuple #[.agg #[.int .i64 ((leastT S b 0 : Nat) : Int), .string p, .int .i64 x, .int .i64 r], .bool true]) (by simp [results, Tryz.results6, go_sem, d0, d1, d2, d3]) rfl ⟨rfl, hB⟩
    | succ k =>
      rw [show ((k + 1 : Nat) : Int) - 1 = (k : Int) by omega]
      have hlt : k < 9 := by omega
      have k8i : (k : Int) ≤ 8 := by omega
      have k0i : (0 : Int) ≤ (k : Int) := by omega
      have hstep := leastT_step S b hlt
      have hl := leastA_lt S hb9 (9 - (k + 1))
      change leastT S b (k + 1) < 512 at hl
      have hsh := shl_state (n := k) (by omega)
      have hdr := drop_nat hl hlt
      obtain ⟨c0, c1, c2, c3⟩ := hT.cells
      obtain ⟨f0, f1, f2, f3⟩ := hT.frozen
      unfold leastS at hstep
      have hI := hs1 (dropN (leastT S b (k + 1)) k)
      generalize leastT S b (k + 1) = c at hT hstep hdr hl hI c0
      generalize dropN c k = d at hstep hdr hI
      generalize (2 : Nat) ^ k = q at hsh hdr
      have k0 := cellAlloc (.cells #[.int .i64 (c : Int), .string p, .int .i64 x, .int .i64 r] 25) c0
      have hL := TripAt.new wr (d : Int) p x r
      have hAL : Below wr.heap.size wr (wr.alloc (.cells #[.int .i64 (d : Int), .string p, .int .i64 x, .int .i64 r] 25)) := (Below.refl _ _).alloc (Nat.le_refl _) _
      have hTL := hT.below hAL hT.lt
      have hRL := hR.below hAL hR.lt
      cases hd : S d with
      | false =>
        rw [hd] at hstep hI
        rw [if_neg (by simp)] at hstep
        go_wp2_with (go_at_call 19; refine (hI _).mono ?_; rintro e W2 ⟨rfl, hb2⟩)
        go_roundw
        case rel => exact ⟨k, by omega, by first | rfl | go_num, by rw [hstep]; exact hTL.below hb2 hTL.lt, hRL.below hb2 hRL.lt, (hA.trans (hAL.mono hA.size)).trans (hb2.mono (Nat.le_trans hA.size hAL.size))⟩
        case measure => (simp [intOf] <;> omega)
      | true =>
        rw [hd] at hstep hI
        rw [if_pos rfl] at hstep
        go_wp2_with (go_at_call 19; refine (hI _).mono ?_; rintro e W2 ⟨rfl, hb2⟩; obtain ⟨m0, m1, m2, m3⟩ := (hL.below hb2 hL.lt).cells; obtain ⟨n0, n1, n2, n3⟩ := (hTL.below hb2 hTL.lt).cells; obtain ⟨e0, e1, e2, e3⟩ := (hTL.below hb2 hTL.lt).frozen)
        go_roundw
        case rel => exact ⟨k, by omega, by first | rfl | go_num, by rw [hstep]; exact set4_trip (hTL.below hb2 hTL.lt) (d : Int) p x r, set4_other (by omega) (hRL.below hb2 hRL.lt) (d : Int) p x r, set4_below ((hA.trans (hAL.mono hA.size)).trans (hb2.mono (Nat.le_trans hA.size hAL.size))) (Nat.le_refl _) (d : Int) p x r⟩
        case measure => (simp [intOf] <;> omega)
/-- **THE MODEL's LeastBefore.** -/
theorem mleast (b : Int) (p : ByteArray) (hp : p.size ≤ 9000000) (x r : Int) (w : World) :
    Calls Tryz.prog 6 #[.agg #[.int .i64 b, .string p, .int .i64 x, .int .i64 r]] w fun e w' => e = .returned (.tuple #[.agg #[.int .i64 (leastZ b p x r).b, .string (leastZ b p x r).p, .int .i64 (leastZ b p x r).x, .int .i64 (leastZ b p x r).r], .bool (sureT b p x r)]) ∧ Below w.heap.size w w' := by
  cases h : sureT b p x r with
  | false =>
    have e : leastZ b p x r = zeroT := by unfold leastZ; rw [h]; rfl
    rw [e]
    exact mleast_no b p hp x r w h
  | true =>
    obtain ⟨m, hm, rfl⟩ := sure_set h
    have e : leastZ (m : Int) p x r = ⟨((leastT (fun n => sureT (n : Int) p x r) m 0 : Nat) : Int), p, x, r⟩ := by unfold leastZ; rw [h, if_pos rfl, Int.toNat_natCast]
    rw [e]
    exact mleast_yes m p hp x r w hm h
end Go.Proofs.YtpepaobgngighabGreatDoor

