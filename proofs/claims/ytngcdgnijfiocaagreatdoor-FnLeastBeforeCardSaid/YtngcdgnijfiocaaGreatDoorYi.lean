/- Chapter 8, the program: the states of a set in descending order. Chapter 8: the least set before a sure triple; the model. Chapter 8: the least set before a sure triple; the program, and the walk. Chapter 8: the least set before a sure triple; the program for every triple, and the walk. -/
import Derived.Test.YtngcdgnijfiocaaGreatDoorBD0
import Derived.Test.YtngcdgnijfiocaaGreatDoorYd
namespace Go.Proofs.YtngcdgnijfiocaaGreatDoor
open Go.ChangeShapes Go.WideShapes Go.ChangeAt Go.RowKit Go.Shelf
attribute [local go_sem] Oper.semAt_some
set_option maxRecDepth 100000

set_option maxHeartbeats 1000000 in
/-- **(stateSet).backward: FOR EVERY LOOP BODY THAT KEEPS THE CAPTURED SET.** -/
theorem backward_in (n : Nat) (hn : 1 ≤ n) (l Bn : Nat) (s : Int) (J Jx : List (Fin 9) → World → Prop)
    (hY : ∀ pre x W, J pre W → pre.length < 9 → YieldAt Fence.wide (n - 1) Tryz.prog l (encs x) W fun e W' =>
      (e = .returned (.bool true) ∧ J (pre ++ [x]) W' ∧ KpB Bn W W') ∨ (e = .returned (.bool false) ∧ Jx (pre ++ [x]) W'))
    (W : World) (hB : W.cell? ⟨Bn, 0, none⟩ = some (.int .i64 s)) (hJ0 : J [] W) :
    CallsIn Fence.wide n Tryz.prog 84 #[.func (.yield l) #[] #[], .pointer (some ⟨Bn, 0, none⟩)] W fun e W' => (∃ v, e = .returned v) ∧
      ((∃ ys, ys = topL s 0 ∧ J ys W') ∨ (∃ pre, pre <+: topL s 0 ∧ Jx pre W')) := by
  refine callsIn_of_wp Tryz.func84 rfl trivial ?_ rfl
  simp only [Tryz.ntmps84, List.size_toArray, List.length_cons, List.length_nil, Nat.reduceAdd, Nat.reduceSub, Array.replicate_succ, Array.replicate_zero, List.push_toArray, List.append_toArray, List.nil_append, List.cons_append]
  gi_wp2
  gi_loopw [3] (fun i wr => ∃ k : Nat, k ≤ 9 ∧ i = .int .i64 ((k : Int) - 1) ∧ wr.cell? ⟨Bn, 0, none⟩ = some (.int .i64 s) ∧ J (topL s k) wr) (fun i _ => (intOf i + 1).toNat)
  case atStart =>
    exact ⟨9, by omega, rfl, hB, hJ0⟩
  case round =>
    obtain ⟨k, hk, rfl, hc, hJ⟩ := hrel
    cases k with
    | zero =>
      rw [show ((0 : Nat) : Int) - 1 = -1 from rfl]
      gi_wp2
      go_end0
      exact ⟨⟨_, rfl⟩, .inl ⟨_, rfl, hJ⟩⟩
    | succ k =>
      rw [show ((k + 1 : Nat) : Int) - 1 = (k : Int) by omega]
      have hlt : k < 9 := by omega
      have k8 : k ≤ 8 := by omega
      have k8i : (k : Int) ≤ 8 := by omega
      have k0i : (0 : Int) ≤ (k : Int) := by omega
      cases hh : hasB s k with
      | false =>
        have hu := Lib.hid (topL_miss s hlt hh)
        gi_wp2_with (refine ⟨trivial, ?_⟩; gi_at_call 85; refine (callsIn_wide.2 (has46 s k _ k8)).mono ?_; rintro e w' ⟨rfl, rfl⟩)
        refine ⟨fun _ h => (by cases h), ?_⟩
        gi_wp2
        go_roundw
        case rel => exact ⟨k, by omega, by first | rfl | go_num, hc, by rw [hu.out]; exact hJ⟩
        case measure => (simp [intOf] <;> omega)
      | true =>
        have hu := Lib.hid (topL_hit s hlt hh)
        obtain ⟨fn, tmps, assign, body, hy, hR⟩ := hY (topL s (k + 1)) ⟨k, hlt⟩ wr hJ (by have := topL_len s (k := k + 1) (by omega); omega)
        dsimp only [encs] at hy
        gi_wp2_with (refine ⟨trivial, ?_⟩; gi_at_call 85; refine (callsIn_wide.2 (has46 s k _ k8)).mono ?_; rintro e w' ⟨rfl, rfl⟩)
        refine hR.mono ?_
        rintro e W3 (⟨rfl, hJ3, hk3⟩ | ⟨rfl, hJx3⟩)
        · have hc3 : W3.cell? ⟨Bn, 0, none⟩ = some (.int .i64 s) := (World.cell?_of_block (w := wr) (w' := W3) (a := ⟨Bn, 0, none⟩) hk3).trans hc
          gi_wp2
          go_roundw
          case rel => exact ⟨k, by omega, by first | rfl | go_num, hc3, by rw [hu.out]; exact hJ3⟩
          case measure => (simp [intOf] <;> omega)
        · gi_wp2
          refine bodyPost_ret (results_none rfl _ _ _) rfl ?_
          refine ⟨⟨_, rfl⟩, .inr ⟨topL s (k + 1) ++ [⟨k, hlt⟩], ?_, hJx3⟩⟩
          have hp := topL_prefix s (k := k) (by omega)
          rw [hu.out] at hp
          exact hp

/-- The maker: the set is boxed; the function value captures the box. -/
theorem bmaker_in (n : Nat) (s : Int) (w : World) :
    CallsIn Fence.wide n Tryz.prog 47 #[.int .i64 s] w fun e w' => e = .returned (.func (.func 84) #[] #[.pointer (some ⟨w.heap.size, 0, none⟩)]) ∧ w' = w.alloc (.cells #[.int .i64 s] 69) := by
  refine callsIn_of_wp Tryz.func47 rfl trivial ?_ rfl
  simp only [Tryz.ntmps47, List.size_toArray, List.length_cons, List.length_nil, Nat.reduceAdd, Nat.reduceSub, Array.replicate_succ, Array.replicate_zero, List.push_toArray, List.append_toArray, List.nil_append, List.cons_append]
  gi_wp2
  go_ret
  exact ⟨rfl, rfl⟩
theorem backward_stops (n : Nat) (hn : 1 ≤ n) (Bn : Nat) (s : Int) (w : World) (hBn : Bn < w.heap.size) (hc : w.cell? ⟨Bn, 0, none⟩ = some (.int .i64 s)) :
    SeqStopsK Fence.wide n Tryz.prog 84 #[.pointer (some ⟨Bn, 0, none⟩)] encs (KpB Bn) (fun ys => ys = topL s 0) (fun pre => pre <+: topL s 0) 9 w := fun l J Jx W hW _ _ hY h0 =>
  backward_in n hn l Bn s J Jx hY W ((hW.cell (p := ⟨Bn, 0, none⟩) hBn).trans hc) h0

end Go.Proofs.YtngcdgnijfiocaaGreatDoor

namespace Go.Proofs.YtngcdgnijfiocaaGreatDoor
open Go.ChangeShapes Go.WideShapes Go.ChangeAt Go.RowKit Go.Shelf Go.Maps
attribute [local go_sem] Oper.semAt_some
set_option maxRecDepth 100000

/-- The least triple, as both have it. -/
def leastZ (b : Int) (p : ByteArray) (x r : Int) : Trip := if sureT b p x r = true then ⟨((leastT (fun n => sureT (n : Int) p x r) b.toNat 0 : Nat) : Int), p, x, r⟩ else zeroT
theorem sure_set {b : Int} {p : ByteArray} {x r : Int} (h : sureT b p x r = true) : ∃ m : Nat, m < 512 ∧ b = (m : Int) := by
  unfold sureT at h
  rw [Bool.and_eq_true] at h
  exact set_nat (valid_all h.1).1

set_option maxHeartbeats 2000000 in
theorem pstart (b : Int) (p : ByteArray) (x r s : Int) (w : World) :
    Calls Tryz.prog 48 #[.agg #[.int .i64 b, .string p, .int .i64 x, .int .i64 r], .int .i64 s] w fun e w' => e = .returned (.agg #[.int .i64 s, .string p, .int .i64 x, .int .i64 r]) ∧ Below w.heap.size w w' := by
  go_enter Tryz.func48, Tryz.ntmps48
  go_wp2
  exact bodyPost_ret (v := .agg #[.int .i64 s, .string p, .int .i64 x, .int .i64 r]) (by simp [results, Tryz.results48, go_sem]) rfl ⟨rfl, ((Below.refl _ w).alloc (Nat.le_refl _) _).alloc (by simp) _⟩
/-- The argument's variable and the result's. -/
theorem two_trips (w : World) (b : Int) (p : ByteArray) (x r : Int) :
    TripAt ((w.alloc (.cells #[.int .i64 b, .string p, .int .i64 x, .int .i64 r] 33)).alloc (.cells #[.int .i64 0, .string ⟨#[]⟩, .int .i64 0, .int .i64 0] 33)) w.heap.size b p x r ∧
    TripAt ((w.alloc (.cells #[.int .i64 b, .string p, .int .i64 x, .int .i64 r] 33)).alloc (.cells #[.int .i64 0, .string ⟨#[]⟩, .int .i64 0, .int .i64 0] 33)) (w.heap.size + 1) 0 ⟨#[]⟩ 0 0 ∧
    Below w.heap.size w ((w.alloc (.cells #[.int .i64 b, .string p, .int .i64 x, .int .i64 r] 33)).alloc (.cells #[.int .i64 0, .string ⟨#[]⟩, .int .i64 0, .int .i64 0] 33)) := by
  have hA : Below w.heap.size w (w.alloc (.cells #[.int .i64 b, .string p, .int .i64 x, .int .i64 r] 33)) := (Below.refl _ w).alloc (Nat.le_refl _) _
  have hB : Below (w.alloc (.cells #[.int .i64 b, .string p, .int .i64 x, .int .i64 r] 33)).heap.size (w.alloc (.cells #[.int .i64 b, .string p, .int .i64 x, .int .i64 r] 33)) ((w.alloc (.cells #[.int .i64 b, .string p, .int .i64 x, .int .i64 r] 33)).alloc (.cells #[.int .i64 0, .string ⟨#[]⟩, .int .i64 0, .int .i64 0] 33)) := (Below.refl _ _).alloc (Nat.le_refl _) _
  have h2 := TripAt.new (w.alloc (.cells #[.int .i64 b, .string p, .int .i64 x, .int .i64 r] 33)) 0 ⟨#[]⟩ 0 0
  rw [World.size_alloc] at h2
  exact ⟨(TripAt.new w b p x r).below hB (TripAt.new w b p x r).lt, h2, hA.alloc hA.size _⟩
theorem set4_other {U : World} {g g' : Nat} {b0 : Int} {p0 : ByteArray} {x0 r0 : Int} (hne : g' ≠ g) (h : TripAt U g' b0 p0 x0 r0) (b : Int) (p : ByteArray) (x r : Int) : TripAt (set4 U g b p x r) g' b0 p0 x0 r0 := by
  have H : ∀ (Z : World) (o : Nat) (u : Value), (Z.setCell ⟨g, o, none⟩ u).heap[g']? = Z.heap[g']? := fun Z o u => heap_setCell_other Z _ g' u (by simpa using hne)
  unfold TripAt set4 at *
  rw [H, H, H, H]
  exact h
set_option maxHeartbeats 2000000 in
theorem mleast_no (b : Int) (p : ByteArray) (hp : p.size ≤ 9000000) (x r : Int) (w : World) (h : sureT b p x r = false) :
    Calls Tryz.prog 14 #[.agg #[.int .i64 b, .string p, .int .i64 x, .int .i64 r]] w fun e w' => e = .returned (.tuple #[.agg #[.int .i64 0, .string ⟨#[]⟩, .int .i64 0, .int .i64 0], .bool false]) ∧ Below w.heap.size w w' := by
  have hs := fun X => msure21 b p hp x r X
  rw [h] at hs
  clear h
  go_enter Tryz.func14, Tryz.ntmps14
  obtain ⟨hT, hR, hA⟩ := two_trips w b p x r
  go_wp2_with (go_at_call 50; refine (hs _).mono ?_; rintro e W1 ⟨rfl, hb⟩; have hR1 := hR.below hb hR.lt; obtain ⟨c0, c1, c2, c3⟩ := hR1.cells; obtain ⟨f0, f1, f2, f3⟩ := hR1.frozen)
  obtain ⟨d0, d1, d2, d3⟩ := (set4_trip hR1 0 ⟨#[]⟩ 0 0).cells
  have hB := set4_below (hA.trans (hb.mono hA.size)) (Nat.le_succ _) 0 ⟨#[]⟩ 0 0
  unfold set4 at d0 d1 d2 d3 hB
  exact bodyPost_ret (v := .tuple #[.agg #[.int .i64 0, .string ⟨#[]⟩, .int .i64 0, .int .i64 0], .bool false]) (by simp [results, Tryz.results14, go_sem, d0, d1, d2, d3]) rfl ⟨rfl, hB⟩
set_option maxHeartbeats 2000000 in
theorem mleast_yes (b : Nat) (p : ByteArray) (hp : p.size ≤ 9000000) (x r : Int) (w : World) (hb9 : b < 512) (h : sureT (b : Int) p x r = true) :
    Calls Tryz.prog 14 #[.agg #[.int .i64 (b : Int), .string p, .int .i64 x, .int .i64 r]] w fun e w' => e = .returned (.tuple #[.agg #[.int .i64 ((leastT (fun n => sureT (n : Int) p x r) b 0 : Nat) : Int), .string p, .int .i64 x, .int .i64 r], .bool true]) ∧ Below w.heap.size w w' := by
  have hs := fun (n : Nat) X => msure21 (n : Int) p hp x r X
  have hs0 := hs b
  rw [h] at hs0
  clear h
  generalize hS : (fun n : Nat => sureT (n : Int) p x r) = S
  have hs1 : ∀ (n : Nat) X, Calls Tryz.prog 50 #[.agg #[.int .i64 (n : Int), .string p, .int .i64 x, .int .i64 r]] X fun e w' => e = .returned (.bool (S n)) ∧ Below X.heap.size X w' := by rw [← hS]; exact hs
  clear hs hS
  obtain ⟨hT, hR, hA⟩ := two_trips w (b : Int) p x r
  go_enter Tryz.func14, Tryz.ntmps14
  go_wp2_with (go_at_call 50; refine (hs0 _).mono ?_; rintro e W1 ⟨rfl, hb⟩)
  have hT1 := hT.below hb hT.lt
  have hR1 := hR.below hb hR.lt
  have hA1 := hA.trans (hb.mono hA.size)
  clear hT hR hA hb hs0
  go_loopw [4] (fun i wr => ∃ k : Nat, k ≤ 9 ∧ i = .int .i64 ((k : Int) - 1) ∧ TripAt wr w.heap.size ((leastT S b k : Nat) : Int) p x r ∧ TripAt wr (w.heap.size + 1) 0 ⟨#[]⟩ 0 0 ∧ Below w.heap.size w wr) (fun i _ => (intOf i + 1).toNat)
  case atStart => exact ⟨9, by omega, rfl, hT1, hR1, hA1⟩
  case round =>
    obtain ⟨k, hk, rfl, hT, hR, hA⟩ := hrel
    cases k with
    | zero =>
      rw [show ((0 : Nat) : Int) - 1 = -1 from rfl]
      obtain ⟨c0, c1, c2, c3⟩ := hT.cells
      obtain ⟨q0, q1, q2, q3⟩ := hR.cells
      obtain ⟨f0, f1, f2, f3⟩ := hR.frozen
      go_wp2_with fail
      obtain ⟨d0, d1, d2, d3⟩ := (set4_trip hR ((leastT S b 0 : Nat) : Int) p x r).cells
      have hB := set4_below hA (Nat.le_succ _) ((leastT S b 0 : Nat) : Int) p x r
      unfold set4 at d0 d1 d2 d3 hB
      exact bodyPost_ret (v := .tuple #[.agg #[.int .i64 ((leastT S b 0 : Nat) : Int), .string p, .int .i64 x, .int .i64 r], .bool true]) (by simp [results, Tryz.results14, go_sem, d0, d1, d2, d3]) rfl ⟨rfl, hB⟩
    | succ k =>
      rw [show ((k + 1 : Nat) : Int) - 1 = (k : Int) by omega]
      have hlt : k < 9 := by omega
      have k8i : (k : Int) ≤ 8 := by omega
      have k0i : (0 : Int) ≤ (k : Int) := by omega
      have hstep := leastT_step S b hlt
      have hl := leastA_lt S hb9 (9 - (k + 1))
      change leastT S b (k + 1) < 512 at hl
      have hsh := shl_state (n := k) (by omega)
      have hdr := drop_nat hl hlt
      obtain ⟨c0, c1, c2, c3⟩ := hT.cells
      obtain ⟨f0, f1, f2, f3⟩ := hT.frozen
      unfold leastS at hstep
      have hI := hs1 (dropN (leastT S b (k + 1)) k)
      generalize leastT S b (k + 1) = c at hT hstep hdr hl hI c0
      generalize dropN c k = d at hstep hdr hI
      generalize (2 : Nat) ^ k = q at hsh hdr
      have k0 := cellAlloc (.cells #[.int .i64 (c : Int), .string p, .int .i64 x, .int .i64 r] 33) c0
      have hL := TripAt.new wr (d : Int) p x r
      have hAL : Below wr.heap.size wr (wr.alloc (.cells #[.int .i64 (d : Int), .string p, .int .i64 x, .int .i64 r] 33)) := (Below.refl _ _).alloc (Nat.le_refl _) _
      have hTL := hT.below hAL hT.lt
      have hRL := hR.below hAL hR.lt
      cases hd : S d with
      | false =>
        rw [hd] at hstep hI
        rw [if_neg (by simp)] at hstep
        go_wp2_with (go_at_call 50; refine (hI _).mono ?_; rintro e W2 ⟨rfl, hb2⟩)
        go_roundw
        case rel => exact ⟨k, by omega, by first | rfl | go_num, by rw [hstep]; exact hTL.below hb2 hTL.lt, hRL.below hb2 hRL.lt, (hA.trans (hAL.mono hA.size)).trans (hb2.mono (Nat.le_trans hA.size hAL.size))⟩
        case measure => (simp [intOf] <;> omega)
      | true =>
        rw [hd] at hstep hI
        rw [if_pos rfl] at hstep
        go_wp2_with (go_at_call 50; refine (hI _).mono ?_; rintro e W2 ⟨rfl, hb2⟩; obtain ⟨m0, m1, m2, m3⟩ := (hL.below hb2 hL.lt).cells; obtain ⟨n0, n1, n2, n3⟩ := (hTL.below hb2 hTL.lt).cells; obtain ⟨e0, e1, e2, e3⟩ := (hTL.below hb2 hTL.lt).frozen)
        go_roundw
        case rel => exact ⟨k, by omega, by first | rfl | go_num, by rw [hstep]; exact set4_trip (hTL.below hb2 hTL.lt) (d : Int) p x r, set4_other (by omega) (hRL.below hb2 hRL.lt) (d : Int) p x r, set4_below ((hA.trans (hAL.mono hA.size)).trans (hb2.mono (Nat.le_trans hA.size hAL.size))) (Nat.le_refl _) (d : Int) p x r⟩
        case measure => (simp [intOf] <;> omega)
/-- **THE MODEL's LeastBefore.** -/
theorem mleast (b : Int) (p : ByteArray) (hp : p.size ≤ 9000000) (x r : Int) (w : World) :
    Calls Tryz.prog 14 #[.agg #[.int .i64 b, .string p, .int .i64 x, .int .i64 r]] w fun e w' => e = .returned (.tuple #[.agg #[.int .i64 (leastZ b p x r).b, .string (leastZ b p x r).p, .int .i64 (leastZ b p x r).x, .int .i64 (leastZ b p x r).r], .bool (sureT b p x r)]) ∧ Below w.heap.size w w' := by
  cases h : sureT b p x r with
  | false =>
    have e : leastZ b p x r = zeroT := by unfold leastZ; rw [h]; rfl
    rw [e]
    exact mleast_no b p hp x r w h
  | true =>
    obtain ⟨m, hm, rfl⟩ := sure_set h
    have e : leastZ (m : Int) p x r = ⟨((leastT (fun n => sureT (n : Int) p x r) m 0 : Nat) : Int), p, x, r⟩ := by unfold leastZ; rw [h, if_pos rfl, Int.toNat_natCast]
    rw [e]
    exact mleast_yes m p hp x r w hm h
end Go.Proofs.YtngcdgnijfiocaaGreatDoor

namespace Go.Proofs.YtngcdgnijfiocaaGreatDoor
open Go.ChangeShapes Go.WideShapes Go.ChangeAt Go.RowKit Go.Shelf Go.Maps
attribute [local go_sem] Oper.semAt_some
set_option maxRecDepth 100000

/-! ### A region that draws its order, within a round of a loop over a function -/
theorem upon_round {F : Fence} {n : Nat} {P : Program} {o : Oper} {a : Act} {next : Act → World → Prop} {Q : Exit → Act → World → Prop} {r : Result Next} (l : Nat) (h : Oper.uponIn F n P o a next Q r) : Oper.uponIn (F.inRound l) n P o a next Q r := h
theorem oper_round {F : Fence} {n : Nat} {P : Program} {o : Oper} {a : Act} {w : World} {K K' : Act → World → Prop} {Q : Exit → Act → World → Prop} (l : Nat) (hro : F.round = none) (hnd : ∀ c, o.op ≠ .defer c) (hK : ∀ a w, K a w → K' a w) (h : o.wpIn F n P a w K Q) : o.wpIn (F.inRound l) n P a w K' Q := by
  obtain ⟨h1, h2⟩ := Oper.wpIn_mono hK h
  refine ⟨h1, ?_⟩
  rw [hro, Oper.semAt_none] at h2
  show Oper.uponIn (F.inRound l) n P o a K' Q ((Oper.semAt (some l) a.eval o).run P w)
  rw [Oper.semAt_some l _ _ hnd]
  exact upon_round l h2
def noDefer (o : Oper) : Bool := match o.op with
  | .defer _ => false
  | _ => true
theorem noDefer_spec {o : Oper} (h : noDefer o = true) : ∀ c, o.op ≠ .defer c := by
  intro c e
  unfold noDefer at h
  rw [e] at h
  cases h
theorem any_round {F : Fence} {n : Nat} {P : Program} {md : Region.Mode} {ops : Array Oper} {Q : Exit → Act → World → Prop} (l : Nat) (hro : F.round = none) (hnd : ops.all noDefer = true) : ∀ (fuel : Nat) (listed : Array Bool) (a : Act) (w : World), wpAnyIn F n P md ops Q fuel listed a w → wpAnyIn (F.inRound l) n P md ops Q fuel listed a w
  | 0, _, _, _, h => h
  | fuel + 1, listed, a, w, h => by
    refine ⟨h.1, fun i hi => ?_⟩
    have h2 := h.2 i hi
    unfold wpOpIn at h2 ⊢
    cases ho : ops[i]? with
    | none => rw [ho] at h2; exact any_round l hro hnd fuel _ a w h2
    | some o =>
      rw [ho] at h2
      have hno : ∀ c, o.op ≠ .defer c := noDefer_spec (by
        rw [Array.all_eq_true] at hnd
        obtain ⟨hl, e⟩ := Array.getElem?_eq_some_iff.1 ho
        rw [← e]
        exact hnd i hl)
      dsimp only at h2 ⊢
      split
      · rename_i hw
        rw [if_pos hw] at h2
        exact oper_round l hro hno (any_round l hro hnd fuel _) h2
      · rename_i hw
        rw [if_neg hw] at h2
        exact ⟨h2.1, any_round l hro hnd fuel _ _ _ h2.2⟩
theorem region_round {F : Fence} {n : Nat} {P : Program} {ops : Array Oper} {Q : Exit → Act → World → Prop} {id : Nat} {a : Act} {w : World} (l : Nat) (hm : P.follows .mixedOrders = true) (hro : F.round = none) (hnd : ops.all noDefer = true) (h : wpAnyIn F n P .any ops Q ops.size (Array.replicate ops.size false) a { w with drawn := w.drawn + 1 }) : (Code.region id ops true).wpIn (F.inRound l) n P Q a w :=
  wpIn_region_any hm (any_round l hro hnd _ _ _ _ h)

theorem boxed_bel {W W' : World} {b : Nat} {t : TypeId} {v : Value} (h : Boxed W b t v) (hb : Below W.heap.size W W') : Boxed W' b t v := h.kept (grown_trans_b (below_self_grown W none) hb) (by simp)
set_option maxHeartbeats 2000000 in
theorem pleast_no (b : Int) (p : ByteArray) (x r : Int) (w : World) {N : Nat} (hL : Laid3 N w) (hE : NoTrip N w) (h : sureT b p x r = false) :
    Calls Tryz.prog 13 #[.agg #[.int .i64 b, .string p, .int .i64 x, .int .i64 r]] w fun e w' => e = .returned (.tuple #[.agg #[.int .i64 0, .string ⟨#[]⟩, .int .i64 0, .int .i64 0], .bool false]) ∧ Below w.heap.size w w' := by
  obtain ⟨hT, hR, hA⟩ := two_trips w b p x r
  have hs := psure22 b p x r _ (hL.below hA hL.lt) (hE.below hA hL.lt)
  rw [h] at hs
  clear h
  go_enter Tryz.func13, Tryz.ntmps13
  go_wp2_with (go_at_call 17; refine hs.mono ?_; rintro e W1 ⟨rfl, hb⟩; have hR1 := hR.below hb hR.lt; obtain ⟨c0, c1, c2, c3⟩ := hR1.cells; obtain ⟨f0, f1, f2, f3⟩ := hR1.frozen)
  obtain ⟨d0, d1, d2, d3⟩ := (set4_trip hR1 0 ⟨#[]⟩ 0 0).cells
  have hB := set4_below (hA.trans (hb.mono hA.size)) (Nat.le_succ _) 0 ⟨#[]⟩ 0 0
  unfold set4 at d0 d1 d2 d3 hB
  exact bodyPost_ret (v := .tuple #[.agg #[.int .i64 0, .string ⟨#[]⟩, .int .i64 0, .int .i64 0], .bool false]) (by simp [results, Tryz.results13, go_sem, d0, d1, d2, d3]) rfl ⟨rfl, hB⟩
set_option maxHeartbeats 20000000 in
theorem pleast_yes_in (b : Nat) (p : ByteArray) (x r : Int) (w : World) {N : Nat} (hL : Laid3 N w) (hE : NoTrip N w) (hb9 : b < 512) (h : sureT (b : Int) p x r = true) :
    CallsIn Fence.wide 3 Tryz.prog 13 #[.agg #[.int .i64 (b : Int), .string p, .int .i64 x, .int .i64 r]] w fun e w' => e = .returned (.tuple #[.agg #[.int .i64 ((leastT (fun n => sureT (n : Int) p x r) b 0 : Nat) : Int), .string p, .int .i64 x, .int .i64 r], .bool true]) ∧ Below w.heap.size w w' := by
  have hs := fun (n : Nat) (X : World) (hX : Below w.heap.size w X) => psure22 (n : Int) p x r X (hL.below hX hL.lt) (hE.below hX hL.lt)
  obtain ⟨hT, hR, hA⟩ := two_trips w (b : Int) p x r
  have hs0 := hs b _ hA
  rw [h] at hs0
  clear h
  rw [← least_top _ hb9]
  generalize hS : (fun n : Nat => sureT (n : Int) p x r) = S
  have hs1 : ∀ (n : Nat) X, Below w.heap.size w X → Calls Tryz.prog 17 #[.agg #[.int .i64 (n : Int), .string p, .int .i64 x, .int .i64 r]] X fun e w' => e = .returned (.bool (S n)) ∧ Below X.heap.size X w' := by rw [← hS]; exact hs
  clear hs hS
  refine callsIn_of_wp_marks Tryz.func13 rfl trivial ?_ rfl
  simp only [Tryz.ntmps13, List.size_toArray, List.length_cons, List.length_nil, Nat.reduceAdd, Nat.reduceSub, Array.replicate_succ, Array.replicate_zero, List.push_toArray, List.append_toArray, List.nil_append, List.cons_append]
  gi_wp2_with (refine ⟨trivial, ?_⟩; first
    | (gi_at_call 17; refine (callsIn_wide.2 hs0).mono ?_; rintro e W1 ⟨rfl, hb⟩; obtain ⟨c0, c1, c2, c3⟩ := (hT.below hb hT.lt).cells)
    | (gi_at_call 47; refine (bmaker_in 2 (b : Int) _).mono ?_; rintro e w' ⟨rfl, rfl⟩))
  have hT1 := hT.below hb hT.lt
  have hR1 := hR.below hb hR.lt
  have hA1 := hA.trans (hb.mono hA.size)
  have hsz := hb.size
  have hlt1 := hR1.lt
  clear hT hR hA hb hs0 c0 c1 c2 c3
  have bN := Boxed.new W1 69 (.int .i64 (b : Int))
  have hAE := hA1.alloc hA1.size (.cells #[.int .i64 (b : Int)] 69)
  have hal : Below W1.heap.size W1 (W1.alloc (.cells #[.int .i64 (b : Int)] 69)) := (Below.refl _ _).alloc (Nat.le_refl _) _
  refine wpIn_rangeFunc_ownF rfl (by omega) (gf := 84) (lb := #[.pointer (some ⟨W1.heap.size, 0, none⟩)]) rfl trivial (enters_of Tryz.func84 (by kernel_rfl) rfl)
    (backward_stops 2 (by omega) W1.heap.size (b : Int) _ (by simp) bN.cell) kpB_t (kpB_b (by simp)) (Below.refl _ _) (fun _ => rfl)
    (fun pre W => Lies W w.heap.size #[.int .i64 ((leastL S b pre : Nat) : Int), .string p, .int .i64 x, .int .i64 r] 33 ∧ Lies W (w.heap.size + 1) #[.int .i64 0, .string ⟨#[]⟩, .int .i64 0, .int .i64 0] 33 ∧ Boxed W W1.heap.size 69 (.int .i64 (b : Int)) ∧ Below w.heap.size w W)
    (fun _ _ _ => False)
    (OwnFrom.and (Own.from (lies_own w.heap.size 33 (fun pre => #[.int .i64 ((leastL S b pre : Nat) : Int), .string p, .int .i64 x, .int .i64 r])) _) (OwnFrom.and (Own.from (lies_own (w.heap.size + 1) 33 (fun _ => #[.int .i64 0, .string ⟨#[]⟩, .int .i64 0, .int .i64 0])) _) (OwnFrom.and (Own.from (boxed_own W1.heap.size 69 (fun _ => .int .i64 (b : Int))) _) (ownFrom_below (Nat.le_refl _) (by simp; omega)))))
    (fun _ _ _ _ _ hs _ _ => hs)
    ⟨hT1.below hal hT1.lt, hR1.below hal hR1.lt, bN, hAE⟩
    (fun z => { tmps := #[.agg #[.int .i64 (b : Int), .string p, .int .i64 x, .int .i64 r], .pointer (some ⟨w.heap.size, 0, none⟩), .pointer (some ⟨w.heap.size + 1, 0, none⟩), .bool false, .int .i64 (z.val : Int), undef, .agg #[.int .i64 (b : Int), .string p, .int .i64 x, .int .i64 r], .bool true, .bool false, undef, .pointer (some ⟨w.heap.size, 0, none⟩), .int .i64 (b : Int), .func (.func 84) #[] #[.pointer (some ⟨W1.heap.size, 0, none⟩)], .int .i64 (z.val : Int), undef, undef, undef, undef, undef, undef, undef, undef, undef, undef, undef], defers := [] }) ?assign ?body ?done ?stop
  case assign =>
    intro l z W K hK
    simp only [encs]
    gi_wp2
    exact hK
  case body =>
    rintro l pre z W ⟨hT, hR, hN, hB⟩ hpl
    have hT : TripAt W w.heap.size ((leastL S b pre : Nat) : Int) p x r := hT
    have hlt := z.isLt
    have z8 : (z.val : Int) ≤ 8 := by omega
    have hl := leastL_lt S hb9 pre
    have hdr := drop_nat hl hlt
    have hon := fun X => only49 z.val (by omega) X
    have hst := fun s X => pstart ((leastL S b pre : Nat) : Int) p x r s X
    obtain ⟨c0, c1, c2, c3⟩ := hT.cells
    have hmix : Tryz.prog.follows .mixedOrders = true := by kernel_rfl
    have h1n : 1 ≤ 3 - 1 - 1 := by omega
    generalize hc : leastL S b pre = c at hT hl hdr hst c0
    generalize hd : dropN c z.val = d at hdr
    have k0 := cellAlloc (.cells #[.int .i64 0, .string ⟨#[]⟩, .int .i64 0, .int .i64 0] 33) c0
    have k1 := cellAlloc (.cells #[.int .i64 0, .string ⟨#[]⟩, .int .i64 0, .int .i64 0] 33) c1
    have k2 := cellAlloc (.cells #[.int .i64 0, .string ⟨#[]⟩, .int .i64 0, .int .i64 0] 33) c2
    have k3 := cellAlloc (.cells #[.int .i64 0, .string ⟨#[]⟩, .int .i64 0, .int .i64 0] 33) c3
    generalize (2 : Nat) ^ z.val = q at hdr hon
    gi_wp2_with fail
    refine wpIn_mono (Q := fun e a' w' => e = .normal ∧ ∃ g5, a' = { tmps := #[.agg #[.int .i64 (b : Int), .string p, .int .i64 x, .int .i64 r], .pointer (some ⟨w.heap.size, 0, none⟩), .pointer (some ⟨w.heap.size + 1, 0, none⟩), .bool false, .int .i64 (z.val : Int), .pointer (some ⟨g5, 0, none⟩), .agg #[.int .i64 (b : Int), .string p, .int .i64 x, .int .i64 r], .bool true, .bool false, undef, .pointer (some ⟨w.heap.size, 0, none⟩), .int .i64 (b : Int), .func (.func 84) #[] #[.pointer (some ⟨W1.heap.size, 0, none⟩)], .int .i64 (z.val : Int), .agg #[.int .i64 (c : Int), .string p, .int .i64 x, .int .i64 r], .pointer (some ⟨w.heap.size, 0, none⟩), .int .i64 (c : Int), .int .i64 (z.val : Int), .int .i64 (q : Int), .int .i64 (d : Int), .agg #[.int .i64 (d : Int), .string p, .int .i64 x, .int .i64 r], undef, undef, undef, undef], defers := [] } ∧ TripAt w' g5 (d : Int) p x r ∧ W.heap.size ≤ g5 ∧ Below W.heap.size W w') ?_ ?_
    · clear hs1 hL hE hR hN hB hpl hl hc hd hT bN hAE hal hT1 hR1 hA1 hsz hlt1 hb9 hlt
      refine region_round l hmix rfl (by first | kernel_rfl | simp [noDefer]) ?_
      change wpAnyIn _ _ _ _ _ _ _ _ _ (World.drew _)
      have hz0 : TripAt (World.drew (World.alloc W (.cells #[.int .i64 0, .string ⟨#[]⟩, .int .i64 0, .int .i64 0] 33))) W.heap.size 0 ⟨#[]⟩ 0 0 := TripAt.new W 0 ⟨#[]⟩ 0 0
      have hW0 : Below W.heap.size W (World.drew (World.alloc W (.cells #[.int .i64 0, .string ⟨#[]⟩, .int .i64 0, .int .i64 0] 33))) := ((Below.refl _ W).alloc (Nat.le_refl _) _).drew
      have hW1 : Below W.heap.size W W.drew := (Below.refl _ W).drew
      refine wpAnyIn_take (i := 1) (v := .pointer (some ⟨w.heap.size, 0, none⟩)) rfl rfl (by kernel_rfl) (by kernel_rfl) (by kernel_rfl) (fun _ _ _ h => by cases h.1) ⟨Or.inl ⟨by rfl, fun w => by first | rfl | go_simp⟩, fun _ => rfl⟩ ?_
      refine wpAnyIn_take (i := 3) (v := .int .i64 (z.val : Int)) rfl rfl (by kernel_rfl) (by kernel_rfl) (by kernel_rfl) (fun _ _ _ h => by cases h.1) ⟨Or.inl ⟨by rfl, fun w => by first | rfl | go_simp⟩, fun _ => rfl⟩ ?_
      refine wpAnyIn_ready (rs := [0, 2, 4, 7]) (by kernel_rfl) (by simp) ?_
      refine AllReadyIn.cons rfl (fun K hK => ?_) (AllReadyIn.cons rfl (fun K hK => ?_) (AllReadyIn.cons rfl (fun K hK => ?_) (AllReadyIn.cons rfl (fun K hK => ?_) AllReadyIn.nil)))
      · go_simp
        refine hK _ _ ?_
        clear hK K
        refine wpAnyIn_ready (rs := [2, 4, 7]) (by kernel_rfl) (by simp) ?_
        refine AllReadyIn.cons rfl (fun K hK => ?_) (AllReadyIn.cons rfl (fun K hK => ?_) (AllReadyIn.cons rfl (fun K hK => ?_) AllReadyIn.nil))
        · go_simp
          refine hK _ _ ?_
          clear hK K
          refine wpAnyIn_ready (rs := [4, 7]) (by kernel_rfl) (by simp) ?_
          refine AllReadyIn.cons rfl (fun K hK => ?_) (AllReadyIn.cons rfl (fun K hK => ?_) AllReadyIn.nil)
          · go_simp
            gi_wp2_with (refine ⟨trivial, ?_⟩; gi_at_call 49; refine (callsIn_wide.2 (hon _)).mono ?_; rintro e w1 ⟨rfl, rfl⟩)
            refine wpAnyIn_take (i := 5) (v := .int .i64 (d : Int)) rfl rfl (by kernel_rfl) (by kernel_rfl) (by kernel_rfl) (fun _ _ _ h => by cases h.1) ⟨Or.inl ⟨by rfl, fun w => by first | rfl | go_simp⟩, fun _ => rfl⟩ ?_
            refine wpAnyIn_ready (rs := [6, 7]) (by kernel_rfl) (by simp) ?_
            refine AllReadyIn.cons rfl (fun K hK => ?_) (AllReadyIn.cons rfl (fun K hK => ?_) AllReadyIn.nil)
            · go_simp
              gi_wp2_with (refine ⟨trivial, ?_⟩; gi_at_call 48; refine (callsIn_wide.2 (hst _ _)).mono ?_; rintro e w2 ⟨rfl, hb2⟩)
              refine wpAnyIn_ready (rs := [7]) (by kernel_rfl) (by simp) ?_
              refine AllReadyIn.cons rfl (fun K hK => ?_) AllReadyIn.nil
              go_simp
              refine hK _ _ ?_
              clear hK K
              refine wpAnyIn_ready (rs := [8]) (by kernel_rfl) (by simp) ?_
              refine AllReadyIn.cons rfl (fun K hK => ?_) AllReadyIn.nil
              go_simp
              refine hK _ _ ?_
              clear hK K
              refine wpAnyIn_done (by kernel_rfl) ?_ _
              exact ⟨rfl, _, rfl, TripAt.new _ (d : Int) p x r, hb2.size, hW1.trans (hb2.alloc hb2.size _)⟩
            · go_simp
              refine hK _ _ ?_
              clear hK K
              refine wpAnyIn_ready (rs := [6]) (by kernel_rfl) (by simp) ?_
              refine AllReadyIn.cons rfl (fun K hK => ?_) AllReadyIn.nil
              go_simp
              gi_wp2_with (refine ⟨trivial, ?_⟩; gi_at_call 48; refine (callsIn_wide.2 (hst _ _)).mono ?_; rintro e w2 ⟨rfl, hb2⟩)
              have hz : TripAt w2 W.heap.size 0 ⟨#[]⟩ 0 0 := TripAt.below hz0 hb2 (by simp)
              obtain ⟨y0, y1, y2, y3⟩ := hz.frozen
              obtain ⟨x0, x1, x2, x3⟩ := hz.cells
              refine wpAnyIn_ready (rs := [8]) (by kernel_rfl) (by simp) ?_
              refine AllReadyIn.cons rfl (fun K hK => ?_) AllReadyIn.nil
              go_simp
              refine hK _ _ ?_
              clear hK K
              refine wpAnyIn_done (by kernel_rfl) ?_ _
              exact ⟨rfl, _, rfl, set4_trip hz (d : Int) p x r, Nat.le_refl _, set4_below (hW0.trans (hb2.mono (by simp))) (Nat.le_refl _) (d : Int) p x r⟩
          · go_simp
            refine hK _ _ ?_
            clear hK K
            refine wpAnyIn_ready (rs := [4]) (by kernel_rfl) (by simp) ?_
            refine AllReadyIn.cons rfl (fun K hK => ?_) AllReadyIn.nil
            go_simp
            gi_wp2_with (refine ⟨trivial, ?_⟩; gi_at_call 49; refine (callsIn_wide.2 (hon _)).mono ?_; rintro e w1 ⟨rfl, rfl⟩)
            refine wpAnyIn_take (i := 5) (v := .int .i64 (d : Int)) rfl rfl (by kernel_rfl) (by kernel_rfl) (by kernel_rfl) (fun _ _ _ h => by cases h.1) ⟨Or.inl ⟨by rfl, fun w => by first | rfl | go_simp⟩, fun _ => rfl⟩ ?_
            refine wpAnyIn_ready (rs := [6]) (by kernel_rfl) (by simp) ?_
            refine AllReadyIn.cons rfl (fun K hK => ?_) AllReadyIn.nil
            go_simp
            gi_wp2_with (refine ⟨trivial, ?_⟩; gi_at_call 48; refine (callsIn_wide.2 (hst _ _)).mono ?_; rintro e w2 ⟨rfl, hb2⟩)
            have hz : TripAt w2 W.heap.size 0 ⟨#[]⟩ 0 0 := TripAt.below hz0 hb2 (by simp)
            obtain ⟨y0, y1, y2, y3⟩ := hz.frozen
            obtain ⟨x0, x1, x2, x3⟩ := hz.cells
            refine wpAnyIn_ready (rs := [8]) (by kernel_rfl) (by simp) ?_
            refine AllReadyIn.cons rfl (fun K hK => ?_) AllReadyIn.nil
            go_simp
            refine hK _ _ ?_
            clear hK K
            refine wpAnyIn_done (by kernel_rfl) ?_ _
            exact ⟨rfl, _, rfl, set4_trip hz (d : Int) p x r, Nat.le_refl _, set4_below (hW0.trans (hb2.mono (by simp))) (Nat.le_refl _) (d : Int) p x r⟩
        · go_simp
          gi_wp2_with (refine ⟨trivial, ?_⟩; gi_at_call 49; refine (callsIn_wide.2 (hon _)).mono ?_; rintro e w1 ⟨rfl, rfl⟩)
          refine wpAnyIn_ready (rs := [2, 7]) (by kernel_rfl) (by simp) ?_
          refine AllReadyIn.cons rfl (fun K hK => ?_) (AllReadyIn.cons rfl (fun K hK => ?_) AllReadyIn.nil)
          · go_simp
            refine hK _ _ ?_
            clear hK K
            refine wpAnyIn_take (i := 5) (v := .int .i64 (d : Int)) rfl rfl (by kernel_rfl) (by kernel_rfl) (by kernel_rfl) (fun _ _ _ h => by cases h.1) ⟨Or.inl ⟨by rfl, fun w => by first | rfl | go_simp⟩, fun _ => rfl⟩ ?_
            refine wpAnyIn_ready (rs := [6, 7]) (by kernel_rfl) (by simp) ?_
            refine AllReadyIn.cons rfl (fun K hK => ?_) (AllReadyIn.cons rfl (fun K hK => ?_) AllReadyIn.nil)
            · go_simp
              gi_wp2_with (refine ⟨trivial, ?_⟩; gi_at_call 48; refine (callsIn_wide.2 (hst _ _)).mono ?_; rintro e w2 ⟨rfl, hb2⟩)
              refine wpAnyIn_ready (rs := [7]) (by kernel_rfl) (by simp) ?_
              refine AllReadyIn.cons rfl (fun K hK => ?_) AllReadyIn.nil
              go_simp
              refine hK _ _ ?_
              clear hK K
              refine wpAnyIn_ready (rs := [8]) (by kernel_rfl) (by simp) ?_
              refine AllReadyIn.cons rfl (fun K hK => ?_) AllReadyIn.nil
              go_simp
              refine hK _ _ ?_
              clear hK K
              refine wpAnyIn_done (by kernel_rfl) ?_ _
              exact ⟨rfl, _, rfl, TripAt.new _ (d : Int) p x r, hb2.size, hW1.trans (hb2.alloc hb2.size _)⟩
            · go_simp
              refine hK _ _ ?_
              clear hK K
              refine wpAnyIn_ready (rs := [6]) (by kernel_rfl) (by simp) ?_
              refine AllReadyIn.cons rfl (fun K hK => ?_) AllReadyIn.nil
              go_simp
              gi_wp2_with (refine ⟨trivial, ?_⟩; gi_at_call 48; refine (callsIn_wide.2 (hst _ _)).mono ?_; rintro e w2 ⟨rfl, hb2⟩)
              have hz : TripAt w2 W.heap.size 0 ⟨#[]⟩ 0 0 := TripAt.below hz0 hb2 (by simp)
              obtain ⟨y0, y1, y2, y3⟩ := hz.frozen
              obtain ⟨x0, x1, x2, x3⟩ := hz.cells
              refine wpAnyIn_ready (rs := [8]) (by kernel_rfl) (by simp) ?_
              refine AllReadyIn.cons rfl (fun K hK => ?_) AllReadyIn.nil
              go_simp
              refine hK _ _ ?_
              clear hK K
              refine wpAnyIn_done (by kernel_rfl) ?_ _
              exact ⟨rfl, _, rfl, set4_trip hz (d : Int) p x r, Nat.le_refl _, set4_below (hW0.trans (hb2.mono (by simp))) (Nat.le_refl _) (d : Int) p x r⟩
          · go_simp
            refine hK _ _ ?_
            clear hK K
            refine wpAnyIn_ready (rs := [2]) (by kernel_rfl) (by simp) ?_
            refine AllReadyIn.cons rfl (fun K hK => ?_) AllReadyIn.nil
            go_simp
            refine hK _ _ ?_
            clear hK K
            refine wpAnyIn_take (i := 5) (v := .int .i64 (d : Int)) rfl rfl (by kernel_rfl) (by kernel_rfl) (by kernel_rfl) (fun _ _ _ h => by cases h.1) ⟨Or.inl ⟨by rfl, fun w => by first | rfl | go_simp⟩, fun _ => rfl⟩ ?_
            refine wpAnyIn_ready (rs := [6]) (by kernel_rfl) (by simp) ?_
            refine AllReadyIn.cons rfl (fun K hK => ?_) AllReadyIn.nil
            go_simp
            gi_wp2_with (refine ⟨trivial, ?_⟩; gi_at_call 48; refine (callsIn_wide.2 (hst _ _)).mono ?_; rintro e w2 ⟨rfl, hb2⟩)
            have hz : TripAt w2 W.heap.size 0 ⟨#[]⟩ 0 0 := TripAt.below hz0 hb2 (by simp)
            obtain ⟨y0, y1, y2, y3⟩ := hz.frozen
            obtain ⟨x0, x1, x2, x3⟩ := hz.cells
            refine wpAnyIn_ready (rs := [8]) (by kernel_rfl) (by simp) ?_
            refine AllReadyIn.cons rfl (fun K hK => ?_) AllReadyIn.nil
            go_simp
            refine hK _ _ ?_
            clear hK K
            refine wpAnyIn_done (by kernel_rfl) ?_ _
            exact ⟨rfl, _, rfl, set4_trip hz (d : Int) p x r, Nat.le_refl _, set4_below (hW0.trans (hb2.mono (by simp))) (Nat.le_refl _) (d : Int) p x r⟩
        · go_simp
          refine hK _ _ ?_
          clear hK K
          refine wpAnyIn_ready (rs := [2, 4]) (by kernel_rfl) (by simp) ?_
          refine AllReadyIn.cons rfl (fun K hK => ?_) (AllReadyIn.cons rfl (fun K hK => ?_) AllReadyIn.nil)
          · go_simp
            refine hK _ _ ?_
            clear hK K
            refine wpAnyIn_ready (rs := [4]) (by kernel_rfl) (by simp) ?_
            refine AllReadyIn.cons rfl (fun K hK => ?_) AllReadyIn.nil
            go_simp
            gi_wp2_with (refine ⟨trivial, ?_⟩; gi_at_call 49; refine (callsIn_wide.2 (hon _)).mono ?_; rintro e w1 ⟨rfl, rfl⟩)
            refine wpAnyIn_take (i := 5) (v := .int .i64 (d : Int)) rfl rfl (by kernel_rfl) (by kernel_rfl) (by kernel_rfl) (fun _ _ _ h => by cases h.1) ⟨Or.inl ⟨by rfl, fun w => by first | rfl | go_simp⟩, fun _ => rfl⟩ ?_
            refine wpAnyIn_ready (rs := [6]) (by kernel_rfl) (by simp) ?_
            refine AllReadyIn.cons rfl (fun K hK => ?_) AllReadyIn.nil
            go_simp
            gi_wp2_with (refine ⟨trivial, ?_⟩; gi_at_call 48; refine (callsIn_wide.2 (hst _ _)).mono ?_; rintro e w2 ⟨rfl, hb2⟩)
            have hz : TripAt w2 W.heap.size 0 ⟨#[]⟩ 0 0 := TripAt.below hz0 hb2 (by simp)
            obtain ⟨y0, y1, y2, y3⟩ := hz.frozen
            obtain ⟨x0, x1, x2, x3⟩ := hz.cells
            refine wpAnyIn_ready (rs := [8]) (by kernel_rfl) (by simp) ?_
            refine AllReadyIn.cons rfl (fun K hK => ?_) AllReadyIn.nil
            go_simp
            refine hK _ _ ?_
            clear hK K
            refine wpAnyIn_done (by kernel_rfl) ?_ _
            exact ⟨rfl, _, rfl, set4_trip hz (d : Int) p x r, Nat.le_refl _, set4_below (hW0.trans (hb2.mono (by simp))) (Nat.le_refl _) (d : Int) p x r⟩
          · go_simp
            gi_wp2_with (refine ⟨trivial, ?_⟩; gi_at_call 49; refine (callsIn_wide.2 (hon _)).mono ?_; rintro e w1 ⟨rfl, rfl⟩)
            refine wpAnyIn_ready (rs := [2]) (by kernel_rfl) (by simp) ?_
            refine AllReadyIn.cons rfl (fun K hK => ?_) AllReadyIn.nil
            go_simp
            refine hK _ _ ?_
            clear hK K
            refine wpAnyIn_take (i := 5) (v := .int .i64 (d : Int)) rfl rfl (by kernel_rfl) (by kernel_rfl) (by kernel_rfl) (fun _ _ _ h => by cases h.1) ⟨Or.inl ⟨by rfl, fun w => by first | rfl | go_simp⟩, fun _ => rfl⟩ ?_
            refine wpAnyIn_ready (rs := [6]) (by kernel_rfl) (by simp) ?_
            refine AllReadyIn.cons rfl (fun K hK => ?_) AllReadyIn.nil
            go_simp
            gi_wp2_with (refine ⟨trivial, ?_⟩; gi_at_call 48; refine (callsIn_wide.2 (hst _ _)).mono ?_; rintro e w2 ⟨rfl, hb2⟩)
            have hz : TripAt w2 W.heap.size 0 ⟨#[]⟩ 0 0 := TripAt.below hz0 hb2 (by simp)
            obtain ⟨y0, y1, y2, y3⟩ := hz.frozen
            obtain ⟨x0, x1, x2, x3⟩ := hz.cells
            refine wpAnyIn_ready (rs := [8]) (by kernel_rfl) (by simp) ?_
            refine AllReadyIn.cons rfl (fun K hK => ?_) AllReadyIn.nil
            go_simp
            refine hK _ _ ?_
            clear hK K
            refine wpAnyIn_done (by kernel_rfl) ?_ _
            exact ⟨rfl, _, rfl, set4_trip hz (d : Int) p x r, Nat.le_refl _, set4_below (hW0.trans (hb2.mono (by simp))) (Nat.le_refl _) (d : Int) p x r⟩
      · go_simp
        refine hK _ _ ?_
        clear hK K
        refine wpAnyIn_ready (rs := [0, 4, 7]) (by kernel_rfl) (by simp) ?_
        refine AllReadyIn.cons rfl (fun K hK => ?_) (AllReadyIn.cons rfl (fun K hK => ?_) (AllReadyIn.cons rfl (fun K hK => ?_) AllReadyIn.nil))
        · go_simp
          refine hK _ _ ?_
          clear hK K
          refine wpAnyIn_ready (rs := [4, 7]) (by kernel_rfl) (by simp) ?_
          refine AllReadyIn.cons rfl (fun K hK => ?_) (AllReadyIn.cons rfl (fun K hK => ?_) AllReadyIn.nil)
          · go_simp
            gi_wp2_with (refine ⟨trivial, ?_⟩; gi_at_call 49; refine (callsIn_wide.2 (hon _)).mono ?_; rintro e w1 ⟨rfl, rfl⟩)
            refine wpAnyIn_take (i := 5) (v := .int .i64 (d : Int)) rfl rfl (by kernel_rfl) (by kernel_rfl) (by kernel_rfl) (fun _ _ _ h => by cases h.1) ⟨Or.inl ⟨by rfl, fun w => by first | rfl | go_simp⟩, fun _ => rfl⟩ ?_
            refine wpAnyIn_ready (rs := [6, 7]) (by kernel_rfl) (by simp) ?_
            refine AllReadyIn.cons rfl (fun K hK => ?_) (AllReadyIn.cons rfl (fun K hK => ?_) AllReadyIn.nil)
            · go_simp
              gi_wp2_with (refine ⟨trivial, ?_⟩; gi_at_call 48; refine (callsIn_wide.2 (hst _ _)).mono ?_; rintro e w2 ⟨rfl, hb2⟩)
              refine wpAnyIn_ready (rs := [7]) (by kernel_rfl) (by simp) ?_
              refine AllReadyIn.cons rfl (fun K hK => ?_) AllReadyIn.nil
              go_simp
              refine hK _ _ ?_
              clear hK K
              refine wpAnyIn_ready (rs := [8]) (by kernel_rfl) (by simp) ?_
              refine AllReadyIn.cons rfl (fun K hK => ?_) AllReadyIn.nil
              go_simp
              refine hK _ _ ?_
              clear hK K
              refine wpAnyIn_done (by kernel_rfl) ?_ _
              exact ⟨rfl, _, rfl, TripAt.new _ (d : Int) p x r, hb2.size, hW1.trans (hb2.alloc hb2.size _)⟩
            · go_simp
              refine hK _ _ ?_
              clear hK K
              refine wpAnyIn_ready (rs := [6]) (by kernel_rfl) (by simp) ?_
              refine AllReadyIn.cons rfl (fun K hK => ?_) AllReadyIn.nil
              go_simp
              gi_wp2_with (refine ⟨trivial, ?_⟩; gi_at_call 48; refine (callsIn_wide.2 (hst _ _)).mono ?_; rintro e w2 ⟨rfl, hb2⟩)
              have hz : TripAt w2 W.heap.size 0 ⟨#[]⟩ 0 0 := TripAt.below hz0 hb2 (by simp)
              obtain ⟨y0, y1, y2, y3⟩ := hz.frozen
              obtain ⟨x0, x1, x2, x3⟩ := hz.cells
              refine wpAnyIn_ready (rs := [8]) (by kernel_rfl) (by simp) ?_
              refine AllReadyIn.cons rfl (fun K hK => ?_) AllReadyIn.nil
              go_simp
              refine hK _ _ ?_
              clear hK K
              refine wpAnyIn_done (by kernel_rfl) ?_ _
              exact ⟨rfl, _, rfl, set4_trip hz (d : Int) p x r, Nat.le_refl _, set4_below (hW0.trans (hb2.mono (by simp))) (Nat.le_refl _) (d : Int) p x r⟩
          · go_simp
            refine hK _ _ ?_
            clear hK K
            refine wpAnyIn_ready (rs := [4]) (by kernel_rfl) (by simp) ?_
            refine AllReadyIn.cons rfl (fun K hK => ?_) AllReadyIn.nil
            go_simp
            gi_wp2_with (refine ⟨trivial, ?_⟩; gi_at_call 49; refine (callsIn_wide.2 (hon _)).mono ?_; rintro e w1 ⟨rfl, rfl⟩)
            refine wpAnyIn_take (i := 5) (v := .int .i64 (d : Int)) rfl rfl (by kernel_rfl) (by kernel_rfl) (by kernel_rfl) (fun _ _ _ h => by cases h.1) ⟨Or.inl ⟨by rfl, fun w => by first | rfl | go_simp⟩, fun _ => rfl⟩ ?_
            refine wpAnyIn_ready (rs := [6]) (by kernel_rfl) (by simp) ?_
            refine AllReadyIn.cons rfl (fun K hK => ?_) AllReadyIn.nil
            go_simp
            gi_wp2_with (refine ⟨trivial, ?_⟩; gi_at_call 48; refine (callsIn_wide.2 (hst _ _)).mono ?_; rintro e w2 ⟨rfl, hb2⟩)
            have hz : TripAt w2 W.heap.size 0 ⟨#[]⟩ 0 0 := TripAt.below hz0 hb2 (by simp)
            obtain ⟨y0, y1, y2, y3⟩ := hz.frozen
            obtain ⟨x0, x1, x2, x3⟩ := hz.cells
            refine wpAnyIn_ready (rs := [8]) (by kernel_rfl) (by simp) ?_
            refine AllReadyIn.cons rfl (fun K hK => ?_) AllReadyIn.nil
            go_simp
            refine hK _ _ ?_
            clear hK K
            refine wpAnyIn_done (by kernel_rfl) ?_ _
            exact ⟨rfl, _, rfl, set4_trip hz (d : Int) p x r, Nat.le_refl _, set4_below (hW0.trans (hb2.mono (by simp))) (Nat.le_refl _) (d : Int) p x r⟩
        · go_simp
          gi_wp2_with (refine ⟨trivial, ?_⟩; gi_at_call 49; refine (callsIn_wide.2 (hon _)).mono ?_; rintro e w1 ⟨rfl, rfl⟩)
          refine wpAnyIn_take (i := 5) (v := .int .i64 (d : Int)) rfl rfl (by kernel_rfl) (by kernel_rfl) (by kernel_rfl) (fun _ _ _ h => by cases h.1) ⟨Or.inl ⟨by rfl, fun w => by first | rfl | go_simp⟩, fun _ => rfl⟩ ?_
          refine wpAnyIn_ready (rs := [0, 7]) (by kernel_rfl) (by simp) ?_
          refine AllReadyIn.cons rfl (fun K hK => ?_) (AllReadyIn.cons rfl (fun K hK => ?_) AllReadyIn.nil)
          · go_simp
            refine hK _ _ ?_
            clear hK K
            refine wpAnyIn_ready (rs := [6, 7]) (by kernel_rfl) (by simp) ?_
            refine AllReadyIn.cons rfl (fun K hK => ?_) (AllReadyIn.cons rfl (fun K hK => ?_) AllReadyIn.nil)
            · go_simp
              gi_wp2_with (refine ⟨trivial, ?_⟩; gi_at_call 48; refine (callsIn_wide.2 (hst _ _)).mono ?_; rintro e w2 ⟨rfl, hb2⟩)
              refine wpAnyIn_ready (rs := [7]) (by kernel_rfl) (by simp) ?_
              refine AllReadyIn.cons rfl (fun K hK => ?_) AllReadyIn.nil
              go_simp
              refine hK _ _ ?_
              clear hK K
              refine wpAnyIn_ready (rs := [8]) (by kernel_rfl) (by simp) ?_
              refine AllReadyIn.cons rfl (fun K hK => ?_) AllReadyIn.nil
              go_simp
              refine hK _ _ ?_
              clear hK K
              refine wpAnyIn_done (by kernel_rfl) ?_ _
              exact ⟨rfl, _, rfl, TripAt.new _ (d : Int) p x r, hb2.size, hW1.trans (hb2.alloc hb2.size _)⟩
            · go_simp
              refine hK _ _ ?_
              clear hK K
              refine wpAnyIn_ready (rs := [6]) (by kernel_rfl) (by simp) ?_
              refine AllReadyIn.cons rfl (fun K hK => ?_) AllReadyIn.nil
              go_simp
              gi_wp2_with (refine ⟨trivial, ?_⟩; gi_at_call 48; refine (callsIn_wide.2 (hst _ _)).mono ?_; rintro e w2 ⟨rfl, hb2⟩)
              have hz : TripAt w2 W.heap.size 0 ⟨#[]⟩ 0 0 := TripAt.below hz0 hb2 (by simp)
              obtain ⟨y0, y1, y2, y3⟩ := hz.frozen
              obtain ⟨x0, x1, x2, x3⟩ := hz.cells
              refine wpAnyIn_ready (rs := [8]) (by kernel_rfl) (by simp) ?_
              refine AllReadyIn.cons rfl (fun K hK => ?_) AllReadyIn.nil
              go_simp
              refine hK _ _ ?_
              clear hK K
              refine wpAnyIn_done (by kernel_rfl) ?_ _
              exact ⟨rfl, _, rfl, set4_trip hz (d : Int) p x r, Nat.le_refl _, set4_below (hW0.trans (hb2.mono (by simp))) (Nat.le_refl _) (d : Int) p x r⟩
          · go_simp
            refine hK _ _ ?_
            clear hK K
            refine wpAnyIn_ready (rs := [0]) (by kernel_rfl) (by simp) ?_
            refine AllReadyIn.cons rfl (fun K hK => ?_) AllReadyIn.nil
            go_simp
            refine hK _ _ ?_
            clear hK K
            refine wpAnyIn_ready (rs := [6]) (by kernel_rfl) (by simp) ?_
            refine AllReadyIn.cons rfl (fun K hK => ?_) AllReadyIn.nil
            go_simp
            gi_wp2_with (refine ⟨trivial, ?_⟩; gi_at_call 48; refine (callsIn_wide.2 (hst _ _)).mono ?_; rintro e w2 ⟨rfl, hb2⟩)
            have hz : TripAt w2 W.heap.size 0 ⟨#[]⟩ 0 0 := TripAt.below hz0 hb2 (by simp)
            obtain ⟨y0, y1, y2, y3⟩ := hz.frozen
            obtain ⟨x0, x1, x2, x3⟩ := hz.cells
            refine wpAnyIn_ready (rs := [8]) (by kernel_rfl) (by simp) ?_
            refine AllReadyIn.cons rfl (fun K hK => ?_) AllReadyIn.nil
            go_simp
            refine hK _ _ ?_
            clear hK K
            refine wpAnyIn_done (by kernel_rfl) ?_ _
            exact ⟨rfl, _, rfl, set4_trip hz (d : Int) p x r, Nat.le_refl _, set4_below (hW0.trans (hb2.mono (by simp))) (Nat.le_refl _) (d : Int) p x r⟩
        · go_simp
          refine hK _ _ ?_
          clear hK K
          refine wpAnyIn_ready (rs := [0, 4]) (by kernel_rfl) (by simp) ?_
          refine AllReadyIn.cons rfl (fun K hK => ?_) (AllReadyIn.cons rfl (fun K hK => ?_) AllReadyIn.nil)
          · go_simp
            refine hK _ _ ?_
            clear hK K
            refine wpAnyIn_ready (rs := [4]) (by kernel_rfl) (by simp) ?_
            refine AllReadyIn.cons rfl (fun K hK => ?_) AllReadyIn.nil
            go_simp
            gi_wp2_with (refine ⟨trivial, ?_⟩; gi_at_call 49; refine (callsIn_wide.2 (hon _)).mono ?_; rintro e w1 ⟨rfl, rfl⟩)
            refine wpAnyIn_take (i := 5) (v := .int .i64 (d : Int)) rfl rfl (by kernel_rfl) (by kernel_rfl) (by kernel_rfl) (fun _ _ _ h => by cases h.1) ⟨Or.inl ⟨by rfl, fun w => by first | rfl | go_simp⟩, fun _ => rfl⟩ ?_
            refine wpAnyIn_ready (rs := [6]) (by kernel_rfl) (by simp) ?_
            refine AllReadyIn.cons rfl (fun K hK => ?_) AllReadyIn.nil
            go_simp
            gi_wp2_with (refine ⟨trivial, ?_⟩; gi_at_call 48; refine (callsIn_wide.2 (hst _ _)).mono ?_; rintro e w2 ⟨rfl, hb2⟩)
            have hz : TripAt w2 W.heap.size 0 ⟨#[]⟩ 0 0 := TripAt.below hz0 hb2 (by simp)
            obtain ⟨y0, y1, y2, y3⟩ := hz.frozen
            obtain ⟨x0, x1, x2, x3⟩ := hz.cells
            refine wpAnyIn_ready (rs := [8]) (by kernel_rfl) (by simp) ?_
            refine AllReadyIn.cons rfl (fun K hK => ?_) AllReadyIn.nil
            go_simp
            refine hK _ _ ?_
            clear hK K
            refine wpAnyIn_done (by kernel_rfl) ?_ _
            exact ⟨rfl, _, rfl, set4_trip hz (d : Int) p x r, Nat.le_refl _, set4_below (hW0.trans (hb2.mono (by simp))) (Nat.le_refl _) (d : Int) p x r⟩
          · go_simp
            gi_wp2_with (refine ⟨trivial, ?_⟩; gi_at_call 49; refine (callsIn_wide.2 (hon _)).mono ?_; rintro e w1 ⟨rfl, rfl⟩)
            refine wpAnyIn_take (i := 5) (v := .int .i64 (d : Int)) rfl rfl (by kernel_rfl) (by kernel_rfl) (by kernel_rfl) (fun _ _ _ h => by cases h.1) ⟨Or.inl ⟨by rfl, fun w => by first | rfl | go_simp⟩, fun _ => rfl⟩ ?_
            refine wpAnyIn_ready (rs := [0]) (by kernel_rfl) (by simp) ?_
            refine AllReadyIn.cons rfl (fun K hK => ?_) AllReadyIn.nil
            go_simp
            refine hK _ _ ?_
            clear hK K
            refine wpAnyIn_ready (rs := [6]) (by kernel_rfl) (by simp) ?_
            refine AllReadyIn.cons rfl (fun K hK => ?_) AllReadyIn.nil
            go_simp
            gi_wp2_with (refine ⟨trivial, ?_⟩; gi_at_call 48; refine (callsIn_wide.2 (hst _ _)).mono ?_; rintro e w2 ⟨rfl, hb2⟩)
            have hz : TripAt w2 W.heap.size 0 ⟨#[]⟩ 0 0 := TripAt.below hz0 hb2 (by simp)
            obtain ⟨y0, y1, y2, y3⟩ := hz.frozen
            obtain ⟨x0, x1, x2, x3⟩ := hz.cells
            refine wpAnyIn_ready (rs := [8]) (by kernel_rfl) (by simp) ?_
            refine AllReadyIn.cons rfl (fun K hK => ?_) AllReadyIn.nil
            go_simp
            refine hK _ _ ?_
            clear hK K
            refine wpAnyIn_done (by kernel_rfl) ?_ _
            exact ⟨rfl, _, rfl, set4_trip hz (d : Int) p x r, Nat.le_refl _, set4_below (hW0.trans (hb2.mono (by simp))) (Nat.le_refl _) (d : Int) p x r⟩
      · go_simp
        gi_wp2_with (refine ⟨trivial, ?_⟩; gi_at_call 49; refine (callsIn_wide.2 (hon _)).mono ?_; rintro e w1 ⟨rfl, rfl⟩)
        refine wpAnyIn_ready (rs := [0, 2, 7]) (by kernel_rfl) (by simp) ?_
        refine AllReadyIn.cons rfl (fun K hK => ?_) (AllReadyIn.cons rfl (fun K hK => ?_) (AllReadyIn.cons rfl (fun K hK => ?_) AllReadyIn.nil))
        · go_simp
          refine hK _ _ ?_
          clear hK K
          refine wpAnyIn_ready (rs := [2, 7]) (by kernel_rfl) (by simp) ?_
          refine AllReadyIn.cons rfl (fun K hK => ?_) (AllReadyIn.cons rfl (fun K hK => ?_) AllReadyIn.nil)
          · go_simp
            refine hK _ _ ?_
            clear hK K
            refine wpAnyIn_take (i := 5) (v := .int .i64 (d : Int)) rfl rfl (by kernel_rfl) (by kernel_rfl) (by kernel_rfl) (fun _ _ _ h => by cases h.1) ⟨Or.inl ⟨by rfl, fun w => by first | rfl | go_simp⟩, fun _ => rfl⟩ ?_
            refine wpAnyIn_ready (rs := [6, 7]) (by kernel_rfl) (by simp) ?_
            refine AllReadyIn.cons rfl (fun K hK => ?_) (AllReadyIn.cons rfl (fun K hK => ?_) AllReadyIn.nil)
            · go_simp
              gi_wp2_with (refine ⟨trivial, ?_⟩; gi_at_call 48; refine (callsIn_wide.2 (hst _ _)).mono ?_; rintro e w2 ⟨rfl, hb2⟩)
              refine wpAnyIn_ready (rs := [7]) (by kernel_rfl) (by simp) ?_
              refine AllReadyIn.cons rfl (fun K hK => ?_) AllReadyIn.nil
              go_simp
              refine hK _ _ ?_
              clear hK K
              refine wpAnyIn_ready (rs := [8]) (by kernel_rfl) (by simp) ?_
              refine AllReadyIn.cons rfl (fun K hK => ?_) AllReadyIn.nil
              go_simp
              refine hK _ _ ?_
              clear hK K
              refine wpAnyIn_done (by kernel_rfl) ?_ _
              exact ⟨rfl, _, rfl, TripAt.new _ (d : Int) p x r, hb2.size, hW1.trans (hb2.alloc hb2.size _)⟩
            · go_simp
              refine hK _ _ ?_
              clear hK K
              refine wpAnyIn_ready (rs := [6]) (by kernel_rfl) (by simp) ?_
              refine AllReadyIn.cons rfl (fun K hK => ?_) AllReadyIn.nil
              go_simp
              gi_wp2_with (refine ⟨trivial, ?_⟩; gi_at_call 48; refine (callsIn_wide.2 (hst _ _)).mono ?_; rintro e w2 ⟨rfl, hb2⟩)
              have hz : TripAt w2 W.heap.size 0 ⟨#[]⟩ 0 0 := TripAt.below hz0 hb2 (by simp)
              obtain ⟨y0, y1, y2, y3⟩ := hz.frozen
              obtain ⟨x0, x1, x2, x3⟩ := hz.cells
              refine wpAnyIn_ready (rs := [8]) (by kernel_rfl) (by simp) ?_
              refine AllReadyIn.cons rfl (fun K hK => ?_) AllReadyIn.nil
              go_simp
              refine hK _ _ ?_
              clear hK K
              refine wpAnyIn_done (by kernel_rfl) ?_ _
              exact ⟨rfl, _, rfl, set4_trip hz (d : Int) p x r, Nat.le_refl _, set4_below (hW0.trans (hb2.mono (by simp))) (Nat.le_refl _) (d : Int) p x r⟩
          · go_simp
            refine hK _ _ ?_
            clear hK K
            refine wpAnyIn_ready (rs := [2]) (by kernel_rfl) (by simp) ?_
            refine AllReadyIn.cons rfl (fun K hK => ?_) AllReadyIn.nil
            go_simp
            refine hK _ _ ?_
            clear hK K
            refine wpAnyIn_take (i := 5) (v := .int .i64 (d : Int)) rfl rfl (by kernel_rfl) (by kernel_rfl) (by kernel_rfl) (fun _ _ _ h => by cases h.1) ⟨Or.inl ⟨by rfl, fun w => by first | rfl | go_simp⟩, fun _ => rfl⟩ ?_
            refine wpAnyIn_ready (rs := [6]) (by kernel_rfl) (by simp) ?_
            refine AllReadyIn.cons rfl (fun K hK => ?_) AllReadyIn.nil
            go_simp
            gi_wp2_with (refine ⟨trivial, ?_⟩; gi_at_call 48; refine (callsIn_wide.2 (hst _ _)).mono ?_; rintro e w2 ⟨rfl, hb2⟩)
            have hz : TripAt w2 W.heap.size 0 ⟨#[]⟩ 0 0 := TripAt.below hz0 hb2 (by simp)
            obtain ⟨y0, y1, y2, y3⟩ := hz.frozen
            obtain ⟨x0, x1, x2, x3⟩ := hz.cells
            refine wpAnyIn_ready (rs := [8]) (by kernel_rfl) (by simp) ?_
            refine AllReadyIn.cons rfl (fun K hK => ?_) AllReadyIn.nil
            go_simp
            refine hK _ _ ?_
            clear hK K
            refine wpAnyIn_done (by kernel_rfl) ?_ _
            exact ⟨rfl, _, rfl, set4_trip hz (d : Int) p x r, Nat.le_refl _, set4_below (hW0.trans (hb2.mono (by simp))) (Nat.le_refl _) (d : Int) p x r⟩
        · go_simp
          refine hK _ _ ?_
          clear hK K
          refine wpAnyIn_take (i := 5) (v := .int .i64 (d : Int)) rfl rfl (by kernel_rfl) (by kernel_rfl) (by kernel_rfl) (fun _ _ _ h => by cases h.1) ⟨Or.inl ⟨by rfl, fun w => by first | rfl | go_simp⟩, fun _ => rfl⟩ ?_
          refine wpAnyIn_ready (rs := [0, 7]) (by kernel_rfl) (by simp) ?_
          refine AllReadyIn.cons rfl (fun K hK => ?_) (AllReadyIn.cons rfl (fun K hK => ?_) AllReadyIn.nil)
          · go_simp
            refine hK _ _ ?_
            clear hK K
            refine wpAnyIn_ready (rs := [6, 7]) (by kernel_rfl) (by simp) ?_
            refine AllReadyIn.cons rfl (fun K hK => ?_) (AllReadyIn.cons rfl (fun K hK => ?_) AllReadyIn.nil)
            · go_simp
              gi_wp2_with (refine ⟨trivial, ?_⟩; gi_at_call 48; refine (callsIn_wide.2 (hst _ _)).mono ?_; rintro e w2 ⟨rfl, hb2⟩)
              refine wpAnyIn_ready (rs := [7]) (by kernel_rfl) (by simp) ?_
              refine AllReadyIn.cons rfl (fun K hK => ?_) AllReadyIn.nil
              go_simp
              refine hK _ _ ?_
              clear hK K
              refine wpAnyIn_ready (rs := [8]) (by kernel_rfl) (by simp) ?_
              refine AllReadyIn.cons rfl (fun K hK => ?_) AllReadyIn.nil
              go_simp
              refine hK _ _ ?_
              clear hK K
              refine wpAnyIn_done (by kernel_rfl) ?_ _
              exact ⟨rfl, _, rfl, TripAt.new _ (d : Int) p x r, hb2.size, hW1.trans (hb2.alloc hb2.size _)⟩
            · go_simp
              refine hK _ _ ?_
              clear hK K
              refine wpAnyIn_ready (rs := [6]) (by kernel_rfl) (by simp) ?_
              refine AllReadyIn.cons rfl (fun K hK => ?_) AllReadyIn.nil
              go_simp
              gi_wp2_with (refine ⟨trivial, ?_⟩; gi_at_call 48; refine (callsIn_wide.2 (hst _ _)).mono ?_; rintro e w2 ⟨rfl, hb2⟩)
              have hz : TripAt w2 W.heap.size 0 ⟨#[]⟩ 0 0 := TripAt.below hz0 hb2 (by simp)
              obtain ⟨y0, y1, y2, y3⟩ := hz.frozen
              obtain ⟨x0, x1, x2, x3⟩ := hz.cells
              refine wpAnyIn_ready (rs := [8]) (by kernel_rfl) (by simp) ?_
              refine AllReadyIn.cons rfl (fun K hK => ?_) AllReadyIn.nil
              go_simp
              refine hK _ _ ?_
              clear hK K
              refine wpAnyIn_done (by kernel_rfl) ?_ _
              exact ⟨rfl, _, rfl, set4_trip hz (d : Int) p x r, Nat.le_refl _, set4_below (hW0.trans (hb2.mono (by simp))) (Nat.le_refl _) (d : Int) p x r⟩
          · go_simp
            refine hK _ _ ?_
            clear hK K
            refine wpAnyIn_ready (rs := [0]) (by kernel_rfl) (by simp) ?_
            refine AllReadyIn.cons rfl (fun K hK => ?_) AllReadyIn.nil
            go_simp
            refine hK _ _ ?_
            clear hK K
            refine wpAnyIn_ready (rs := [6]) (by kernel_rfl) (by simp) ?_
            refine AllReadyIn.cons rfl (fun K hK => ?_) AllReadyIn.nil
            go_simp
            gi_wp2_with (refine ⟨trivial, ?_⟩; gi_at_call 48; refine (callsIn_wide.2 (hst _ _)).mono ?_; rintro e w2 ⟨rfl, hb2⟩)
            have hz : TripAt w2 W.heap.size 0 ⟨#[]⟩ 0 0 := TripAt.below hz0 hb2 (by simp)
            obtain ⟨y0, y1, y2, y3⟩ := hz.frozen
            obtain ⟨x0, x1, x2, x3⟩ := hz.cells
            refine wpAnyIn_ready (rs := [8]) (by kernel_rfl) (by simp) ?_
            refine AllReadyIn.cons rfl (fun K hK => ?_) AllReadyIn.nil
            go_simp
            refine hK _ _ ?_
            clear hK K
            refine wpAnyIn_done (by kernel_rfl) ?_ _
            exact ⟨rfl, _, rfl, set4_trip hz (d : Int) p x r, Nat.le_refl _, set4_below (hW0.trans (hb2.mono (by simp))) (Nat.le_refl _) (d : Int) p x r⟩
        · go_simp
          refine hK _ _ ?_
          clear hK K
          refine wpAnyIn_ready (rs := [0, 2]) (by kernel_rfl) (by simp) ?_
          refine AllReadyIn.cons rfl (fun K hK => ?_) (AllReadyIn.cons rfl (fun K hK => ?_) AllReadyIn.nil)
          · go_simp
            refine hK _ _ ?_
            clear hK K
            refine wpAnyIn_ready (rs := [2]) (by kernel_rfl) (by simp) ?_
            refine AllReadyIn.cons rfl (fun K hK => ?_) AllReadyIn.nil
            go_simp
            refine hK _ _ ?_
            clear hK K
            refine wpAnyIn_take (i := 5) (v := .int .i64 (d : Int)) rfl rfl (by kernel_rfl) (by kernel_rfl) (by kernel_rfl) (fun _ _ _ h => by cases h.1) ⟨Or.inl ⟨by rfl, fun w => by first | rfl | go_simp⟩, fun _ => rfl⟩ ?_
            refine wpAnyIn_ready (rs := [6]) (by kernel_rfl) (by simp) ?_
            refine AllReadyIn.cons rfl (fun K hK => ?_) AllReadyIn.nil
            go_simp
            gi_wp2_with (refine ⟨trivial, ?_⟩; gi_at_call 48; refine (callsIn_wide.2 (hst _ _)).mono ?_; rintro e w2 ⟨rfl, hb2⟩)
            have hz : TripAt w2 W.heap.size 0 ⟨#[]⟩ 0 0 := TripAt.below hz0 hb2 (by simp)
            obtain ⟨y0, y1, y2, y3⟩ := hz.frozen
            obtain ⟨x0, x1, x2, x3⟩ := hz.cells
            refine wpAnyIn_ready (rs := [8]) (by kernel_rfl) (by simp) ?_
            refine AllReadyIn.cons rfl (fun K hK => ?_) AllReadyIn.nil
            go_simp
            refine hK _ _ ?_
            clear hK K
            refine wpAnyIn_done (by kernel_rfl) ?_ _
            exact ⟨rfl, _, rfl, set4_trip hz (d : Int) p x r, Nat.le_refl _, set4_below (hW0.trans (hb2.mono (by simp))) (Nat.le_refl _) (d : Int) p x r⟩
          · go_simp
            refine hK _ _ ?_
            clear hK K
            refine wpAnyIn_take (i := 5) (v := .int .i64 (d : Int)) rfl rfl (by kernel_rfl) (by kernel_rfl) (by kernel_rfl) (fun _ _ _ h => by cases h.1) ⟨Or.inl ⟨by rfl, fun w => by first | rfl | go_simp⟩, fun _ => rfl⟩ ?_
            refine wpAnyIn_ready (rs := [0]) (by kernel_rfl) (by simp) ?_
            refine AllReadyIn.cons rfl (fun K hK => ?_) AllReadyIn.nil
            go_simp
            refine hK _ _ ?_
            clear hK K
            refine wpAnyIn_ready (rs := [6]) (by kernel_rfl) (by simp) ?_
            refine AllReadyIn.cons rfl (fun K hK => ?_) AllReadyIn.nil
            go_simp
            gi_wp2_with (refine ⟨trivial, ?_⟩; gi_at_call 48; refine (callsIn_wide.2 (hst _ _)).mono ?_; rintro e w2 ⟨rfl, hb2⟩)
            have hz : TripAt w2 W.heap.size 0 ⟨#[]⟩ 0 0 := TripAt.below hz0 hb2 (by simp)
            obtain ⟨y0, y1, y2, y3⟩ := hz.frozen
            obtain ⟨x0, x1, x2, x3⟩ := hz.cells
            refine wpAnyIn_ready (rs := [8]) (by kernel_rfl) (by simp) ?_
            refine AllReadyIn.cons rfl (fun K hK => ?_) AllReadyIn.nil
            go_simp
            refine hK _ _ ?_
            clear hK K
            refine wpAnyIn_done (by kernel_rfl) ?_ _
            exact ⟨rfl, _, rfl, set4_trip hz (d : Int) p x r, Nat.le_refl _, set4_below (hW0.trans (hb2.mono (by simp))) (Nat.le_refl _) (d : Int) p x r⟩
      · go_simp
        refine hK _ _ ?_
        clear hK K
        refine wpAnyIn_ready (rs := [0, 2, 4]) (by kernel_rfl) (by simp) ?_
        refine AllReadyIn.cons rfl (fun K hK => ?_) (AllReadyIn.cons rfl (fun K hK => ?_) (AllReadyIn.cons rfl (fun K hK => ?_) AllReadyIn.nil))
        · go_simp
          refine hK _ _ ?_
          clear hK K
          refine wpAnyIn_ready (rs := [2, 4]) (by kernel_rfl) (by simp) ?_
          refine AllReadyIn.cons rfl (fun K hK => ?_) (AllReadyIn.cons rfl (fun K hK => ?_) AllReadyIn.nil)
          · go_simp
            refine hK _ _ ?_
            clear hK K
            refine wpAnyIn_ready (rs := [4]) (by kernel_rfl) (by simp) ?_
            refine AllReadyIn.cons rfl (fun K hK => ?_) AllReadyIn.nil
            go_simp
            gi_wp2_with (refine ⟨trivial, ?_⟩; gi_at_call 49; refine (callsIn_wide.2 (hon _)).mono ?_; rintro e w1 ⟨rfl, rfl⟩)
            refine wpAnyIn_take (i := 5) (v := .int .i64 (d : Int)) rfl rfl (by kernel_rfl) (by kernel_rfl) (by kernel_rfl) (fun _ _ _ h => by cases h.1) ⟨Or.inl ⟨by rfl, fun w => by first | rfl | go_simp⟩, fun _ => rfl⟩ ?_
            refine wpAnyIn_ready (rs := [6]) (by kernel_rfl) (by simp) ?_
            refine AllReadyIn.cons rfl (fun K hK => ?_) AllReadyIn.nil
            go_simp
            gi_wp2_with (refine ⟨trivial, ?_⟩; gi_at_call 48; refine (callsIn_wide.2 (hst _ _)).mono ?_; rintro e w2 ⟨rfl, hb2⟩)
            have hz : TripAt w2 W.heap.size 0 ⟨#[]⟩ 0 0 := TripAt.below hz0 hb2 (by simp)
            obtain ⟨y0, y1, y2, y3⟩ := hz.frozen
            obtain ⟨x0, x1, x2, x3⟩ := hz.cells
            refine wpAnyIn_ready (rs := [8]) (by kernel_rfl) (by simp) ?_
            refine AllReadyIn.cons rfl (fun K hK => ?_) AllReadyIn.nil
            go_simp
            refine hK _ _ ?_
            clear hK K
            refine wpAnyIn_done (by kernel_rfl) ?_ _
            exact ⟨rfl, _, rfl, set4_trip hz (d : Int) p x r, Nat.le_refl _, set4_below (hW0.trans (hb2.mono (by simp))) (Nat.le_refl _) (d : Int) p x r⟩
          · go_simp
            gi_wp2_with (refine ⟨trivial, ?_⟩; gi_at_call 49; refine (callsIn_wide.2 (hon _)).mono ?_; rintro e w1 ⟨rfl, rfl⟩)
            refine wpAnyIn_ready (rs := [2]) (by kernel_rfl) (by simp) ?_
            refine AllReadyIn.cons rfl (fun K hK => ?_) AllReadyIn.nil
            go_simp
            refine hK _ _ ?_
            clear hK K
            refine wpAnyIn_take (i := 5) (v := .int .i64 (d : Int)) rfl rfl (by kernel_rfl) (by kernel_rfl) (by kernel_rfl) (fun _ _ _ h => by cases h.1) ⟨Or.inl ⟨by rfl, fun w => by first | rfl | go_simp⟩, fun _ => rfl⟩ ?_
            refine wpAnyIn_ready (rs := [6]) (by kernel_rfl) (by simp) ?_
            refine AllReadyIn.cons rfl (fun K hK => ?_) AllReadyIn.nil
            go_simp
            gi_wp2_with (refine ⟨trivial, ?_⟩; gi_at_call 48; refine (callsIn_wide.2 (hst _ _)).mono ?_; rintro e w2 ⟨rfl, hb2⟩)
            have hz : TripAt w2 W.heap.size 0 ⟨#[]⟩ 0 0 := TripAt.below hz0 hb2 (by simp)
            obtain ⟨y0, y1, y2, y3⟩ := hz.frozen
            obtain ⟨x0, x1, x2, x3⟩ := hz.cells
            refine wpAnyIn_ready (rs := [8]) (by kernel_rfl) (by simp) ?_
            refine AllReadyIn.cons rfl (fun K hK => ?_) AllReadyIn.nil
            go_simp
            refine hK _ _ ?_
            clear hK K
            refine wpAnyIn_done (by kernel_rfl) ?_ _
            exact ⟨rfl, _, rfl, set4_trip hz (d : Int) p x r, Nat.le_refl _, set4_below (hW0.trans (hb2.mono (by simp))) (Nat.le_refl _) (d : Int) p x r⟩
        · go_simp
          refine hK _ _ ?_
          clear hK K
          refine wpAnyIn_ready (rs := [0, 4]) (by kernel_rfl) (by simp) ?_
          refine AllReadyIn.cons rfl (fun K hK => ?_) (AllReadyIn.cons rfl (fun K hK => ?_) AllReadyIn.nil)
          · go_simp
            refine hK _ _ ?_
            clear hK K
            refine wpAnyIn_ready (rs := [4]) (by kernel_rfl) (by simp) ?_
            refine AllReadyIn.cons rfl (fun K hK => ?_) AllReadyIn.nil
            go_simp
            gi_wp2_with (refine ⟨trivial, ?_⟩; gi_at_call 49; refine (callsIn_wide.2 (hon _)).mono ?_; rintro e w1 ⟨rfl, rfl⟩)
            refine wpAnyIn_take (i := 5) (v := .int .i64 (d : Int)) rfl rfl (by kernel_rfl) (by kernel_rfl) (by kernel_rfl) (fun _ _ _ h => by cases h.1) ⟨Or.inl ⟨by rfl, fun w => by first | rfl | go_simp⟩, fun _ => rfl⟩ ?_
            refine wpAnyIn_ready (rs := [6]) (by kernel_rfl) (by simp) ?_
            refine AllReadyIn.cons rfl (fun K hK => ?_) AllReadyIn.nil
            go_simp
            gi_wp2_with (refine ⟨trivial, ?_⟩; gi_at_call 48; refine (callsIn_wide.2 (hst _ _)).mono ?_; rintro e w2 ⟨rfl, hb2⟩)
            have hz : TripAt w2 W.heap.size 0 ⟨#[]⟩ 0 0 := TripAt.below hz0 hb2 (by simp)
            obtain ⟨y0, y1, y2, y3⟩ := hz.frozen
            obtain ⟨x0, x1, x2, x3⟩ := hz.cells
            refine wpAnyIn_ready (rs := [8]) (by kernel_rfl) (by simp) ?_
            refine AllReadyIn.cons rfl (fun K hK => ?_) AllReadyIn.nil
            go_simp
            refine hK _ _ ?_
            clear hK K
            refine wpAnyIn_done (by kernel_rfl) ?_ _
            exact ⟨rfl, _, rfl, set4_trip hz (d : Int) p x r, Nat.le_refl _, set4_below (hW0.trans (hb2.mono (by simp))) (Nat.le_refl _) (d : Int) p x r⟩
          · go_simp
            gi_wp2_with (refine ⟨trivial, ?_⟩; gi_at_call 49; refine (callsIn_wide.2 (hon _)).mono ?_; rintro e w1 ⟨rfl, rfl⟩)
            refine wpAnyIn_take (i := 5) (v := .int .i64 (d : Int)) rfl rfl (by kernel_rfl) (by kernel_rfl) (by kernel_rfl) (fun _ _ _ h => by cases h.1) ⟨Or.inl ⟨by rfl, fun w => by first | rfl | go_simp⟩, fun _ => rfl⟩ ?_
            refine wpAnyIn_ready (rs := [0]) (by kernel_rfl) (by simp) ?_
            refine AllReadyIn.cons rfl (fun K hK => ?_) AllReadyIn.nil
            go_simp
            refine hK _ _ ?_
            clear hK K
            refine wpAnyIn_ready (rs := [6]) (by kernel_rfl) (by simp) ?_
            refine AllReadyIn.cons rfl (fun K hK => ?_) AllReadyIn.nil
            go_simp
            gi_wp2_with (refine ⟨trivial, ?_⟩; gi_at_call 48; refine (callsIn_wide.2 (hst _ _)).mono ?_; rintro e w2 ⟨rfl, hb2⟩)
            have hz : TripAt w2 W.heap.size 0 ⟨#[]⟩ 0 0 := TripAt.below hz0 hb2 (by simp)
            obtain ⟨y0, y1, y2, y3⟩ := hz.frozen
            obtain ⟨x0, x1, x2, x3⟩ := hz.cells
            refine wpAnyIn_ready (rs := [8]) (by kernel_rfl) (by simp) ?_
            refine AllReadyIn.cons rfl (fun K hK => ?_) AllReadyIn.nil
            go_simp
            refine hK _ _ ?_
            clear hK K
            refine wpAnyIn_done (by kernel_rfl) ?_ _
            exact ⟨rfl, _, rfl, set4_trip hz (d : Int) p x r, Nat.le_refl _, set4_below (hW0.trans (hb2.mono (by simp))) (Nat.le_refl _) (d : Int) p x r⟩
        · go_simp
          gi_wp2_with (refine ⟨trivial, ?_⟩; gi_at_call 49; refine (callsIn_wide.2 (hon _)).mono ?_; rintro e w1 ⟨rfl, rfl⟩)
          refine wpAnyIn_ready (rs := [0, 2]) (by kernel_rfl) (by simp) ?_
          refine AllReadyIn.cons rfl (fun K hK => ?_) (AllReadyIn.cons rfl (fun K hK => ?_) AllReadyIn.nil)
          · go_simp
            refine hK _ _ ?_
            clear hK K
            refine wpAnyIn_ready (rs := [2]) (by kernel_rfl) (by simp) ?_
            refine AllReadyIn.cons rfl (fun K hK => ?_) AllReadyIn.nil
            go_simp
            refine hK _ _ ?_
            clear hK K
            refine wpAnyIn_take (i := 5) (v := .int .i64 (d : Int)) rfl rfl (by kernel_rfl) (by kernel_rfl) (by kernel_rfl) (fun _ _ _ h => by cases h.1) ⟨Or.inl ⟨by rfl, fun w => by first | rfl | go_simp⟩, fun _ => rfl⟩ ?_
            refine wpAnyIn_ready (rs := [6]) (by kernel_rfl) (by simp) ?_
            refine AllReadyIn.cons rfl (fun K hK => ?_) AllReadyIn.nil
            go_simp
            gi_wp2_with (refine ⟨trivial, ?_⟩; gi_at_call 48; refine (callsIn_wide.2 (hst _ _)).mono ?_; rintro e w2 ⟨rfl, hb2⟩)
            have hz : TripAt w2 W.heap.size 0 ⟨#[]⟩ 0 0 := TripAt.below hz0 hb2 (by simp)
            obtain ⟨y0, y1, y2, y3⟩ := hz.frozen
            obtain ⟨x0, x1, x2, x3⟩ := hz.cells
            refine wpAnyIn_ready (rs := [8]) (by kernel_rfl) (by simp) ?_
            refine AllReadyIn.cons rfl (fun K hK => ?_) AllReadyIn.nil
            go_simp
            refine hK _ _ ?_
            clear hK K
            refine wpAnyIn_done (by kernel_rfl) ?_ _
            exact ⟨rfl, _, rfl, set4_trip hz (d : Int) p x r, Nat.le_refl _, set4_below (hW0.trans (hb2.mono (by simp))) (Nat.le_refl _) (d : Int) p x r⟩
          · go_simp
            refine hK _ _ ?_
            clear hK K
            refine wpAnyIn_take (i := 5) (v := .int .i64 (d : Int)) rfl rfl (by kernel_rfl) (by kernel_rfl) (by kernel_rfl) (fun _ _ _ h => by cases h.1) ⟨Or.inl ⟨by rfl, fun w => by first | rfl | go_simp⟩, fun _ => rfl⟩ ?_
            refine wpAnyIn_ready (rs := [0]) (by kernel_rfl) (by simp) ?_
            refine AllReadyIn.cons rfl (fun K hK => ?_) AllReadyIn.nil
            go_simp
            refine hK _ _ ?_
            clear hK K
            refine wpAnyIn_ready (rs := [6]) (by kernel_rfl) (by simp) ?_
            refine AllReadyIn.cons rfl (fun K hK => ?_) AllReadyIn.nil
            go_simp
            gi_wp2_with (refine ⟨trivial, ?_⟩; gi_at_call 48; refine (callsIn_wide.2 (hst _ _)).mono ?_; rintro e w2 ⟨rfl, hb2⟩)
            have hz : TripAt w2 W.heap.size 0 ⟨#[]⟩ 0 0 := TripAt.below hz0 hb2 (by simp)
            obtain ⟨y0, y1, y2, y3⟩ := hz.frozen
            obtain ⟨x0, x1, x2, x3⟩ := hz.cells
            refine wpAnyIn_ready (rs := [8]) (by kernel_rfl) (by simp) ?_
            refine AllReadyIn.cons rfl (fun K hK => ?_) AllReadyIn.nil
            go_simp
            refine hK _ _ ?_
            clear hK K
            refine wpAnyIn_done (by kernel_rfl) ?_ _
            exact ⟨rfl, _, rfl, set4_trip hz (d : Int) p x r, Nat.le_refl _, set4_below (hW0.trans (hb2.mono (by simp))) (Nat.le_refl _) (d : Int) p x r⟩
    · rintro e a' w' ⟨rfl, g5, rfl, h5, hg5, hb5⟩
      have hbz := hb5.size
      have hTW := hT.below hb5 hT.lt
      have hRW : TripAt w' (w.heap.size + 1) 0 ⟨#[]⟩ 0 0 := TripAt.below (show TripAt W (w.heap.size + 1) 0 ⟨#[]⟩ 0 0 from hR) hb5 (show TripAt W (w.heap.size + 1) 0 ⟨#[]⟩ 0 0 from hR).lt
      have hNW := boxed_bel hN hb5
      have hB5 := hB.trans (hb5.mono hB.size)
      have hI := hs1 d w' hB5
      have hTl := hT.lt
      have hRl := (show TripAt W (w.heap.size + 1) 0 ⟨#[]⟩ 0 0 from hR).lt
      have hNl := Boxed.lt hN
      obtain ⟨m0, m1, m2, m3⟩ := h5.cells
      have hsn := leastL_snoc S b pre z
      rw [hc] at hsn
      unfold leastS at hsn
      rw [hd] at hsn
      have HSN := Lib.hid hsn
      clear hsn hc hd hs1 hon hst c0 c1 c2 c3 k0 k1 k2 k3 hdr
      cases hS : S d with
      | false =>
        have HS := Lib.hid hS
        rw [hS] at hI
        clear hS
        gi_wp2_with (refine ⟨trivial, ?_⟩; gi_at_call 17; refine (CallsIn.inRound l (callsIn_wide.2 hI)).mono ?_; rintro e w2 ⟨rfl, hb2⟩)
        have e2 := HSN.out
        rw [HS.out, if_neg (by simp)] at e2
        refine ⟨(keeps_below hb5).trans (keeps_below hb2), ((hb2.block _ (by omega)).trans (hb5.block _ hNl)), ?_⟩
        dsimp only
        rw [e2]
        exact ⟨hTW.below hb2 hTW.lt, hRW.below hb2 hRW.lt, boxed_bel hNW hb2, hB5.trans (hb2.mono hB5.size)⟩
      | true =>
        have HS := Lib.hid hS
        rw [hS] at hI
        clear hS
        gi_wp2_with (refine ⟨trivial, ?_⟩; gi_at_call 17; refine (CallsIn.inRound l (callsIn_wide.2 hI)).mono ?_; rintro e w2 ⟨rfl, hb2⟩; obtain ⟨q0, q1, q2, q3⟩ := (h5.below hb2 h5.lt).cells; obtain ⟨p0, p1, p2, p3⟩ := (hTW.below hb2 hTW.lt).cells; obtain ⟨f0, f1, f2, f3⟩ := (hTW.below hb2 hTW.lt).frozen)
        have e2 := HSN.out
        rw [HS.out, if_pos rfl] at e2
        have hT2 := hTW.below hb2 hTW.lt
        have hne : ∀ b', b' < W.heap.size → b' ≠ w.heap.size → (set4 w2 w.heap.size (d : Int) p x r).heap[b']? = W.heap[b']? := fun b' hb' h => by
          have H : ∀ (Z : World) (o : Nat) (u : Value), (Z.setCell ⟨w.heap.size, o, none⟩ u).heap[b']? = Z.heap[b']? := fun Z o u => heap_setCell_other Z _ b' u (by simpa using h)
          unfold set4
          rw [H, H, H, H]
          exact (hb2.block _ (by omega)).trans (hb5.block _ hb')
        have hkeep : KeepsOthers W (set4 w2 w.heap.size (d : Int) p x r) := by
          unfold set4
          exact ((((((keeps_below hb5).trans (keeps_below hb2)).trans (KeepsOthers.setCell _ _ _)).trans (KeepsOthers.setCell _ _ _)).trans (KeepsOthers.setCell _ _ _)).trans (KeepsOthers.setCell _ _ _))
        refine ⟨hkeep, hne _ hNl (by omega), ?_⟩
        dsimp only
        rw [e2]
        exact ⟨set4_trip hT2 (d : Int) p x r, (hne _ hRl (by omega)).trans (show _ = _ from hR), (hne _ hNl (by omega)).trans (show _ = _ from hN), set4_below (hB5.trans (hb2.mono hB5.size)) (Nat.le_refl _) (d : Int) p x r⟩
  case done =>
    rintro D ys W hD rfl ⟨hT, hR, hN, hB⟩ hK
    have hT : TripAt W w.heap.size ((leastL S b (topL (b : Int) 0) : Nat) : Int) p x r := hT
    have hR : TripAt W (w.heap.size + 1) 0 ⟨#[]⟩ 0 0 := hR
    obtain ⟨c0, c1, c2, c3⟩ := hT.cells
    obtain ⟨q0, q1, q2, q3⟩ := hR.cells
    obtain ⟨f0, f1, f2, f3⟩ := hR.frozen
    gi_wp2
    have hX := set4_trip hR ((leastL S b (topL (b : Int) 0) : Nat) : Int) p x r
    have bX := set4_below hB (Nat.le_succ _) ((leastL S b (topL (b : Int) 0) : Nat) : Int) p x r
    unfold set4 at hX bX
    have hK' := ((((KeepsOthers.setCell W ⟨w.heap.size + 1, 0, none⟩ (.int .i64 ((leastL S b (topL (b : Int) 0) : Nat) : Int))).trans (KeepsOthers.setCell _ ⟨w.heap.size + 1, 1, none⟩ (.string p))).trans (KeepsOthers.setCell _ ⟨w.heap.size + 1, 2, none⟩ (.int .i64 x))).trans (KeepsOthers.setCell _ ⟨w.heap.size + 1, 3, none⟩ (.int .i64 r))).same D _ hK rfl
    generalize ((((W.setCell ⟨w.heap.size + 1, 0, none⟩ (.int .i64 ((leastL S b (topL (b : Int) 0) : Nat) : Int))).setCell ⟨w.heap.size + 1, 1, none⟩ (.string p)).setCell ⟨w.heap.size + 1, 2, none⟩ (.int .i64 x)).setCell ⟨w.heap.size + 1, 3, none⟩ (.int .i64 r)) = X at hX bX hK' ⊢
    refine ⟨by simp, .inl ⟨_, _, rfl, run_takeDeferred hK', ?_⟩⟩
    have hgD := grownBy_putObj' X D (.deferred none)
    have hD2 : w.heap.size + 1 < D := by simp at hD; omega
    have hY : TripAt (X.putObj D (.deferred none)) (w.heap.size + 1) ((leastL S b (topL (b : Int) 0) : Nat) : Int) p x r := (World.putObj_heap_other (by omega)).trans hX
    obtain ⟨e0, e1, e2, e3⟩ := hY.cells
    refine ⟨.tuple #[.agg #[.int .i64 ((leastL S b (topL (b : Int) 0) : Nat) : Int), .string p, .int .i64 x, .int .i64 r], .bool true], ?_, rfl, bX.grown hgD bX.size (fun i e => by have := Option.some.inj e; omega)⟩
    simp [results, Tryz.results13, go_sem, e0, e1, e2, e3]
  case stop =>
    rintro D c pre W _ _ h _
    exact h.elim
end Go.Proofs.YtngcdgnijfiocaaGreatDoor

namespace Go.Proofs.YtngcdgnijfiocaaGreatDoor
open Go.ChangeShapes Go.WideShapes Go.ChangeAt Go.RowKit Go.Shelf Go.Maps
attribute [local go_sem] Oper.semAt_some
set_option maxRecDepth 100000

/-- **THE PROGRAM's LeastBefore.** -/
theorem pleast (b : Int) (p : ByteArray) (x r : Int) (w : World) {N : Nat} (hL : Laid3 N w) (hE : NoTrip N w) :
    Calls Tryz.prog 13 #[.agg #[.int .i64 b, .string p, .int .i64 x, .int .i64 r]] w fun e w' => e = .returned (.tuple #[.agg #[.int .i64 (leastZ b p x r).b, .string (leastZ b p x r).p, .int .i64 (leastZ b p x r).x, .int .i64 (leastZ b p x r).r], .bool (sureT b p x r)]) ∧ Below w.heap.size w w' := by
  cases h : sureT b p x r with
  | false =>
    have e : leastZ b p x r = zeroT := by unfold leastZ; rw [h]; rfl
    rw [e]
    exact pleast_no b p x r w hL hE h
  | true =>
    obtain ⟨m, hm, rfl⟩ := sure_set h
    have e : leastZ (m : Int) p x r = ⟨((leastT (fun n => sureT (n : Int) p x r) m 0 : Nat) : Int), p, x, r⟩ := by unfold leastZ; rw [h, if_pos rfl, Int.toNat_natCast]
    rw [e]
    exact callsIn_wide.1 (pleast_yes_in m p x r w hL hE hm h)

end Go.Proofs.YtngcdgnijfiocaaGreatDoor
