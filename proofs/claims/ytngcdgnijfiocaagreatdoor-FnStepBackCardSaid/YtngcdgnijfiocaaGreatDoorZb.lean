/- Chapter 8, the program: texts from the last to the first; one step back. Chapter 8, the program: sequences stepped back. -/
import Derived.Test.YtngcdgnijfiocaaGreatDoorZa
import Derived.Test.YtngcdgnijfiocaaGreatDoorBQ
namespace Go.Proofs.YtngcdgnijfiocaaGreatDoor
open Go.ChangeShapes Go.WideShapes Go.ChangeAt Go.RowKit Go.Shelf
attribute [local go_sem] Oper.semAt_some
set_option maxRecDepth 100000

theorem stepN_no {b : List UInt8} (h : okP b = false) (m : Nat) : stepN b m = 0 := by
  unfold okP at h
  unfold stepN
  cases h2 : readP b with
  | none => rfl
  | some nd => rw [h2] at h; cases h
theorem pfog (b : List UInt8) {m : Nat} (hm : m < 512) (w : World) {N : Nat} (hL : Laid3 N w) (hE : NoExit N w) :
    Calls Tryz.prog 62 #[.string ⟨b.toArray⟩, .int .i64 (m : Int)] w fun e w' => e = .returned (.tuple #[.int .i64 ((stepN b m : Nat) : Int), .bool (okP b)]) ∧ Below w.heap.size w w' := by
  have hF := pfails ⟨b.toArray⟩ w hL hE
  have hG := fun (X : World) (hX : Laid3 N X) (hY : NoExit N X) => pcan ⟨b.toArray⟩ (m : Int) 0 X hX hY
  cases ho : okP b with
  | false =>
    obtain ⟨t1, t2, t3, t4⟩ := tell_no ho (m : Int)
    rw [t1, t2] at hF
    rw [t3, t4] at hG
    rw [stepN_no ho]
    clear t1 t2 t3 t4 ho
    generalize (⟨b.toArray⟩ : ByteArray) = t at hF hG ⊢
    go_enter Tryz.func62, Tryz.ntmps62
    go_wp2_with (first
      | (go_at_call 28; refine hF.mono ?_; rintro e W1 ⟨rfl, hb1⟩; have hL1 := hL.below hb1 hL.lt; have hE1 := hE.below hb1 hL.lt)
      | (go_at_call 29; refine (hG _ hL1 hE1).mono ?_; rintro e W2 ⟨rfl, hb2⟩))
    go_ret2
    exact ⟨rfl, hb1.trans (hb2.mono hb1.size)⟩
  | true =>
    obtain ⟨c, d, hc9, hd9, hst, t1, t2, t3, t4⟩ := tell_yes ho hm
    rw [t1, t2] at hF
    rw [t3, t4] at hG
    rw [hst]
    have hor := or_nat c d (by omega) (by omega)
    clear t1 t2 t3 t4 hst ho
    generalize (⟨b.toArray⟩ : ByteArray) = t at hF hG ⊢
    go_enter Tryz.func62, Tryz.ntmps62
    go_wp2_with (first
      | (go_at_call 28; refine hF.mono ?_; rintro e W1 ⟨rfl, hb1⟩; have hL1 := hL.below hb1 hL.lt; have hE1 := hE.below hb1 hL.lt)
      | (go_at_call 29; refine (hG _ hL1 hE1).mono ?_; rintro e W2 ⟨rfl, hb2⟩))
    go_ret2
    exact ⟨rfl, hb1.trans (hb2.mono hb1.size)⟩

/-! ### From the last to the first -/
def encF (ws : List (List UInt8)) (y : Fin ws.length) : Array Value := #[.int .i64 (y.val : Int), .string ⟨(ws[y.val]).toArray⟩]
/-- The last d places of n, the last one first. -/
def enumB (n : Nat) : Nat → List (Fin n)
  | 0 => []
  | d + 1 => if h : n - 1 - d < n ∧ d < n then enumB n d ++ [⟨n - 1 - d, h.1⟩] else enumB n d
def enumK (n : Nat) (k : Nat) : List (Fin n) := enumB n (n - k)
theorem enumK_step {n k : Nat} (hk : k < n) : enumK n k = enumK n (k + 1) ++ [⟨k, hk⟩] := by
  unfold enumK
  have e : n - 1 - (n - (k + 1)) = k := by omega
  rw [show n - k = (n - (k + 1)) + 1 by omega, enumB, dif_pos ⟨by omega, by omega⟩]
  simp only [e]
theorem enumB_len (n : Nat) : ∀ d, (enumB n d).length ≤ d
  | 0 => Nat.le_refl _
  | d + 1 => by
    have := enumB_len n d
    unfold enumB
    split
    · rw [List.length_append]; simp; omega
    · omega
theorem enumK_prefix {n k : Nat} (h : k ≤ n) : enumK n k <+: enumK n 0 := by
  have H : ∀ d e, enumB n d <+: enumB n (d + e) := by
    intro d e
    induction e with
    | zero => exact List.prefix_refl _
    | succ e ih =>
      refine ih.trans ?_
      show _ <+: enumB n (d + e + 1)
      rw [enumB]
      split
      · exact List.prefix_append _ _
      · exact List.prefix_refl _
  have := H (n - k) k
  unfold enumK
  rw [show n - k + k = n - 0 by omega] at this
  exact this
/-- The row and the states behind, after some places. -/
def foldP (ws : List (List UInt8)) (pre : List (Fin ws.length)) : List Int × Nat := pre.foldl (fun s y => (s.1.set y.val ((stepN ws[y.val] s.2 : Nat) : Int), stepN ws[y.val] s.2)) (List.replicate ws.length 0, 0)
theorem foldP_snoc (ws : List (List UInt8)) (pre : List (Fin ws.length)) (y : Fin ws.length) : foldP ws (pre ++ [y]) = ((foldP ws pre).1.set y.val ((stepN ws[y.val] (foldP ws pre).2 : Nat) : Int), stepN ws[y.val] (foldP ws pre).2) := by
  unfold foldP
  rw [List.foldl_append]
  rfl
theorem foldP_len (ws : List (List UInt8)) (pre : List (Fin ws.length)) : (foldP ws pre).1.length = ws.length := by
  have H : ∀ (l : List (Fin ws.length)) (s : List Int × Nat), (l.foldl (fun s y => (s.1.set y.val ((stepN ws[y.val] s.2 : Nat) : Int), stepN ws[y.val] s.2)) s).1.length = s.1.length := by
    intro l
    induction l with
    | nil => intro s; rfl
    | cons y l ih => intro s; rw [List.foldl_cons, ih, List.length_set]
  unfold foldP
  rw [H, List.length_replicate]
theorem foldP_lt (ws : List (List UInt8)) (pre : List (Fin ws.length)) : (foldP ws pre).2 < 512 := by
  have H : ∀ (l : List (Fin ws.length)) (s : List Int × Nat), s.2 < 512 → (l.foldl (fun s y => (s.1.set y.val ((stepN ws[y.val] s.2 : Nat) : Int), stepN ws[y.val] s.2)) s).2 < 512 := by
    intro l
    induction l with
    | nil => intro s hs; exact hs
    | cons y l ih => intro s hs; rw [List.foldl_cons]; exact ih _ (stepN_lt _ _)
  exact H pre _ (by show (0 : Nat) < 512; decide)
theorem foldP_enum (ws : List (List UInt8)) : ∀ d, d ≤ ws.length → foldP ws (enumK ws.length (ws.length - d)) = (partS ws (ws.length - d), headS ws (ws.length - d))
  | 0, _ => by
    rw [Nat.sub_zero, partS_full, headS_full]
    unfold enumK
    rw [Nat.sub_self]
    rfl
  | d + 1, h => by
    have ih := foldP_enum ws d (by omega)
    have hk : ws.length - (d + 1) < ws.length := by omega
    have e : ws.length - (d + 1) + 1 = ws.length - d := by omega
    have hz : ws[ws.length - (d + 1)]? = some ws[ws.length - (d + 1)] := List.getElem?_eq_getElem hk
    have h1 := partS_set hz
    have h2 := headS_step hz
    rw [e] at h1 h2
    rw [enumK_step hk, foldP_snoc, e, ih]
    dsimp only
    rw [h1, ← h2]
theorem foldP_all (ws : List (List UInt8)) : foldP ws (enumK ws.length 0) = (partS ws 0, headS ws 0) := by
  have := foldP_enum ws ws.length (Nat.le_refl _)
  rwa [Nat.sub_self] at this
theorem mem_enum {n : Nat} (y : Fin n) : ∀ d, d ≤ n → n - d ≤ y.val → y ∈ enumB n d
  | 0, _, h => absurd y.isLt (by omega)
  | d + 1, hd, h => by
    unfold enumB
    rw [dif_pos ⟨by omega, by omega⟩, List.mem_append, List.mem_singleton]
    by_cases he : y.val = n - 1 - d
    · exact .inr (Fin.ext he)
    · exact .inl (mem_enum y d (by omega) (by omega))
/-- What a round keeps for the iterator: the captured list's box, and the list. -/
def KpE (b c : Nat) (W W' : World) : Prop := W'.heap[b]? = W.heap[b]? ∧ W'.heap[c]? = W.heap[c]?
theorem kpE_t {b c : Nat} {A B C : World} (h : KpE b c A B) (k : KpE b c B C) : KpE b c A C := ⟨k.1.trans h.1, k.2.trans h.2⟩
theorem kpE_b {b c : Nat} {w : World} (hb : b < w.heap.size) (hc : c < w.heap.size) (W : World) (l : Nat) (o o' : Obj) (hl : w.heap.size ≤ l) (_ : W.heap[l]? = some o) (_ : o.isCells = false) (_ : o.isWalk = false) : KpE b c W (W.putObj l o') :=
  ⟨World.putObj_heap_other (by omega), World.putObj_heap_other (by omega)⟩

set_option maxHeartbeats 2000000 in
theorem textsback_in (n : Nat) (hn : 1 ≤ n) (l Bn : Nat) (x : Addr) (cap : Nat) (ws : List (List UInt8)) (hlen : ws.length ≤ 1048576) (J Jx : List (Fin ws.length) → World → Prop)
    (hY : ∀ pre y W, J pre W → pre.length < ws.length → YieldAt Fence.wide (n - 1) Tryz.prog l (encF ws y) W fun e W' =>
      (e = .returned (.bool true) ∧ J (pre ++ [y]) W' ∧ KpE Bn x.block W W') ∨ (e = .returned (.bool false) ∧ Jx (pre ++ [y]) W'))
    (W : World) (hB : W.cell? ⟨Bn, 0, none⟩ = some (.slice (some x) ws.length cap)) (hc : ∀ (j : Nat) b, ws[j]? = some b → W.cell? (x.add j) = some (.string ⟨b.toArray⟩)) (hJ0 : J [] W) :
    CallsIn Fence.wide n Tryz.prog 111 #[.func (.yield l) #[] #[], .pointer (some ⟨Bn, 0, none⟩)] W fun e W' => (∃ v, e = .returned v) ∧
      ((∃ ys, ys = enumK ws.length 0 ∧ J ys W') ∨ (∃ pre, pre <+: enumK ws.length 0 ∧ Jx pre W')) := by
  have hli : (ws.length : Int) ≤ 1048576 := by omega
  have hl0 : (0 : Int) ≤ (ws.length : Int) := by omega
  refine callsIn_of_wp Tryz.func111 rfl trivial ?_ rfl
  simp only [Tryz.ntmps111, List.size_toArray, List.length_cons, List.length_nil, Nat.reduceAdd, Nat.reduceSub, Array.replicate_succ, Array.replicate_zero, List.push_toArray, List.append_toArray, List.nil_append, List.cons_append]
  gi_wp2
  gi_loopw [3] (fun i wr => ∃ k : Nat, k ≤ ws.length ∧ i = .int .i64 ((k : Int) - 1) ∧ wr.cell? ⟨Bn, 0, none⟩ = some (.slice (some x) ws.length cap) ∧ (∀ (j : Nat) b, ws[j]? = some b → wr.cell? (x.add j) = some (.string ⟨b.toArray⟩)) ∧ J (enumK ws.length k) wr) (fun i _ => (intOf i + 1).toNat)
  case atStart =>
    exact ⟨ws.length, by omega, rfl, hB, hc, by unfold enumK; rw [Nat.sub_self]; exact hJ0⟩
  case round =>
    obtain ⟨k, hk, rfl, hcB, hcc, hJ⟩ := hrel
    cases k with
    | zero =>
      rw [show ((0 : Nat) : Int) - 1 = -1 from rfl]
      gi_wp2
      go_end0
      exact ⟨⟨_, rfl⟩, .inl ⟨_, rfl, hJ⟩⟩
    | succ k =>
      rw [show ((k + 1 : Nat) : Int) - 1 = (k : Int) by omega]
      have hlt : k < ws.length := by omega
      have hlti : (k : Int) < (ws.length : Int) := by omega
      have k0i : (0 : Int) ≤ (k : Int) := by omega
      have hz : ws[k]? = some ws[k] := List.getElem?_eq_getElem hlt
      have hck := hcc k _ hz
      have hu := Lib.hid (enumK_step hlt)
      obtain ⟨fn, tmps, assign, body, hy, hR⟩ := hY (enumK ws.length (k + 1)) ⟨k, hlt⟩ wr hJ (by have := enumB_len ws.length (ws.length - (k + 1)); unfold enumK; omega)
      dsimp only [encF] at hy
      generalize ws[k] = b at hck hy
      have HCC := Lib.hid hcc
      clear hcc hz hY
      gi_wp2
      refine hR.mono ?_
      rintro e W3 (⟨rfl, hJ3, hk3⟩ | ⟨rfl, hJx3⟩)
      · have hc3 : W3.cell? ⟨Bn, 0, none⟩ = some (.slice (some x) ws.length cap) := (World.cell?_of_block (w := wr) (w' := W3) (a := ⟨Bn, 0, none⟩) hk3.1).trans hcB
        have hc4 : ∀ (j : Nat) b, ws[j]? = some b → W3.cell? (x.add j) = some (.string ⟨b.toArray⟩) := fun j b hj => (World.cell?_of_block (w := wr) (w' := W3) (a := x.add j) (by rw [add_block]; exact hk3.2)).trans (HCC.out j b hj)
        have HC4 := Lib.hid hc4
        clear hc4 HCC
        gi_wp2
        go_roundw
        case rel => exact ⟨k, by omega, by first | rfl | go_num, hc3, HC4.out, by rw [hu.out]; exact hJ3⟩
        case measure => (simp [intOf] <;> omega)
      · gi_wp2
        refine bodyPost_ret (results_none rfl _ _ _) rfl ?_
        refine ⟨⟨_, rfl⟩, .inr ⟨enumK ws.length (k + 1) ++ [⟨k, hlt⟩], ?_, hJx3⟩⟩
        have hp := enumK_prefix (n := ws.length) (k := k) (by omega)
        rw [hu.out] at hp
        exact hp
theorem tbmaker_in (n : Nat) (a : Option Addr) (m c : Nat) (w : World) :
    CallsIn Fence.wide n Tryz.prog 93 #[.slice a m c] w fun e w' => e = .returned (.func (.func 111) #[] #[.pointer (some ⟨w.heap.size, 0, none⟩)]) ∧ w' = w.alloc (.cells #[.slice a m c] 29) := by
  refine callsIn_of_wp Tryz.func93 rfl trivial ?_ rfl
  simp only [Tryz.ntmps93, List.size_toArray, List.length_cons, List.length_nil, Nat.reduceAdd, Nat.reduceSub, Array.replicate_succ, Array.replicate_zero, List.push_toArray, List.append_toArray, List.nil_append, List.cons_append]
  gi_wp2
  go_ret
  exact ⟨rfl, rfl⟩
theorem textsback_stops (n : Nat) (hn : 1 ≤ n) (Bn : Nat) (x : Addr) (cap : Nat) (ws : List (List UInt8)) (hlen : ws.length ≤ 1048576) (w : World) (hBn : w.cell? ⟨Bn, 0, none⟩ = some (.slice (some x) ws.length cap)) (hc : ∀ (j : Nat) b, ws[j]? = some b → w.cell? (x.add j) = some (.string ⟨b.toArray⟩)) :
    SeqStopsK Fence.wide n Tryz.prog 111 #[.pointer (some ⟨Bn, 0, none⟩)] (encF ws) (KpE Bn x.block) (fun ys => ys = enumK ws.length 0) (fun pre => pre <+: enumK ws.length 0) ws.length w := fun l J Jx W hW _ _ hY h0 =>
  textsback_in n hn l Bn x cap ws hlen J Jx hY W ((hW.cell (lt_cell hBn)).trans hBn) (fun j b hj => (hW.cell (lt_cell (hc j b hj))).trans (hc j b hj)) h0
end Go.Proofs.YtngcdgnijfiocaaGreatDoor

namespace Go.Proofs.YtngcdgnijfiocaaGreatDoor
open Go.ChangeShapes Go.WideShapes Go.ChangeAt Go.RowKit Go.Shelf
attribute [local go_sem] Oper.semAt_some
set_option maxRecDepth 100000

set_option maxHeartbeats 4000000 in
theorem pfold_in {W : World} {x : Addr} {cap : Nat} {ws : List (List UInt8)} (hlen : ws.length ≤ 8) (hx : x.block < W.heap.size) (hc : ∀ (j : Nat) b, ws[j]? = some b → W.cell? (x.add j) = some (.string ⟨b.toArray⟩)) {N : Nat} (hL : Laid3 N W) (hE : NoExit N W) :
    CallsIn Fence.wide 3 Tryz.prog 61 #[.slice (some x) ws.length cap, .func (.func 62) #[] #[]] W fun e W' => ∃ r0, e = .returned (.tuple #[r0, .bool (okS ws)]) ∧ IRow W' W.heap.size r0 (resS ws) ∧ Below W.heap.size W W' := by
  obtain ⟨i0, hi, hz0, hz1, hz2⟩ := info_parts infoI8
  have hnn : ¬ ((ws.length : Int) < 0) := by omega
  have hni : (ws.length : Int) ≤ 8 := by omega
  refine callsIn_of_wp_marks Tryz.func61 rfl trivial ?_ rfl
  simp only [Tryz.ntmps61, List.size_toArray, List.length_cons, List.length_nil, Nat.reduceAdd, Nat.reduceSub, Array.replicate_succ, Array.replicate_zero, List.push_toArray, List.append_toArray, List.nil_append, List.cons_append]
  obtain ⟨V, hV⟩ : ∃ V, V = ((W.alloc (.cells #[.func (.func 62) #[] #[]] 137)).alloc (.cells #[.slice none 0 0] 38)).alloc (.cells #[.bool false] 4) := ⟨_, rfl⟩
  have hBV : Below W.heap.size W V := by rw [hV]; exact (((Below.refl _ W).alloc (Nat.le_refl _) _).alloc (by simp) _).alloc (by simp; omega) _
  have hsV : V.heap.size = W.heap.size + 1 + 1 + 1 := by rw [hV]; simp
  have bS : Boxed V W.heap.size 137 (.func (.func 62) #[] #[]) := by rw [hV]; exact ((Boxed.new W _ _).alloc _).alloc _
  have bR : Boxed V (W.heap.size + 1) 38 (.slice none 0 0) := by
    rw [hV]
    have := Boxed.new (W.alloc (.cells #[.func (.func 62) #[] #[]] 137)) 38 (.slice none 0 0)
    rw [World.size_alloc] at this
    exact this.alloc _
  have bO : Boxed V (W.heap.size + 1 + 1) 4 (.bool false) := by
    rw [hV]
    have := Boxed.new ((W.alloc (.cells #[.func (.func 62) #[] #[]] 137)).alloc (.cells #[.slice none 0 0] 38)) 4 (.bool false)
    simpa only [World.size_alloc] using this
  obtain ⟨w1, hr, hown, hg1⟩ := run_make_full (P := Tryz.prog) V V.heap.size 38 3 i0 (.int .i64 0) 1 Tryz.underlying38 hi hz0 hz1 .i64 .i64 ws.length (by rw [hz2]; omega) (by unfold maxLen; omega) (Nat.le_refl _)
  have hrow : IRow w1 V.heap.size (.slice (some ⟨V.heap.size, 0, none⟩) ws.length ws.length) (partS ws ws.length) := by
    unfold IRow
    rw [partS_full, List.length_replicate, List.map_replicate, ← toList_madeCells_one]
    simpa [Value.cells] using hown
  rw [hsV] at hr hrow
  rw [hV] at hr
  clear hown
  gi_wp2_with (refine ⟨trivial, ?_⟩; gi_at_call 93; refine (tbmaker_in 2 _ _ _ _).mono ?_; rintro e w' ⟨rfl, rfl⟩)
  clear hr hV
  have hw1 : W.heap.size + 1 + 1 + 1 < w1.heap.size := by
    rcases hrow.cases with ⟨he, _⟩ | ⟨g, c, he, _, hlt, _⟩
    · cases he
    · have := congrArg Value.ownBlock he
      simp [Value.ownBlock] at this
      omega
  have hB1 : Below W.heap.size W w1 := hBV.grown hg1 hBV.size (fun i e => by cases e)
  have bT := Boxed.new w1 38 (.slice (some ⟨W.heap.size + 1 + 1 + 1, 0, none⟩) ws.length ws.length)
  have bB := Boxed.new (w1.alloc (.cells #[.slice (some ⟨W.heap.size + 1 + 1 + 1, 0, none⟩) ws.length ws.length] 38)) 3 (.int .i64 0)
  have bN := Boxed.new ((w1.alloc (.cells #[.slice (some ⟨W.heap.size + 1 + 1 + 1, 0, none⟩) ws.length ws.length] 38)).alloc (.cells #[.int .i64 0] 3)) 29 (.slice (some x) ws.length cap)
  simp only [World.size_alloc] at bB bN
  have hE1 : Below w1.heap.size w1 (((w1.alloc (.cells #[.slice (some ⟨W.heap.size + 1 + 1 + 1, 0, none⟩) ws.length ws.length] 38)).alloc (.cells #[.int .i64 0] 3)).alloc (.cells #[.slice (some x) ws.length cap] 29)) := (((Below.refl _ w1).alloc (Nat.le_refl _) _).alloc (by simp) _).alloc (by simp; omega) _
  have bS := ((((bS.kept hg1 (by simp)).alloc (.cells #[.slice (some ⟨W.heap.size + 1 + 1 + 1, 0, none⟩) ws.length ws.length] 38)).alloc (.cells #[.int .i64 0] 3)).alloc (.cells #[.slice (some x) ws.length cap] 29))
  have bR := ((((bR.kept hg1 (by simp)).alloc (.cells #[.slice (some ⟨W.heap.size + 1 + 1 + 1, 0, none⟩) ws.length ws.length] 38)).alloc (.cells #[.int .i64 0] 3)).alloc (.cells #[.slice (some x) ws.length cap] 29))
  have bO := ((((bO.kept hg1 (by simp)).alloc (.cells #[.slice (some ⟨W.heap.size + 1 + 1 + 1, 0, none⟩) ws.length ws.length] 38)).alloc (.cells #[.int .i64 0] 3)).alloc (.cells #[.slice (some x) ws.length cap] 29))
  have hrE := hrow.below hE1
  have hBE := hB1.trans (hE1.mono hB1.size)
  have hsE : (((w1.alloc (.cells #[.slice (some ⟨W.heap.size + 1 + 1 + 1, 0, none⟩) ws.length ws.length] 38)).alloc (.cells #[.int .i64 0] 3)).alloc (.cells #[.slice (some x) ws.length cap] 29)).heap.size = w1.heap.size + 1 + 1 + 1 := by simp
  have hcE : ∀ (j : Nat) b, ws[j]? = some b → (((w1.alloc (.cells #[.slice (some ⟨W.heap.size + 1 + 1 + 1, 0, none⟩) ws.length ws.length] 38)).alloc (.cells #[.int .i64 0] 3)).alloc (.cells #[.slice (some x) ws.length cap] 29)).cell? (x.add j) = some (.string ⟨b.toArray⟩) := fun j b hj => (hBE.cell (lt_cell (hc j b hj))).trans (hc j b hj)
  have bT := (bT.alloc (.cells #[.int .i64 0] 3)).alloc (.cells #[.slice (some x) ws.length cap] 29)
  have bB := bB.alloc (.cells #[.slice (some x) ws.length cap] 29)
  have hszW := hBE.size
  clear hrow hg1 hE1
  generalize ((w1.alloc (.cells #[.slice (some ⟨W.heap.size + 1 + 1 + 1, 0, none⟩) ws.length ws.length] 38)).alloc (.cells #[.int .i64 0] 3)).alloc (.cells #[.slice (some x) ws.length cap] 29) = E at *
  refine wpIn_rangeFunc_ownF rfl (by omega) (gf := 111) (lb := #[.pointer (some ⟨w1.heap.size + 1 + 1, 0, none⟩)]) rfl trivial (enters_of Tryz.func111 (by kernel_rfl) rfl)
    (textsback_stops 2 (by omega) (w1.heap.size + 1 + 1) x cap ws (by omega) E bN.cell hcE) kpE_t (kpE_b (by omega) (by omega)) (Below.refl _ _) (fun _ => rfl)
    (fun pre Z => IRow Z (W.heap.size + 1 + 1 + 1) (.slice (some ⟨W.heap.size + 1 + 1 + 1, 0, none⟩) ws.length ws.length) (foldP ws pre).1 ∧ Boxed Z W.heap.size 137 (.func (.func 62) #[] #[]) ∧ Boxed Z (W.heap.size + 1) 38 (.slice none 0 0) ∧ Boxed Z (W.heap.size + 1 + 1) 4 (.bool false) ∧ Boxed Z w1.heap.size 38 (.slice (some ⟨W.heap.size + 1 + 1 + 1, 0, none⟩) ws.length ws.length) ∧ Boxed Z (w1.heap.size + 1) 3 (.int .i64 (((foldP ws pre).2 : Nat) : Int)) ∧ Boxed Z (w1.heap.size + 1 + 1) 29 (.slice (some x) ws.length cap) ∧ (∀ y ∈ pre, okP ws[y.val] = true) ∧ Below W.heap.size W Z)
    (fun c pre Z => c = .ret ∧ (∃ y : Fin ws.length, okP ws[y.val] = false) ∧ Boxed Z (W.heap.size + 1) 38 (.slice none 0 0) ∧ Boxed Z (W.heap.size + 1 + 1) 4 (.bool false) ∧ Below W.heap.size W Z)
    (fun pre Z Z' row hs hg hr => by
      obtain ⟨k1, k2, k3, k4, k5, k6, k7, k8, k9⟩ := hs
      have hne : ∀ b, b < E.heap.size → some b ≠ row := fun b hb e => by have := (hr b e.symm).1; omega
      exact ⟨k1.kept hg (.inr (hne (W.heap.size + 1 + 1 + 1) (by omega))), k2.kept hg (hne _ (by omega)), k3.kept hg (hne _ (by omega)), k4.kept hg (hne _ (by omega)), k5.kept hg (hne _ (by omega)), k6.kept hg (hne _ (by omega)), k7.kept hg (hne _ (by omega)), k8, k9.grown hg k9.size (fun i e => by have := (hr i e).1; omega)⟩)
    (fun c pre Z Z' row hs hg hr => by
      obtain ⟨k1, k2, k3, k4, k9⟩ := hs
      have hne : ∀ b, b < E.heap.size → some b ≠ row := fun b hb e => by have := (hr b e.symm).1; omega
      exact ⟨k1, k2, k3.kept hg (hne _ (by omega)), k4.kept hg (hne _ (by omega)), k9.grown hg k9.size (fun i e => by have := (hr i e).1; omega)⟩)
    ⟨by rw [partS_full] at hrE; exact hrE, bS, bR, bO, bT, bB, bN, fun y hy => absurd hy (by simp), hBE⟩
    (fun y => { tmps := #[.slice (some x) ws.length cap, .func (.func 62) #[] #[], undef, .pointer (some ⟨W.heap.size, 0, none⟩), .pointer (some ⟨W.heap.size + 1, 0, none⟩), .pointer (some ⟨W.heap.size + 1 + 1, 0, none⟩), .pointer (some ⟨w1.heap.size, 0, none⟩), .pointer (some ⟨w1.heap.size + 1, 0, none⟩), .int .i64 (y.val : Int), .string ⟨(ws[y.val]).toArray⟩, undef, undef, .slice (some x) ws.length cap, .int .i64 (ws.length : Int), .slice (some ⟨W.heap.size + 1 + 1 + 1, 0, none⟩) ws.length ws.length, .slice (some x) ws.length cap, .func (.func 111) #[] #[.pointer (some ⟨w1.heap.size + 1 + 1, 0, none⟩)], .int .i64 (y.val : Int), .string ⟨(ws[y.val]).toArray⟩, undef, undef, undef, undef, undef, undef, undef, undef, undef, undef, undef, undef, undef, undef, undef], defers := [] }) ?assign ?body ?done ?stop
  case assign =>
    intro l y Z K hK
    simp only [encF]
    gi_wp2
    exact hK
  case body =>
    rintro l pre y Z ⟨k1, k2, k3, k4, k5, k6, k7, k8, k9⟩ hpl
    have hm := foldP_lt ws pre
    have hfl := foldP_len ws pre
    have hfs := foldP_snoc ws pre y
    have hF := pfog ws[y.val] hm Z (hL.below k9 hL.lt) (hE.below k9 hL.lt)
    have hy : (y.val : Int) < (ws.length : Int) := by have := y.isLt; omega
    have hy0 : (0 : Int) ≤ (y.val : Int) := by omega
    have c2 := k2.cell
    have c6 := k6.cell
    cases ho : okP ws[y.val] with
    | false =>
      have HO := Lib.hid ho
      rw [ho] at hF
      clear ho hfs
      generalize (foldP ws pre).2 = m at hF c6 hm
      generalize (⟨(ws[y.val]).toArray⟩ : ByteArray) = tx at hF ⊢
      generalize stepN ws[y.val] m = sn at hF
      gi_wp2_with (refine ⟨trivial, ?_⟩; gi_at_call 62; refine (CallsIn.inRound l (callsIn_wide.2 hF)).mono ?_; rintro e w2 ⟨rfl, hb2⟩; have r3 := Boxed.bel k3 hb2; have r4 := Boxed.bel k4 hb2; have d3 := r3.cell; have d4 := r4.cell; have f3 := r3.frozen; have f4 := r4.frozen)
      refine ⟨((keeps_below hb2).trans (KeepsOthers.setCell _ _ _)).trans (KeepsOthers.setCell _ _ _), rfl, ⟨y, HO.out⟩, ?_, ?_, ?_⟩
      · exact Boxed.other (Boxed.set (.slice none 0 0) r3) (by omega) (.bool false)
      · exact Boxed.set (.bool false) (Boxed.other (B' := W.heap.size + 1) r4 (by omega) (.slice none 0 0))
      · exact ((k9.trans (hb2.mono k9.size)).setCell (p := ⟨W.heap.size + 1, 0, none⟩) (by show W.heap.size ≤ W.heap.size + 1; omega) _).setCell (p := ⟨W.heap.size + 1 + 1, 0, none⟩) (by show W.heap.size ≤ W.heap.size + 1 + 1; omega) _
    | true =>
      have HO := Lib.hid ho
      rw [ho] at hF
      clear ho
      generalize hmm : (foldP ws pre).2 = m at hF c6 hm hfs
      generalize (⟨(ws[y.val]).toArray⟩ : ByteArray) = tx at hF ⊢
      generalize stepN ws[y.val] m = sn at hF hfs
      gi_wp2_with (refine ⟨trivial, ?_⟩; gi_at_call 62; refine (CallsIn.inRound l (callsIn_wide.2 hF)).mono ?_; rintro e w2 ⟨rfl, hb2⟩; have r5 := Boxed.bel k5 hb2; have r6 := Boxed.bel k6 hb2; have d5 := r5.cell; have d6 := r6.cell; have f6 := r6.frozen; have kr := k1.below hb2; have fr := kr.frozen hfl y.val; have cr := kr.cellN hfl y.val y.isLt; have hst := kr.stored hfl y.val (sn : Int))
      have hfin : ∀ b, b < Z.heap.size → b ≠ W.heap.size + 1 + 1 + 1 → b ≠ w1.heap.size + 1 → (((w2.setCell ⟨W.heap.size + 1 + 1 + 1, y.val, none⟩ (.int .i64 (sn : Int))).setCell ⟨w1.heap.size + 1, 0, none⟩ (.int .i64 (sn : Int)))).heap[b]? = Z.heap[b]? := fun b hb h1 h2 =>
        ((heap_setCell_other _ _ b _ (by simpa using h2)).trans (heap_setCell_other _ _ b _ (by simpa using h1))).trans (hb2.block b hb)
      have lt7 := (Array.getElem?_eq_some_iff.1 (show Z.heap[w1.heap.size + 1 + 1]? = _ from k7)).1
      have hg2 : (w2.setCell ⟨W.heap.size + 1 + 1 + 1, y.val, none⟩ (.int .i64 (sn : Int))).grownBy ((w2.setCell ⟨W.heap.size + 1 + 1 + 1, y.val, none⟩ (.int .i64 (sn : Int))).setCell ⟨w1.heap.size + 1, 0, none⟩ (.int .i64 (sn : Int))) (some (w1.heap.size + 1)) := grown_set (below_self_grown _ _) _
      refine ⟨((keeps_below hb2).trans (KeepsOthers.setCell _ _ _)).trans (KeepsOthers.setCell _ _ _), ⟨hfin _ lt7 (by omega) (by omega), hfin _ (by omega) (by omega) (by omega)⟩, ?_⟩
      dsimp only
      rw [hfs]
      refine ⟨hst.1.kept hg2 (.inr (by simp [Value.ownBlock]; omega)), (hfin _ (by omega) (by omega) (by omega)).trans k2, (hfin _ (by omega) (by omega) (by omega)).trans k3, (hfin _ (by omega) (by omega) (by omega)).trans k4, (hfin _ (by omega) (by omega) (by omega)).trans k5, ?_, (hfin _ (by omega) (by omega) (by omega)).trans k7, ?_, ?_⟩
      · exact Boxed.set (.int .i64 (sn : Int)) (show _ = _ from (heap_setCell_other w2 ⟨W.heap.size + 1 + 1 + 1, y.val, none⟩ (w1.heap.size + 1) (.int .i64 (sn : Int)) (by simp; omega)).trans r6)
      · intro z hz
        rcases List.mem_append.1 hz with h | h
        · exact k8 z h
        · rw [List.mem_singleton] at h; subst h; exact HO.out
      · exact ((k9.trans (hb2.mono k9.size)).setCell (p := ⟨W.heap.size + 1 + 1 + 1, y.val, none⟩) (by show W.heap.size ≤ W.heap.size + 1 + 1 + 1; omega) _).setCell (p := ⟨w1.heap.size + 1, 0, none⟩) (by show W.heap.size ≤ w1.heap.size + 1; omega) _
  case done =>
    rintro D ys Z hD rfl ⟨k1, k2, k3, k4, k5, k6, k7, k8, k9⟩ hK
    have hok : okS ws = true := okS_all (fun j b hj => by
      have hjl := (List.getElem?_eq_some_iff.1 hj)
      have := k8 ⟨j, hjl.1⟩ (mem_enum _ _ (Nat.le_refl _) (by simp))
      rw [← hjl.2]
      exact this) hlen
    rw [foldP_all] at k1
    dsimp only at k1
    rw [partS_zero, ← resS_yes hok] at k1
    have c5 := k5.cell
    have c3 := k3.cell
    have f3 := k3.frozen
    have c4 := k4.cell
    have f4 := k4.frozen
    gi_wp2
    have hg1 : Z.grownBy (Z.setCell ⟨W.heap.size + 1, 0, none⟩ (.slice (some ⟨W.heap.size + 1 + 1 + 1, 0, none⟩) ws.length ws.length)) (some (W.heap.size + 1)) := grown_set (below_self_grown _ _) _
    have hg2 : (Z.setCell ⟨W.heap.size + 1, 0, none⟩ (.slice (some ⟨W.heap.size + 1 + 1 + 1, 0, none⟩) ws.length ws.length)).grownBy ((Z.setCell ⟨W.heap.size + 1, 0, none⟩ (.slice (some ⟨W.heap.size + 1 + 1 + 1, 0, none⟩) ws.length ws.length)).setCell ⟨W.heap.size + 1 + 1, 0, none⟩ (.bool true)) (some (W.heap.size + 1 + 1)) := grown_set (below_self_grown _ _) _
    have hK' := ((KeepsOthers.setCell Z ⟨W.heap.size + 1, 0, none⟩ (.slice (some ⟨W.heap.size + 1 + 1 + 1, 0, none⟩) ws.length ws.length)).trans (KeepsOthers.setCell _ ⟨W.heap.size + 1 + 1, 0, none⟩ (.bool true))).same D _ hK rfl
    have rX := Boxed.other (B' := W.heap.size + 1 + 1) (Boxed.set (.slice (some ⟨W.heap.size + 1 + 1 + 1, 0, none⟩) ws.length ws.length) k3) (by omega) (.bool true)
    have oX := Boxed.set (.bool true) (Boxed.other (B' := W.heap.size + 1) k4 (by omega) (.slice (some ⟨W.heap.size + 1 + 1 + 1, 0, none⟩) ws.length ws.length))
    have iX := (k1.kept hg1 (.inr (fun e => by have : W.heap.size + 1 + 1 + 1 = W.heap.size + 1 := Option.some.inj e; omega))).kept hg2 (.inr (fun e => by have : W.heap.size + 1 + 1 + 1 = W.heap.size + 1 + 1 := Option.some.inj e; omega))
    have bX := (k9.setCell (p := ⟨W.heap.size + 1, 0, none⟩) (by show W.heap.size ≤ W.heap.size + 1; omega) (.slice (some ⟨W.heap.size + 1 + 1 + 1, 0, none⟩) ws.length ws.length)).setCell (p := ⟨W.heap.size + 1 + 1, 0, none⟩) (by show W.heap.size ≤ W.heap.size + 1 + 1; omega) (.bool true)
    generalize (Z.setCell ⟨W.heap.size + 1, 0, none⟩ (.slice (some ⟨W.heap.size + 1 + 1 + 1, 0, none⟩) ws.length ws.length)).setCell ⟨W.heap.size + 1 + 1, 0, none⟩ (.bool true) = X at hK' rX oX iX bX ⊢
    refine ⟨by simp, .inl ⟨_, _, rfl, run_takeDeferred hK', ?_⟩⟩
    have hgD := grownBy_putObj' X D (.deferred none)
    have rY := (rX.kept hgD (fun e => by have := Option.some.inj e; omega)).cell
    have oY := (oX.kept hgD (fun e => by have := Option.some.inj e; omega)).cell
    have iY := iX.kept hgD (.inr (fun e => by have : W.heap.size + 1 + 1 + 1 = D := Option.some.inj e; omega))
    refine ⟨.tuple #[.slice (some ⟨W.heap.size + 1 + 1 + 1, 0, none⟩) ws.length ws.length, .bool true], ?_, .slice (some ⟨W.heap.size + 1 + 1 + 1, 0, none⟩) ws.length ws.length, by rw [hok], iY.mono (by omega), bX.grown hgD bX.size (fun i e => by have := Option.some.inj e; omega)⟩
    simp [results, Tryz.results61, go_sem, rY, oY]
  case stop =>
    rintro D c pre Z hD hpre ⟨rfl, ⟨y, hyo⟩, k3, k4, k9⟩ hK
    have hno := okS_no (ws := ws) (List.getElem?_eq_getElem y.isLt) hyo
    gi_wp2
    refine ⟨by simp, .inl ⟨_, _, rfl, run_takeDeferred hK, ?_⟩⟩
    have hgD := grownBy_putObj' Z D (.deferred none)
    have rY := (Boxed.kept k3 hgD (fun e => by have := Option.some.inj e; omega)).cell
    have oY := (Boxed.kept k4 hgD (fun e => by have := Option.some.inj e; omega)).cell
    refine ⟨.tuple #[.slice none 0 0, .bool false], ?_, .slice none 0 0, by rw [hno], by rw [resS_no hno]; exact World.ownsRow_nil _ _ _ _, k9.grown hgD k9.size (fun i e => by have := Option.some.inj e; omega)⟩
    simp [results, Tryz.results61, go_sem, rY, oY]
/-- **THE PROGRAM's StepBack.** -/
theorem pstep8 {W : World} {x : Addr} {cap : Nat} {ws : List (List UInt8)} (hn : ws.length ≤ 1048576) (hx : x.block < W.heap.size) (hc : ∀ (j : Nat) b, ws[j]? = some b → W.cell? (x.add j) = some (.string ⟨b.toArray⟩)) {N : Nat} (hL : Laid3 N W) (hE : NoExit N W) :
    Calls Tryz.prog 25 #[.slice (some x) ws.length cap] W fun e W' => ∃ r0, e = .returned (.tuple #[r0, .bool (okS ws)]) ∧ IRow W' W.heap.size r0 (resS ws) ∧ Below W.heap.size W W' := by
  by_cases h8 : ws.length ≤ 8
  · have h8i : (ws.length : Int) ≤ 8 := by omega
    have H := callsIn_wide.1 (pfold_in (cap := cap) h8 hx hc hL hE)
    clear hc
    go_enter Tryz.func25, Tryz.ntmps25
    go_wp2_with (go_at_call 61; refine H.mono ?_; rintro e W1 ⟨r0, rfl, i0, b0⟩)
    go_ret2
    exact ⟨r0, rfl, i0, b0⟩
  · have h8i : (8 : Int) < (ws.length : Int) := by omega
    have hno := okS_long (ws := ws) (by omega)
    have HNO := Lib.hid hno
    clear hc hno
    go_enter Tryz.func25, Tryz.ntmps25
    go_wp2_with fail
    go_ret2
    exact ⟨.slice none 0 0, (by rw [HNO.out]; rfl), by rw [resS_no HNO.out]; exact World.ownsRow_nil _ _ _ _, Below.refl _ _⟩
end Go.Proofs.YtngcdgnijfiocaaGreatDoor
