/- Chapter 8, the program: texts from the last to the first; one step back. -/
import Derived.Test.YtpepaobgngighabGreatDoorSB
import Derived.Test.YtpepaobgngighabGreatDoorBQ
namespace Go.Proofs.YtpepaobgngighabGreatDoor
open Go.ChangeShapes Go.WideShapes Go.ChangeAt Go.RowKit Go.Shelf
attribute [local go_sem] Oper.semAt_some
set_option maxRecDepth 100000

theorem stepN_no {b : List UInt8} (h : okP b = false) (m : Nat) : stepN b m = 0 := by
  unfold okP at h
  unfold stepN
  cases h2 : readP b with
  | none => rfl
  | some nd => rw [h2] at h; cases h
theorem pfog (b : List UInt8) {m : Nat} (hm : m < 512) (w : World) {N : Nat} (hL : Laid3 N w) (hE : NoExit N w) :
    Calls Tryz.prog 27 #[.string ⟨b.toArray⟩, .int .i64 (m : Int)] w fun e w' => e = .returned (.tuple #[.int .i64 ((stepN b m : Nat) : Int), .bool (okP b)]) ∧ Below w.heap.size w w' := by
  have hF := pfails ⟨b.toArray⟩ w hL hE
  have hG := fun (X : World) (hX : Laid3 N X) (hY : NoExit N X) => pcan ⟨b.toArray⟩ (m : Int) 0 X hX hY
  cases ho : okP b with
  | false =>
    obtain ⟨t1, t2, t3, t4⟩ := tell_no ho (m : Int)
    rw [t1, t2] at hF
    rw [t3, t4] at hG
    rw [stepN_no ho]
    clear t1 t2 t3 t4 ho
    generalize (⟨b.toArray⟩ : ByteArray) = t at hF hG ⊢
    go_enter Tryz.func27, Tryz.ntmps27
    go_wp2_with (first
      | (go_at_call 39; refine hF.mono ?_; rintro e W1 ⟨rfl, hb1⟩; have hL1 := hL.below hb1 hL.lt; have hE1 := hE.below hb1 hL.lt)
      | (go_at_call 40; refine (hG _ hL1 hE1).mono ?_; rintro e W2 ⟨rfl, hb2⟩))
    go_ret2
    exact ⟨rfl, hb1.trans (hb2.mono hb1.size)⟩
  | true =>
    obtain ⟨c, d, hc9, hd9, hst, t1, t2, t3, t4⟩ := tell_yes ho hm
    rw [t1, t2] at hF
    rw [t3, t4] at hG
    rw [hst]
    have hor := or_nat c d (by omega) (by omega)
    clear t1 t2 t3 t4 hst ho
    generalize (⟨b.toArray⟩ : ByteArray) = t at hF hG ⊢
    go_enter Tryz.func27, Tryz.ntmps27
    go_wp2_with (first
      | (go_at_call 39; refine hF.mono ?_; rintro e W1 ⟨rfl, hb1⟩; have hL1 := hL.below hb1 hL.lt; have hE1 := hE.below hb1 hL.lt)
      | (go_at_call 40; refine (hG _ hL1 hE1).mono ?_; rintro e W2 ⟨rfl, hb2⟩))
    go_ret2
    exact ⟨rfl, hb1.trans (hb2.mono hb1.size)⟩

/-! ### From the last to the first -/
def encF (ws : List (List UInt8)) (y : Fin ws.length) : Array Value := #[.int .i64 (y.val : Int), .string ⟨(ws[y.val]).toArray⟩]
/-- The last d places of n, the last one first. -/
def enumB (n : Nat) : Nat → List (Fin n)
  | 0 => []
  | d + 1 => if h : n - 1 - d < n ∧ d < n then enumB n d ++ [⟨n - 1 - d, h.1⟩] else enumB n d
def enumK (n : Nat) (k : Nat) : List (Fin n) := enumB n (n - k)
theorem enumK_step {n k : Nat} (hk : k < n) : enumK n k = enumK n (k + 1) ++ [⟨k, hk⟩] := by
  unfold enumK
  have e : n - 1 - (n - (k + 1)) = k := by omega
  rw [show n - k = (n - (k + 1)) + 1 by omega, enumB, dif_pos ⟨by omega, by omega⟩]
  simp only [e]
theorem enumB_len (n : Nat) : ∀ d, (enumB n d).length ≤ d
  | 0 => Nat.le_refl _
  | d + 1 => by
    have := enumB_len n d
    unfold enumB
    split
    · rw [List.length_append]; simp; omega
    · omega
theorem enumK_prefix {n k : Nat} (h : k ≤ n) : enumK n k <+: enumK n 0 := by
  have H : ∀ d e, enumB n d <+: enumB n (d + e) := by
    intro d e
    induction e with
    | zero => exact List.prefix_refl _
    | succ e ih =>
      refine ih.trans ?_
      show _ <+: enumB n (d + e + 1)
      rw [enumB]
      split
      · exact List.prefix_append _ _
      · exact List.prefix_refl _
  have := H (n - k) k
  unfold enumK
  rw [show n - k + k = n - 0 by omega] at this
  exact this
/-- The row and the states behind, after some places. -/
def foldP (ws : List (List UInt8)) (pre : List (Fin ws.length)) : List Int × Nat := pre.foldl (fun s y => (s.1.set y.val ((stepN ws[y.val] s.2 : Nat) : Int), stepN ws[y.val] s.2)) (List.replicate ws.length 0, 0)
theorem foldP_snoc (ws : List (List UInt8)) (pre : List (Fin ws.length)) (y : Fin ws.length) : foldP ws (pre ++ [y]) = ((foldP ws pre).1.set y.val ((stepN ws[y.val] (foldP ws pre).2 : Nat) : Int), stepN ws[y.val] (foldP ws pre).2) := by
  unfold foldP
  rw [List.foldl_append]
  rfl
theorem foldP_len (ws : List (List UInt8)) (pre : List (Fin ws.length)) : (foldP ws pre).1.length = ws.length := by
  have H : ∀ (l : List (Fin ws.length)) (s : List Int × Nat), (l.foldl (fun s y => (s.1.set y.val ((stepN ws[y.val] s.2 : Nat) : Int), stepN ws[y.val] s.2)) s).1.length = s.1.length := by
    intro l
    induction l with
    | nil => intro s; rfl
    | cons y l ih => intro s; rw [List.foldl_cons, ih, List.length_set]
  unfold foldP
  rw [H, List.length_replicate]
theorem foldP_lt (ws : List (List UInt8)) (pre : List (Fin ws.length)) : (foldP ws pre).2 < 512 := by
  have H : ∀ (l : List (Fin ws.length)) (s : List Int × Nat), s.2 < 512 → (l.foldl (fun s y => (s.1.set y.val ((stepN ws[y.val] s.2 : Nat) : Int), stepN ws[y.val] s.2)) s).2 < 512 := by
    intro l
    induction l with
    | nil => intro s hs; exact hs
    | cons y l ih => intro s hs; rw [List.foldl_cons]; exact ih _ (stepN_lt _ _)
  exact H pre _ (by show (0 : Nat) < 512; decide)
theorem foldP_enum (ws : List (List UInt8)) : ∀ d, d ≤ ws.length → foldP ws (enumK ws.length (ws.length - d)) = (partS ws (ws.length - d), headS ws (ws.length - d))
  | 0, _ => by
    rw [Nat.sub_zero, partS_full, headS_full]
    unfold enumK
    rw [Nat.sub_self]
    rfl
  | d + 1, h => by
    have ih := foldP_enum ws d (by omega)
    have hk : ws.length - (d + 1) < ws.length := by omega
    have e : ws.length - (d + 1) + 1 = ws.length - d := by omega
    have hz : ws[ws.length - (d + 1)]? = some ws[ws.length - (d + 1)] := List.getElem?_eq_getElem hk
    have h1 := partS_set hz
    have h2 := headS_step hz
    rw [e] at h1 h2
    rw [enumK_step hk, foldP_snoc, e, ih]
    dsimp only
    rw [h1, ← h2]
theorem foldP_all (ws : List (List UInt8)) : foldP ws (enumK ws.length 0) = (partS ws 0, headS ws 0) := by
  have := foldP_enum ws ws.length (Nat.le_refl _)
  rwa [Nat.sub_self] at this
theorem mem_enum {n : Nat} (y : Fin n) : ∀ d, d ≤ n → n - d ≤ y.val → y ∈ enumB n d
  | 0, _, h => absurd y.isLt (by omega)
  | d + 1, hd, h => by
    unfold enumB
    rw [dif_pos ⟨by omega, by omega⟩, List.mem_append, List.mem_singleton]
    by_cases he : y.val = n - 1 - d
    · exact .inr (Fin.ext he)
    · exact .inl (mem_enum y d (by omega) (by omega))
/-- What a round keeps for the iterator: the captured list's box, and the list. -/
def KpE (b c : Nat) (W W' : World) : Prop := W'.heap[b]? = W.heap[b]? ∧ W'.heap[c]? = W.heap[c]?
theorem kpE_t {b c : Nat} {A B C : World} (h : KpE b c A B) (k : KpE b c B C) : KpE b c A C := ⟨k.1.trans h.1, k.2.trans h.2⟩
theorem kpE_b {b c : Nat} {w : World} (hb : b < w.heap.size) (hc : c < w.heap.size) (W : World) (l : Nat) (o o' : Obj) (hl : w.heap.size ≤ l) (_ : W.heap[l]? = some o) (_ : o.isCells = false) (_ : o.isWalk = false) : KpE b c W (W.putObj l o') :=
  ⟨World.putObj_heap_other (by omega), World.putObj_heap_other (by omega)⟩

set_option maxHeartbeats 2000000 in
theorem textsback_in (n : Nat) (hn : 1 ≤ n) (l Bn : Nat) (x : Addr) (cap : Nat) (ws : List (List UInt8)) (hlen : ws.length ≤ 1048576) (J Jx : List (Fin ws.length) → World → Prop)
    (hY : ∀ pre y W, J pre W → pre.length < ws.length → YieldAt Fence.wide (n - 1) Tryz.prog l (encF ws y) W fun e W' =>
      (e = .returned (.bool true) ∧ J (pre ++ [y]) W' ∧ KpE Bn x.block W W') ∨ (e = .returned (.bool false) ∧ Jx (pre ++ [y]) W'))
    (W : World) (hB : W.cell? ⟨Bn, 0, none⟩ = some (.slice (some x) ws.length cap)) (hc : ∀ (j : Nat) b, ws[j]? = some b → W.cell? (x.add j) = some (.string ⟨b.toArray⟩)) (hJ0 : J [] W) :
    CallsIn Fence.wide n Tryz.prog 49 #[.func (.yield l) #[] #[], .pointer (some ⟨Bn, 0, none⟩)] W fun e W' => (∃ v, e = .returned v) ∧
      ((∃ ys, ys = enumK ws.length 0 ∧ J ys W') ∨ (∃ pre, pre <+: enumK ws.length 0 ∧ Jx pre W')) := by
  have hli : (ws.length : Int) ≤ 1048576 := by omega
  have hl0 : (0 : Int) ≤ (ws.length : Int) := by omega
  refine callsIn_of_wp Tryz.func49 rfl trivial ?_ rfl
  simp only [Tryz.ntmps49, List.size_toArray, List.length_cons, List.length_nil, Nat.reduceAdd, Nat.reduceSub, Array.replicate_succ, Array.replicate_zero, List.push_toArray, List.append_toArray, List.nil_append, List.cons_append]
  gi_wp2
  gi_loopw [3] (fun i wr => ∃ k : Nat, k ≤ ws.length ∧ i = .int .i64 ((k : Int) - 1) ∧ wr.cell? ⟨Bn, 0, none⟩ = some (.slice (some x) ws.length cap) ∧ (∀ (j : Nat) b, ws[j]? = some b → wr.cell? (x.add j) = some (.string ⟨b.toArray⟩)) ∧ J (enumK ws.length k) wr) (fun i _ => (intOf i + 1).toNat)
  case atStart =>
    exact ⟨ws.length, by omega, rfl, hB, hc, by unfold enumK; rw [Nat.sub_self]; exact hJ0⟩
  case round =>
    obtain ⟨k, hk, rfl, hcB, hcc, hJ⟩ := hrel
    cases k with
    | zero =>
      rw [show ((0 : Nat) : Int) - 1 = -1 from rfl]
      gi_wp2
      go_end0
      exact ⟨⟨_, rfl⟩, .inl ⟨_, rfl, hJ⟩⟩
    | succ k =>
      rw [show ((k + 1 : Nat) : Int) - 1 = (k : Int) by omega]
      have hlt : k < ws.length := by omega
      have hlti : (k : Int) < (ws.length : Int) := by omega
      have k0i : (0 : Int) ≤ (k : Int) := by omega
      have hz : ws[k]? = some ws[k] := List.getElem?_eq_getElem hlt
      have hck := hcc k _ hz
      have hu := Lib.hid (enumK_step hlt)
      obtain ⟨fn, tmps, assign, body, hy, hR⟩ := hY (enumK ws.length (k + 1)) ⟨k, hlt⟩ wr hJ (by have := enumB_len ws.length (ws.length - (k + 1)); unfold enumK; omega)
      dsimp only [encF] at hy
      generalize ws[k] = b at hck hy
      have HCC := Lib.hid hcc
      clear hcc hz hY
      gi_wp2
      refine hR.mono ?_
      rintro e W3 (⟨rfl, hJ3, hk3⟩ | ⟨rfl, hJx3⟩)
      · have hc3 : W3.cell? ⟨Bn, 0, none⟩ = some (.slice (some x) ws.length cap) := (World.cell?_of_block (w := wr) (w' := W3) (a := ⟨Bn, 0, none⟩) hk3.1).trans hcB
        have hc4 : ∀ (j : Nat) b, ws[j]? = some b → W3.cell? (x.add j) = some (.string ⟨b.toArray⟩) := fun j b hj => (World.cell?_of_block (w := wr) (w' := W3) (a := x.add j) (by rw [add_block]; exact hk3.2)).trans (HCC.out j b hj)
        have HC4 := Lib.hid hc4
        clear hc4 HCC
        gi_wp2
        go_roundw
        case rel => exact ⟨k, by omega, by first | rfl | go_num, hc3, HC4.out, by rw [hu.out]; exact hJ3⟩
        case measure => (simp [intOf] <;> omega)
      · gi_wp2
        refine bodyPost_ret (results_none rfl _ _ _) rfl ?_
        refine ⟨⟨_, rfl⟩, .inr ⟨enumK ws.length (k + 1) ++ [⟨k, hlt⟩], ?_, hJx3⟩⟩
        have hp := enumK_prefix (n := ws.length) (k := k) (by omega)
        rw [hu.out] at hp
        exact hp
theorem tbmaker_in (n : Nat) (a : Option Addr) (m c : Nat) (w : World) :
    CallsIn Fence.wide n Tryz.prog 38 #[.slice a m c] w fun e w' => e = .returned (.func (.func 49) #[] #[.pointer (some ⟨w.heap.size, 0, none⟩)]) ∧ w' = w.alloc (.cells #[.slice a m c] 31) := by
  refine callsIn_of_wp Tryz.func38 rfl trivial ?_ rfl
  simp only [Tryz.ntmps38, List.size_toArray, List.length_cons, List.length_nil, Nat.reduceAdd, Nat.reduceSub, Array.replicate_succ, Array.replicate_zero, List.push_toArray, List.append_toArray, List.nil_append, List.cons_append]
  gi_wp2
  go_ret
  exact ⟨rfl, rfl⟩
theorem textsback_stops (n : Nat) (hn : 1 ≤ n) (Bn : Nat) (x : Addr) (cap : Nat) (ws : List (List UInt8)) (hlen : ws.length ≤ 1048576) (w : World) (hBn : w.cell? ⟨Bn, 0, none⟩ = some (.slice (some x) ws.length cap)) (hc : ∀ (j : Nat) b, ws[j]? = some b → w.cell? (x.add j) = some (.string ⟨b.toArray⟩)) :
    SeqStopsK Fence.wide n Tryz.prog 49 #[.pointer (some ⟨Bn, 0, none⟩)] (encF ws) (KpE Bn x.block) (fun ys => ys = enumK ws.length 0) (fun pre => pre <+: enumK ws.length 0) ws.length w := fun l J Jx W hW _ _ hY h0 =>
  textsback_in n hn l Bn x cap ws hlen J Jx hY W ((hW.cell (lt_cell hBn)).trans hBn) (fun j b hj => (hW.cell (lt_cell (hc j b hj))).trans (hc j b hj)) h0
end Go.Proofs.YtpepaobgngighabGreatDoor

