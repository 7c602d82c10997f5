/- Chapter 5, the program: what is found of one triple. -/
import Derived.Test.YtpepaobgngighabGreatDoorTE
import Derived.Test.YtpepaobgngighabGreatDoorTK
namespace Go.Proofs.YtpepaobgngighabGreatDoor
open Go.ChangeShapes Go.WideShapes Go.ChangeAt Go.RowKit Go.Shelf Go.Maps
attribute [local go_sem] Oper.semAt_some
set_option maxRecDepth 100000

/-- The error of triples that are none. -/
def NoTrip (N : Nat) (W : World) : Prop := (∃ T v, W.cell? ⟨0, 0, none⟩ = some (.iface T v)) ∧ 0 < N
theorem NoTrip.below {N : Nat} {W W' : World} (h : NoTrip N W) {n : Nat} (hb : Below n W W') (hn : N ≤ n) : NoTrip N W' := by
  obtain ⟨⟨T, v, e⟩, hl⟩ := h
  exact ⟨⟨T, v, (hb.cell (p := ⟨0, 0, none⟩) (Nat.lt_of_lt_of_le hl hn)).trans e⟩, hl⟩

theorem valid_reach (b : Int) (p : ByteArray) (x r : Int) : validT b p x r = (reachB p b x && isSet r) := by
  unfold validT reachB isP
  cases isSet b <;> cases (readP p.toList).isSome <;> cases inB x 0 1 <;> cases isSet r <;> rfl
theorem valid_wf {b : Int} {p : ByteArray} {x r : Int} (h : validT b p x r = true) : (Lit.int .i64 b).wf = true ∧ p.size ≤ maxLen ∧ (Lit.int .i64 x).wf = true ∧ (Lit.int .i64 r).wf = true := by
  obtain ⟨h1, h2, h3, h4⟩ := valid_all h
  have k1 := of_decide_eq_true h1
  have k4 := of_decide_eq_true h4
  rw [Lib.toList_data] at h2
  have k2 := isP_len h2
  have k3 : p.data.toList.length = p.size := by rw [Array.length_toList]; rfl
  exact ⟨WalkArith.wf_i64 (by omega), by unfold maxLen; omega, WalkArith.wf_i64 (by omega), WalkArith.wf_i64 (by omega)⟩

/-- A triple's key. -/
def keyT (b : Int) (p : ByteArray) (x r : Int) : Lit := .string (keyBytes [.int .i64 b, .string p.data.toList, .int .i64 x, .int .i64 r])
theorem key_valid {b : Int} {p : ByteArray} {x r : Int} (h : validT b p x r = true) : keyOf Tryz.prog 25 (.agg #[.int .i64 b, .string p, .int .i64 x, .int .i64 r]) = some (keyT b p x r) := by
  obtain ⟨h1, h2, h3, h4⟩ := valid_wf h
  exact key_trip h1 h2 h3 h4

set_option maxHeartbeats 2000000 in
theorem pfind_yes (b : Int) (p : ByteArray) (x r : Int) (W : World) (g : Nat) (hT : TripAt W g b p x r) {N : Nat} (hL : Laid3 N W) (hv : validT b p x r = true) :
    Calls Tryz.prog 45 #[.slice (some ⟨g, 0, none⟩) 1 1] W fun e W' => Below W.heap.size W W' ∧
      ∃ m, e = .returned (.tuple #[.map (some m), .nilIface]) ∧ W'.ownsMap Tryz.prog 25 asIs m 1 ((DataW.map []).put (keyT b p x r) (.held (.agg #[.int .i64 r, .int .i64 (reachN p b x)]))) := by
  have hmm := @run_makeMap Tryz.prog
  have hkey := key_valid hv
  have hP := fun (X : World) (hX : Laid3 N X) => preach10 p b x X hX
  have hrs := valid_reach b p x r
  rw [hv] at hrs
  have hro : reachB p b x = true := by cases hq : reachB p b x <;> rw [hq] at hrs <;> simp at hrs <;> rfl
  have hso : isSet r = true := by rw [hro] at hrs; simpa using hrs.symm
  rw [hro] at hP
  have HS := Lib.hid hso
  clear hrs hro hso hv
  generalize reachN p b x = z at hP ⊢
  generalize keyT b p x r = kl at hkey ⊢
  have h0 := World.ownsMap_made W Tryz.prog 25 asIs
  have b0 : Below W.heap.size W (W.alloc (.map #[] 0)) := (Below.refl _ W).alloc (Nat.le_refl _) _
  have hg := hT.lt
  go_enter Tryz.func45, Tryz.ntmps45
  go_wp2_with fail
  go_loopw [12] (fun i wr => ∃ k : Nat, k ≤ 1 ∧ i = .int .i64 k ∧ Below W.heap.size W wr ∧ wr.ownsMap Tryz.prog 25 asIs W.heap.size k (if k = 0 then .map [] else (DataW.map []).put kl (.held (.agg #[.int .i64 r, .int .i64 z])))) (fun i _ => 1 - (intOf i).toNat)
  case atStart => exact ⟨0, by omega, rfl, b0, h0⟩
  case round =>
    obtain ⟨k, hk, rfl, hB, hown⟩ := hrel
    by_cases hlt : k < 1
    · obtain rfl : k = 0 := by omega
      rw [if_pos rfl] at hown
      have hT1 := hT.below hB hg
      obtain ⟨c0, c1, c2, c3⟩ := hT1.cells
      have hA1 : Below wr.heap.size wr (wr.alloc (.cells #[.int .i64 b, .string p, .int .i64 x, .int .i64 r] 25)) := (Below.refl _ wr).alloc (Nat.le_refl _) _
      have hL1 := (hL.below hB hL.lt).below hA1 (Nat.le_trans hL.lt hB.size)
      have hT2 := TripAt.new wr b p x r
      have hown1 := hown.alloc (.cells #[.int .i64 b, .string p, .int .i64 x, .int .i64 r] 25)
      go_wp2_with (first
        | (go_at_call 53; refine (hP _ hL1).mono ?_; rintro e W1 ⟨rfl, hb⟩; have hT3 := hT2.below hb hT2.lt; obtain ⟨d0, d1, d2, d3⟩ := hT3.cells; have hown2 := World.ownsMap.kept (row := none) hown1 ⟨hb.os, hb.tape, hb.output, hb.size, fun i hi _ => hb.block i hi⟩ (by simp); obtain ⟨w3, r3, hown3, g3⟩ := hown2.update (val := .agg #[.int .i64 r, .int .i64 z]) lawTrip Tryz.underlying74 (by unfold maxLen; omega) hkey (asIs_mk _))
        | (go_at_call 51; refine (sv24 _ _).mono ?_; rintro e w' ⟨rfl, rfl⟩; rw [HS.out]))
      have hB1 := (hB.alloc hB.size (.cells #[.int .i64 b, .string p, .int .i64 x, .int .i64 r] 25))
      have hB2 := hB1.trans (hb.mono hB1.size)
      have hB3 := hB2.grown g3 hB2.size (fun j e => by cases e; exact Nat.le_refl _)
      go_roundw
      case rel => exact ⟨1, by omega, by go_num, hB3, hown3⟩
      case measure => simp [intOf]
    · obtain rfl : k = 1 := by omega
      rw [if_neg (by decide)] at hown
      go_wp2_with fail
      go_ret2
      exact ⟨hB, _, rfl, hown⟩

set_option maxHeartbeats 2000000 in
theorem pfind_no (b : Int) (p : ByteArray) (x r : Int) (W : World) (g : Nat) (hT : TripAt W g b p x r) {N : Nat} (hL : Laid3 N W) (hE : NoTrip N W) (hv : validT b p x r = false) :
    Calls Tryz.prog 45 #[.slice (some ⟨g, 0, none⟩) 1 1] W fun e W' => Below W.heap.size W W' ∧ ∃ T v, e = .returned (.tuple #[.map none, .iface T v]) := by
  have hmm := @run_makeMap Tryz.prog
  have hP := fun (X : World) (hX : Laid3 N X) => preach10 p b x X hX
  have hrs := valid_reach b p x r
  rw [hv] at hrs
  have b0 : Below W.heap.size W (W.alloc (.map #[] 0)) := (Below.refl _ W).alloc (Nat.le_refl _) _
  have hg := hT.lt
  cases hro : reachB p b x with
  | false =>
    rw [hro] at hP
    clear hrs hro hv
    generalize reachN p b x = z at hP
    go_enter Tryz.func45, Tryz.ntmps45
    go_wp2_with fail
    go_loopw [12] (fun i wr => i = .int .i64 0 ∧ wr = W.alloc (.map #[] 0)) (fun _ _ => 0)
    case atStart => exact ⟨rfl, rfl⟩
    case round =>
      obtain ⟨rfl, rfl⟩ := hrel
      have hT1 := hT.below b0 hg
      obtain ⟨c0, c1, c2, c3⟩ := hT1.cells
      have hB1 := b0.alloc b0.size (.cells #[.int .i64 b, .string p, .int .i64 x, .int .i64 r] 25)
      have hL1 := hL.below hB1 hL.lt
      go_wp2_with (first
        | (go_at_call 53; refine (hP _ hL1).mono ?_; rintro e W1 ⟨rfl, hb⟩; have hB2 := hB1.trans (hb.mono hB1.size); obtain ⟨⟨T, v, he⟩, _⟩ := hE.below hB2 hL.lt))
      go_region
      all_goals go_wp2_with fail
      all_goals
        go_ret2
        first | exact ⟨hB2, _, _, rfl⟩ | exact ⟨hB2.drew, _, _, rfl⟩
  | true =>
    have hso : isSet r = false := by rw [hro] at hrs; simpa using hrs.symm
    rw [hro] at hP
    have HS := Lib.hid hso
    clear hrs hro hso hv
    generalize reachN p b x = z at hP
    go_enter Tryz.func45, Tryz.ntmps45
    go_wp2_with fail
    go_loopw [12] (fun i wr => i = .int .i64 0 ∧ wr = W.alloc (.map #[] 0)) (fun _ _ => 0)
    case atStart => exact ⟨rfl, rfl⟩
    case round =>
      obtain ⟨rfl, rfl⟩ := hrel
      have hT1 := hT.below b0 hg
      obtain ⟨c0, c1, c2, c3⟩ := hT1.cells
      have hB1 := b0.alloc b0.size (.cells #[.int .i64 b, .string p, .int .i64 x, .int .i64 r] 25)
      have hT2 := TripAt.new (W.alloc (.map #[] 0)) b p x r
      have hL1 := hL.below hB1 hL.lt
      go_wp2_with (first
        | (go_at_call 53; refine (hP _ hL1).mono ?_; rintro e W1 ⟨rfl, hb⟩; have hB2 := hB1.trans (hb.mono hB1.size); obtain ⟨⟨T, v, he⟩, _⟩ := hE.below hB2 hL.lt; obtain ⟨d0, d1, d2, d3⟩ := (hT2.below hb hT2.lt).cells; rw [World.size_alloc] at d0 d1 d2 d3)
        | (go_at_call 51; refine (sv24 _ _).mono ?_; rintro e w' ⟨rfl, rfl⟩; rw [HS.out]))
      go_region
      all_goals go_wp2_with fail
      all_goals
        go_ret2
        first | exact ⟨hB2, _, _, rfl⟩ | exact ⟨hB2.drew, _, _, rfl⟩
end Go.Proofs.YtpepaobgngighabGreatDoor

