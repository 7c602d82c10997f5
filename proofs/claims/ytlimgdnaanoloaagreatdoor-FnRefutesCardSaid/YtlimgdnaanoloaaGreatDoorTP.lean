/- Chapter 5, the program: what is found of two triples; does one refute the other. -/
import Derived.Test.YtlimgdnaanoloaaGreatDoorTH
import Derived.Test.YtlimgdnaanoloaaGreatDoorE4
namespace Go.Proofs.YtlimgdnaanoloaaGreatDoor
open Go.ChangeShapes Go.WideShapes Go.ChangeAt Go.RowKit Go.Shelf Go.Maps
attribute [local go_sem] Oper.semAt_some
set_option maxRecDepth 100000

/-- Two triples in one row. -/
def TwoAt (W : World) (g : Nat) (b : Int) (p : ByteArray) (x r b' : Int) (p' : ByteArray) (x' r' : Int) : Prop := W.heap[g]? = some (.cells #[.int .i64 b, .string p, .int .i64 x, .int .i64 r, .int .i64 b', .string p', .int .i64 x', .int .i64 r'] 24 (0, 0))
theorem TwoAt.new (W : World) (b : Int) (p : ByteArray) (x r b' : Int) (p' : ByteArray) (x' r' : Int) : TwoAt (W.alloc (.cells #[.int .i64 b, .string p, .int .i64 x, .int .i64 r, .int .i64 b', .string p', .int .i64 x', .int .i64 r'] 24)) W.heap.size b p x r b' p' x' r' := heap_alloc_new W _
theorem TwoAt.lt {W : World} {g : Nat} {b : Int} {p : ByteArray} {x r b' : Int} {p' : ByteArray} {x' r' : Int} (h : TwoAt W g b p x r b' p' x' r') : g < W.heap.size := (Array.getElem?_eq_some_iff.1 h).1
theorem TwoAt.below {W W' : World} {g : Nat} {b : Int} {p : ByteArray} {x r b' : Int} {p' : ByteArray} {x' r' : Int} (h : TwoAt W g b p x r b' p' x' r') {n : Nat} (hb : Below n W W') (hn : g < n) : TwoAt W' g b p x r b' p' x' r' := (hb.block g hn).trans h
theorem TwoAt.cells {W : World} {g : Nat} {b : Int} {p : ByteArray} {x r b' : Int} {p' : ByteArray} {x' r' : Int} (h : TwoAt W g b p x r b' p' x' r') :
    (W.cell? ⟨g, 0, none⟩ = some (.int .i64 b) ∧ W.cell? ⟨g, 1, none⟩ = some (.string p) ∧ W.cell? ⟨g, 2, none⟩ = some (.int .i64 x) ∧ W.cell? ⟨g, 3, none⟩ = some (.int .i64 r)) ∧
    (W.cell? ⟨g, 4, none⟩ = some (.int .i64 b') ∧ W.cell? ⟨g, 5, none⟩ = some (.string p') ∧ W.cell? ⟨g, 6, none⟩ = some (.int .i64 x') ∧ W.cell? ⟨g, 7, none⟩ = some (.int .i64 r')) :=
  ⟨⟨by rw [cell_of_row _ g 0 _ _ (0, 0) h]; rfl, by rw [cell_of_row _ g 1 _ _ (0, 0) h]; rfl, by rw [cell_of_row _ g 2 _ _ (0, 0) h]; rfl, by rw [cell_of_row _ g 3 _ _ (0, 0) h]; rfl⟩,
   ⟨by rw [cell_of_row _ g 4 _ _ (0, 0) h]; rfl, by rw [cell_of_row _ g 5 _ _ (0, 0) h]; rfl, by rw [cell_of_row _ g 6 _ _ (0, 0) h]; rfl, by rw [cell_of_row _ g 7 _ _ (0, 0) h]; rfl⟩⟩

theorem valid_parts {b : Int} {p : ByteArray} {x r : Int} (h : validT b p x r = true) : reachB p b x = true ∧ isSet r = true := by
  have hrs := valid_reach b p x r
  rw [h] at hrs
  cases hq : reachB p b x <;> rw [hq] at hrs <;> simp at hrs
  exact ⟨rfl, hrs⟩
theorem valid_fails {b : Int} {p : ByteArray} {x r : Int} (h : validT b p x r = false) : reachB p b x = false ∨ (reachB p b x = true ∧ isSet r = false) := by
  have hrs := valid_reach b p x r
  rw [h] at hrs
  cases hq : reachB p b x <;> rw [hq] at hrs
  · exact .inl rfl
  · exact .inr ⟨rfl, by simpa using hrs.symm⟩

set_option maxHeartbeats 2000000 in
theorem pfind2_yes (b : Int) (p : ByteArray) (x r b' : Int) (p' : ByteArray) (x' r' : Int) (W : World) (g : Nat) (hT : TwoAt W g b p x r b' p' x' r') {N : Nat} (hL : Laid3 N W) (hv : validT b p x r = true) (hv' : validT b' p' x' r' = true) :
    Calls Tryz.prog 50 #[.slice (some ⟨g, 0, none⟩) 2 2] W fun e W' => Below W.heap.size W W' ∧
      ∃ m, e = .returned (.tuple #[.map (some m), .nilIface]) ∧ W'.ownsMap Tryz.prog 24 asIs m 2 (((DataW.map []).put (keyT b p x r) (.held (.agg #[.int .i64 r, .int .i64 (reachN p b x)]))).put (keyT b' p' x' r') (.held (.agg #[.int .i64 r', .int .i64 (reachN p' b' x')]))) := by
  have hmm := @run_makeMap Tryz.prog
  have hkey := key_valid hv
  have hkey' := key_valid hv'
  have hP := fun (X : World) (hX : Laid3 N X) => preach10 p b x X hX
  have hP' := fun (X : World) (hX : Laid3 N X) => preach10 p' b' x' X hX
  rw [(valid_parts hv).1] at hP
  rw [(valid_parts hv').1] at hP'
  have HS := Lib.hid (valid_parts hv).2
  have HS' := Lib.hid (valid_parts hv').2
  clear hv hv'
  generalize reachN p b x = z at hP ⊢
  generalize reachN p' b' x' = z' at hP' ⊢
  generalize keyT b p x r = kl at hkey ⊢
  generalize keyT b' p' x' r' = kl' at hkey' ⊢
  have h0 := World.ownsMap_made W Tryz.prog 24 asIs
  have b0 : Below W.heap.size W (W.alloc (.map #[] 0)) := (Below.refl _ W).alloc (Nat.le_refl _) _
  have hg := hT.lt
  go_enter Tryz.func50, Tryz.ntmps50
  go_wp2_with fail
  go_loopw [12] (fun i wr => ∃ k : Nat, k ≤ 2 ∧ i = .int .i64 k ∧ Below W.heap.size W wr ∧ wr.ownsMap Tryz.prog 24 asIs W.heap.size k (if k = 0 then DataW.map [] else if k = 1 then (DataW.map []).put kl (.held (.agg #[.int .i64 r, .int .i64 z])) else ((DataW.map []).put kl (.held (.agg #[.int .i64 r, .int .i64 z]))).put kl' (.held (.agg #[.int .i64 r', .int .i64 z'])))) (fun i _ => 2 - (intOf i).toNat)
  case atStart => exact ⟨0, by omega, rfl, b0, h0⟩
  case round =>
    obtain ⟨k, hk, rfl, hB, hown⟩ := hrel
    obtain ⟨⟨c0, c1, c2, c3⟩, ⟨c4, c5, c6, c7⟩⟩ := (hT.below hB hg).cells
    rcases (by omega : k = 0 ∨ k = 1 ∨ k = 2) with rfl | rfl | rfl
    · rw [if_pos rfl] at hown
      have hA1 : Below wr.heap.size wr (wr.alloc (.cells #[.int .i64 b, .string p, .int .i64 x, .int .i64 r] 24)) := (Below.refl _ wr).alloc (Nat.le_refl _) _
      have hL1 := (hL.below hB hL.lt).below hA1 (Nat.le_trans hL.lt hB.size)
      have hT2 := TripAt.new wr b p x r
      have hown1 := hown.alloc (.cells #[.int .i64 b, .string p, .int .i64 x, .int .i64 r] 24)
      go_wp2_with (first
        | (go_at_call 24; refine (hP _ hL1).mono ?_; rintro e W1 ⟨rfl, hb⟩; have hT3 := hT2.below hb hT2.lt; obtain ⟨d0, d1, d2, d3⟩ := hT3.cells; have hown2 := World.ownsMap.kept (row := none) hown1 ⟨hb.os, hb.tape, hb.output, hb.size, fun i hi _ => hb.block i hi⟩ (by simp); obtain ⟨w3, r3, hown3, g3⟩ := hown2.update (val := .agg #[.int .i64 r, .int .i64 z]) lawTrip Tryz.underlying61 (by unfold maxLen; omega) hkey (asIs_mk _))
        | (go_at_call 39; refine (sv24 _ _).mono ?_; rintro e w' ⟨rfl, rfl⟩; rw [HS.out]))
      have hB1 := (hB.alloc hB.size (.cells #[.int .i64 b, .string p, .int .i64 x, .int .i64 r] 24))
      have hB2 := hB1.trans (hb.mono hB1.size)
      have hB3 := hB2.grown g3 hB2.size (fun j e => by cases e; exact Nat.le_refl _)
      go_roundw
      case rel => exact ⟨1, by omega, by go_num, hB3, hown3⟩
      case measure => simp [intOf]
    · rw [if_neg (by decide), if_pos rfl] at hown
      have hA1 : Below wr.heap.size wr (wr.alloc (.cells #[.int .i64 b', .string p', .int .i64 x', .int .i64 r'] 24)) := (Below.refl _ wr).alloc (Nat.le_refl _) _
      have hL1 := (hL.below hB hL.lt).below hA1 (Nat.le_trans hL.lt hB.size)
      have hT2 := TripAt.new wr b' p' x' r'
      have hown1 := hown.alloc (.cells #[.int .i64 b', .string p', .int .i64 x', .int .i64 r'] 24)
      go_wp2_with (first
        | (go_at_call 24; refine (hP' _ hL1).mono ?_; rintro e W1 ⟨rfl, hb⟩; have hT3 := hT2.below hb hT2.lt; obtain ⟨d0, d1, d2, d3⟩ := hT3.cells; have hown2 := World.ownsMap.kept (row := none) hown1 ⟨hb.os, hb.tape, hb.output, hb.size, fun i hi _ => hb.block i hi⟩ (by simp); obtain ⟨w3, r3, hown3, g3⟩ := hown2.update (val := .agg #[.int .i64 r', .int .i64 z']) lawTrip Tryz.underlying61 (by unfold maxLen; omega) hkey' (asIs_mk _))
        | (go_at_call 39; refine (sv24 _ _).mono ?_; rintro e w' ⟨rfl, rfl⟩; rw [HS'.out]))
      have hB1 := (hB.alloc hB.size (.cells #[.int .i64 b', .string p', .int .i64 x', .int .i64 r'] 24))
      have hB2 := hB1.trans (hb.mono hB1.size)
      have hB3 := hB2.grown g3 hB2.size (fun j e => by cases e; exact Nat.le_refl _)
      go_roundw
      case rel => exact ⟨2, by omega, by go_num, hB3, hown3⟩
      case measure => simp [intOf]
    · rw [if_neg (by decide), if_neg (by decide)] at hown
      go_wp2_with fail
      go_ret2
      exact ⟨hB, _, rfl, hown⟩

set_option maxHeartbeats 2000000 in
theorem pfind2_no1 (b : Int) (p : ByteArray) (x r b' : Int) (p' : ByteArray) (x' r' : Int) (W : World) (g : Nat) (hT : TwoAt W g b p x r b' p' x' r') {N : Nat} (hL : Laid3 N W) (hE : NoTrip N W) (hv : validT b p x r = false) :
    Calls Tryz.prog 50 #[.slice (some ⟨g, 0, none⟩) 2 2] W fun e W' => Below W.heap.size W W' ∧ ∃ T v, e = .returned (.tuple #[.map none, .iface T v]) := by
  have hmm := @run_makeMap Tryz.prog
  have hP := fun (X : World) (hX : Laid3 N X) => preach10 p b x X hX
  have b0 : Below W.heap.size W (W.alloc (.map #[] 0)) := (Below.refl _ W).alloc (Nat.le_refl _) _
  have hg := hT.lt
  rcases valid_fails hv with hro | ⟨hro, hso⟩
  · rw [hro] at hP
    clear hro hv
    generalize reachN p b x = z at hP
    go_enter Tryz.func50, Tryz.ntmps50
    go_wp2_with fail
    go_loopw [12] (fun i wr => i = .int .i64 0 ∧ wr = W.alloc (.map #[] 0)) (fun _ _ => 0)
    case atStart => exact ⟨rfl, rfl⟩
    case round =>
      obtain ⟨rfl, rfl⟩ := hrel
      obtain ⟨⟨c0, c1, c2, c3⟩, ⟨c4, c5, c6, c7⟩⟩ := (hT.below b0 hg).cells
      have hB1 := b0.alloc b0.size (.cells #[.int .i64 b, .string p, .int .i64 x, .int .i64 r] 24)
      have hT2 := TripAt.new (W.alloc (.map #[] 0)) b p x r
      have hL1 := hL.below hB1 hL.lt
      go_wp2_with (first
        | (go_at_call 24; refine (hP _ hL1).mono ?_; rintro e W1 ⟨rfl, hb⟩; have hB2 := hB1.trans (hb.mono hB1.size); obtain ⟨⟨T, v, he⟩, _⟩ := hE.below hB2 hL.lt))
      go_region
      all_goals go_wp2_with fail
      all_goals
        go_ret2
        first | exact ⟨hB2, _, _, rfl⟩ | exact ⟨hB2.drew, _, _, rfl⟩
  · rw [hro] at hP
    have HS := Lib.hid hso
    clear hso
    clear hro hv
    generalize reachN p b x = z at hP
    go_enter Tryz.func50, Tryz.ntmps50
    go_wp2_with fail
    go_loopw [12] (fun i wr => i = .int .i64 0 ∧ wr = W.alloc (.map #[] 0)) (fun _ _ => 0)
    case atStart => exact ⟨rfl, rfl⟩
    case round =>
      obtain ⟨rfl, rfl⟩ := hrel
      obtain ⟨⟨c0, c1, c2, c3⟩, ⟨c4, c5, c6, c7⟩⟩ := (hT.below b0 hg).cells
      have hB1 := b0.alloc b0.size (.cells #[.int .i64 b, .string p, .int .i64 x, .int .i64 r] 24)
      have hT2 := TripAt.new (W.alloc (.map #[] 0)) b p x r
      have hL1 := hL.below hB1 hL.lt
      go_wp2_with (first
        | (go_at_call 24; refine (hP _ hL1).mono ?_; rintro e W1 ⟨rfl, hb⟩; have hB2 := hB1.trans (hb.mono hB1.size); obtain ⟨⟨T, v, he⟩, _⟩ := hE.below hB2 hL.lt; obtain ⟨d0, d1, d2, d3⟩ := (hT2.below hb hT2.lt).cells; rw [World.size_alloc] at d0 d1 d2 d3)
        | (go_at_call 39; refine (sv24 _ _).mono ?_; rintro e w' ⟨rfl, rfl⟩; rw [HS.out]))
      go_region
      all_goals go_wp2_with fail
      all_goals
        go_ret2
        first | exact ⟨hB2, _, _, rfl⟩ | exact ⟨hB2.drew, _, _, rfl⟩

set_option maxHeartbeats 2000000 in
theorem pfind2_no2 (b : Int) (p : ByteArray) (x r b' : Int) (p' : ByteArray) (x' r' : Int) (W : World) (g : Nat) (hT : TwoAt W g b p x r b' p' x' r') {N : Nat} (hL : Laid3 N W) (hE : NoTrip N W) (hv : validT b p x r = true) (hv' : validT b' p' x' r' = false) :
    Calls Tryz.prog 50 #[.slice (some ⟨g, 0, none⟩) 2 2] W fun e W' => Below W.heap.size W W' ∧ ∃ T v, e = .returned (.tuple #[.map none, .iface T v]) := by
  have hmm := @run_makeMap Tryz.prog
  have hkey := key_valid hv
  have hP := fun (X : World) (hX : Laid3 N X) => preach10 p b x X hX
  have hP' := fun (X : World) (hX : Laid3 N X) => preach10 p' b' x' X hX
  rw [(valid_parts hv).1] at hP
  have HS := Lib.hid (valid_parts hv).2
  clear hv
  generalize reachN p b x = z at hP
  generalize keyT b p x r = kl at hkey
  have h0 := World.ownsMap_made W Tryz.prog 24 asIs
  have b0 : Below W.heap.size W (W.alloc (.map #[] 0)) := (Below.refl _ W).alloc (Nat.le_refl _) _
  have hg := hT.lt
  rcases valid_fails hv' with hro | ⟨hro, hso⟩
  · rw [hro] at hP'
    clear hro hv'
    generalize reachN p' b' x' = z' at hP'
    go_enter Tryz.func50, Tryz.ntmps50
    go_wp2_with fail
    go_loopw [12] (fun i wr => ∃ k : Nat, k ≤ 1 ∧ i = .int .i64 k ∧ Below W.heap.size W wr ∧ wr.ownsMap Tryz.prog 24 asIs W.heap.size k (if k = 0 then DataW.map [] else (DataW.map []).put kl (.held (.agg #[.int .i64 r, .int .i64 z])))) (fun i _ => 2 - (intOf i).toNat)
    case atStart => exact ⟨0, by omega, rfl, b0, h0⟩
    case round =>
      obtain ⟨k, hk, rfl, hB, hown⟩ := hrel
      obtain ⟨⟨c0, c1, c2, c3⟩, ⟨c4, c5, c6, c7⟩⟩ := (hT.below hB hg).cells
      rcases (by omega : k = 0 ∨ k = 1) with rfl | rfl
      · rw [if_pos rfl] at hown
        have hA1 : Below wr.heap.size wr (wr.alloc (.cells #[.int .i64 b, .string p, .int .i64 x, .int .i64 r] 24)) := (Below.refl _ wr).alloc (Nat.le_refl _) _
        have hL1 := (hL.below hB hL.lt).below hA1 (Nat.le_trans hL.lt hB.size)
        have hT2 := TripAt.new wr b p x r
        have hown1 := hown.alloc (.cells #[.int .i64 b, .string p, .int .i64 x, .int .i64 r] 24)
        go_wp2_with (first
          | (go_at_call 24; refine (hP _ hL1).mono ?_; rintro e W1 ⟨rfl, hb⟩; have hT3 := hT2.below hb hT2.lt; obtain ⟨d0, d1, d2, d3⟩ := hT3.cells; have hown2 := World.ownsMap.kept (row := none) hown1 ⟨hb.os, hb.tape, hb.output, hb.size, fun i hi _ => hb.block i hi⟩ (by simp); obtain ⟨w3, r3, hown3, g3⟩ := hown2.update (val := .agg #[.int .i64 r, .int .i64 z]) lawTrip Tryz.underlying61 (by unfold maxLen; omega) hkey (asIs_mk _))
          | (go_at_call 39; refine (sv24 _ _).mono ?_; rintro e w' ⟨rfl, rfl⟩; rw [HS.out]))
        have hB1 := (hB.alloc hB.size (.cells #[.int .i64 b, .string p, .int .i64 x, .int .i64 r] 24))
        have hB2 := hB1.trans (hb.mono hB1.size)
        have hB3 := hB2.grown g3 hB2.size (fun j e => by cases e; exact Nat.le_refl _)
        go_roundw
        case rel => exact ⟨1, by omega, by go_num, hB3, hown3⟩
        case measure => simp [intOf]
      · clear hown
        have hB1 := hB.alloc hB.size (.cells #[.int .i64 b', .string p', .int .i64 x', .int .i64 r'] 24)
        have hT2 := TripAt.new wr b' p' x' r'
        have hL1 := hL.below hB1 hL.lt
        go_wp2_with (first
          | (go_at_call 24; refine (hP' _ hL1).mono ?_; rintro e W1 ⟨rfl, hb⟩; have hB2 := hB1.trans (hb.mono hB1.size); obtain ⟨⟨T, v, he⟩, _⟩ := hE.below hB2 hL.lt))
        go_region
        all_goals go_wp2_with fail
        all_goals
          go_ret2
          first | exact ⟨hB2, _, _, rfl⟩ | exact ⟨hB2.drew, _, _, rfl⟩
  · rw [hro] at hP'
    have HS' := Lib.hid hso
    clear hso
    clear hro hv'
    generalize reachN p' b' x' = z' at hP'
    go_enter Tryz.func50, Tryz.ntmps50
    go_wp2_with fail
    go_loopw [12] (fun i wr => ∃ k : Nat, k ≤ 1 ∧ i = .int .i64 k ∧ Below W.heap.size W wr ∧ wr.ownsMap Tryz.prog 24 asIs W.heap.size k (if k = 0 then DataW.map [] else (DataW.map []).put kl (.held (.agg #[.int .i64 r, .int .i64 z])))) (fun i _ => 2 - (intOf i).toNat)
    case atStart => exact ⟨0, by omega, rfl, b0, h0⟩
    case round =>
      obtain ⟨k, hk, rfl, hB, hown⟩ := hrel
      obtain ⟨⟨c0, c1, c2, c3⟩, ⟨c4, c5, c6, c7⟩⟩ := (hT.below hB hg).cells
      rcases (by omega : k = 0 ∨ k = 1) with rfl | rfl
      · rw [if_pos rfl] at hown
        have hA1 : Below wr.heap.size wr (wr.alloc (.cells #[.int .i64 b, .string p, .int .i64 x, .int .i64 r] 24)) := (Below.refl _ wr).alloc (Nat.le_refl _) _
        have hL1 := (hL.below hB hL.lt).below hA1 (Nat.le_trans hL.lt hB.size)
        have hT2 := TripAt.new wr b p x r
        have hown1 := hown.alloc (.cells #[.int .i64 b, .string p, .int .i64 x, .int .i64 r] 24)
        go_wp2_with (first
          | (go_at_call 24; refine (hP _ hL1).mono ?_; rintro e W1 ⟨rfl, hb⟩; have hT3 := hT2.below hb hT2.lt; obtain ⟨d0, d1, d2, d3⟩ := hT3.cells; have hown2 := World.ownsMap.kept (row := none) hown1 ⟨hb.os, hb.tape, hb.output, hb.size, fun i hi _ => hb.block i hi⟩ (by simp); obtain ⟨w3, r3, hown3, g3⟩ := hown2.update (val := .agg #[.int .i64 r, .int .i64 z]) lawTrip Tryz.underlying61 (by unfold maxLen; omega) hkey (asIs_mk _))
          | (go_at_call 39; refine (sv24 _ _).mono ?_; rintro e w' ⟨rfl, rfl⟩; rw [HS.out]))
        have hB1 := (hB.alloc hB.size (.cells #[.int .i64 b, .string p, .int .i64 x, .int .i64 r] 24))
        have hB2 := hB1.trans (hb.mono hB1.size)
        have hB3 := hB2.grown g3 hB2.size (fun j e => by cases e; exact Nat.le_refl _)
        go_roundw
        case rel => exact ⟨1, by omega, by go_num, hB3, hown3⟩
        case measure => simp [intOf]
      · clear hown
        have hB1 := hB.alloc hB.size (.cells #[.int .i64 b', .string p', .int .i64 x', .int .i64 r'] 24)
        have hT2 := TripAt.new wr b' p' x' r'
        have hL1 := hL.below hB1 hL.lt
        go_wp2_with (first
          | (go_at_call 24; refine (hP' _ hL1).mono ?_; rintro e W1 ⟨rfl, hb⟩; have hB2 := hB1.trans (hb.mono hB1.size); obtain ⟨⟨T, v, he⟩, _⟩ := hE.below hB2 hL.lt; obtain ⟨d0, d1, d2, d3⟩ := (hT2.below hb hT2.lt).cells)
          | (go_at_call 39; refine (sv24 _ _).mono ?_; rintro e w' ⟨rfl, rfl⟩; rw [HS'.out]))
        go_region
        all_goals go_wp2_with fail
        all_goals
          go_ret2
          first | exact ⟨hB2, _, _, rfl⟩ | exact ⟨hB2.drew, _, _, rfl⟩

theorem pfind2_no (b : Int) (p : ByteArray) (x r b' : Int) (p' : ByteArray) (x' r' : Int) (W : World) (g : Nat) (hT : TwoAt W g b p x r b' p' x' r') {N : Nat} (hL : Laid3 N W) (hE : NoTrip N W) (hv : (validT b p x r && validT b' p' x' r') = false) :
    Calls Tryz.prog 50 #[.slice (some ⟨g, 0, none⟩) 2 2] W fun e W' => Below W.heap.size W W' ∧ ∃ T v, e = .returned (.tuple #[.map none, .iface T v]) := by
  cases h1 : validT b p x r with
  | false => exact pfind2_no1 b p x r b' p' x' r' W g hT hL hE h1
  | true => exact pfind2_no2 b p x r b' p' x' r' W g hT hL hE h1 (by rw [h1] at hv; simpa using hv)
end Go.Proofs.YtlimgdnaanoloaaGreatDoor

