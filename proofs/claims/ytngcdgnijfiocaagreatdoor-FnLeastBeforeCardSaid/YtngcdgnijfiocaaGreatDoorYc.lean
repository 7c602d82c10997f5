/- Chapter 5, the program: triples as keys of a map; elements of a map that read as they are. Chapter 5, the program: what is found of one triple. Chapter 5, the program: sure, always, missing, surplus. -/
import Derived.Test.YtngcdgnijfiocaaGreatDoorL3
import Derived.Test.YtngcdgnijfiocaaGreatDoorYa
import Derived.Maps.Own
import Derived.Maps.Views
import Derived.Maps.OwnOps
import Derived.Maps.OwnSet
import Derived.DeepKeys4
namespace Go.Proofs.YtngcdgnijfiocaaGreatDoor
open Go.ChangeShapes Go.WideShapes Go.ChangeAt Go.RowKit Go.Shelf Go.Maps
set_option maxRecDepth 100000

theorem rowTrip : (33 : TypeId) < Tryz.prog.types.size := of_decide_eq_true (by kernel_rfl)
theorem wideTrip : (match Tryz.prog.underlying 33 with | some (.array _ _) | some (.struct _) => true | _ => false) = true := by kernel_rfl
theorem lawTrip : Keyed Tryz.prog 33 := Keyed.of_law (deep_law_laid laidOut (m := 2) (by omega) rowTrip (by kernel_rfl) wideTrip)
theorem keyTypeTrip : Tryz.prog.keyType 33 = true := by kernel_rfl
theorem cellsTrip : Tryz.prog.cellsOf 33 = 4 := by kernel_rfl
theorem cellsInt : Tryz.prog.cellsOf 3 = 1 := by kernel_rfl
theorem cellsStr : Tryz.prog.cellsOf 9 = 1 := by kernel_rfl

/-- Each triple of numbers and a text has a key. -/
theorem key_trip {b x r : Int} {p : ByteArray} (wb : (Lit.int .i64 b).wf = true) (wp : p.size ≤ maxLen) (wx : (Lit.int .i64 x).wf = true) (wr : (Lit.int .i64 r).wf = true) :
    keyOf Tryz.prog 33 (.agg #[.int .i64 b, .string p, .int .i64 x, .int .i64 r]) = some (.string (keyBytes [.int .i64 b, .string p.data.toList, .int .i64 x, .int .i64 r])) := by
  obtain ⟨m, hm⟩ : ∃ m, Tryz.prog.types.size = m + 1 := ⟨Tryz.prog.types.size - 1, (Nat.succ_pred_eq_of_pos (Nat.lt_of_le_of_lt (Nat.zero_le _) rowTrip)).symm⟩
  unfold keyOf
  simp only [Tryz.underlying33]
  rw [if_pos (by simp [keyTypeTrip, Value.formed, Tryz.underlying33, cellsTrip]), hm]
  unfold Program.keyLits
  simp [Tryz.underlying33, Value.cells, cellsTrip, cellsInt, cellsStr, Program.keyLits, Tryz.underlying3, Tryz.underlying9, wb, wp, wx, wr]

/-- How an element reads as it is. -/
def asIs (v : Value) : Option (DataW Value × List MemPlace) := some (.held v, [])
theorem asIs_mk (v : Value) : asIs v = some (.held v, []) := rfl
theorem asIs_inv {v u : Value} {ps : List MemPlace} (h : asIs v = some (.held u, ps)) : v = u := by unfold asIs at h; cases h; rfl

theorem zeroFinding (w : World) : (zeroValue 95).run Tryz.prog w = .ok (.agg #[.int .i64 0, .int .i64 0]) w := by kernel_rfl
/-- What stands in a map at a key. -/
theorem found_at {W : World} {g n : Nat} {D : DataW Value} (h : W.ownsMap Tryz.prog 33 asIs g n D) {key : Value} {kl : Lit} (hk : keyOf Tryz.prog 33 key = some kl) {u : Value} (hu : D.atKey kl (.held (.agg #[.int .i64 0, .int .i64 0])) = .held u) :
    (Instr.lookup 91 (.map (some g)) key false).run Tryz.prog W = .ok u W := by
  obtain ⟨v, ps, hrun, hv⟩ := h.lookup lawTrip Tryz.underlying91 (zeroFinding W) (asIs_mk _) hk
  rw [hu] at hv
  rw [asIs_inv hv] at hrun
  exact hrun
/-- In the nil map there is nothing. -/
theorem found_nil (b : Int) (p : ByteArray) (x r : Int) (W : World) :
    (Instr.lookup 91 (.map none) (.agg #[.int .i64 b, .string p, .int .i64 x, .int .i64 r]) false).run Tryz.prog W = .ok (.agg #[.int .i64 0, .int .i64 0]) W := by kernel_rfl
end Go.Proofs.YtngcdgnijfiocaaGreatDoor

namespace Go.Proofs.YtngcdgnijfiocaaGreatDoor
open Go.ChangeShapes Go.WideShapes Go.ChangeAt Go.RowKit Go.Shelf Go.Maps
attribute [local go_sem] Oper.semAt_some
set_option maxRecDepth 100000

/-- The error of triples that are none. -/
def NoTrip (N : Nat) (W : World) : Prop := (∃ T v, W.cell? ⟨1, 0, none⟩ = some (.iface T v)) ∧ 1 < N
theorem NoTrip.below {N : Nat} {W W' : World} (h : NoTrip N W) {n : Nat} (hb : Below n W W') (hn : N ≤ n) : NoTrip N W' := by
  obtain ⟨⟨T, v, e⟩, hl⟩ := h
  exact ⟨⟨T, v, (hb.cell (p := ⟨1, 0, none⟩) (Nat.lt_of_lt_of_le hl hn)).trans e⟩, hl⟩

theorem valid_reach (b : Int) (p : ByteArray) (x r : Int) : validT b p x r = (reachB p b x && isSet r) := by
  unfold validT reachB isP
  cases isSet b <;> cases (readP p.toList).isSome <;> cases inB x 0 1 <;> cases isSet r <;> rfl
theorem valid_wf {b : Int} {p : ByteArray} {x r : Int} (h : validT b p x r = true) : (Lit.int .i64 b).wf = true ∧ p.size ≤ maxLen ∧ (Lit.int .i64 x).wf = true ∧ (Lit.int .i64 r).wf = true := by
  obtain ⟨h1, h2, h3, h4⟩ := valid_all h
  have k1 := of_decide_eq_true h1
  have k4 := of_decide_eq_true h4
  rw [Lib.toList_data] at h2
  have k2 := isP_len h2
  have k3 : p.data.toList.length = p.size := by rw [Array.length_toList]; rfl
  exact ⟨WalkArith.wf_i64 (by omega), by unfold maxLen; omega, WalkArith.wf_i64 (by omega), WalkArith.wf_i64 (by omega)⟩

/-- A triple's key. -/
def keyT (b : Int) (p : ByteArray) (x r : Int) : Lit := .string (keyBytes [.int .i64 b, .string p.data.toList, .int .i64 x, .int .i64 r])
theorem key_valid {b : Int} {p : ByteArray} {x r : Int} (h : validT b p x r = true) : keyOf Tryz.prog 33 (.agg #[.int .i64 b, .string p, .int .i64 x, .int .i64 r]) = some (keyT b p x r) := by
  obtain ⟨h1, h2, h3, h4⟩ := valid_wf h
  exact key_trip h1 h2 h3 h4

set_option maxHeartbeats 2000000 in
theorem pfind_yes (b : Int) (p : ByteArray) (x r : Int) (W : World) (g : Nat) (hT : TripAt W g b p x r) {N : Nat} (hL : Laid3 N W) (hv : validT b p x r = true) :
    Calls Tryz.prog 56 #[.slice (some ⟨g, 0, none⟩) 1 1] W fun e W' => Below W.heap.size W W' ∧
      ∃ m, e = .returned (.tuple #[.map (some m), .nilIface]) ∧ W'.ownsMap Tryz.prog 33 asIs m 1 ((DataW.map []).put (keyT b p x r) (.held (.agg #[.int .i64 r, .int .i64 (reachN p b x)]))) := by
  have hmm := @run_makeMap Tryz.prog
  have hkey := key_valid hv
  have hP := fun (X : World) (hX : Laid3 N X) => preach10 p b x X hX
  have hrs := valid_reach b p x r
  rw [hv] at hrs
  have hro : reachB p b x = true := by cases hq : reachB p b x <;> rw [hq] at hrs <;> simp at hrs <;> rfl
  have hso : isSet r = true := by rw [hro] at hrs; simpa using hrs.symm
  rw [hro] at hP
  have HS := Lib.hid hso
  clear hrs hro hso hv
  generalize reachN p b x = z at hP ⊢
  generalize keyT b p x r = kl at hkey ⊢
  have h0 := World.ownsMap_made W Tryz.prog 33 asIs
  have b0 : Below W.heap.size W (W.alloc (.map #[] 0)) := (Below.refl _ W).alloc (Nat.le_refl _) _
  have hg := hT.lt
  go_enter Tryz.func56, Tryz.ntmps56
  go_wp2_with fail
  go_loopw [12] (fun i wr => ∃ k : Nat, k ≤ 1 ∧ i = .int .i64 k ∧ Below W.heap.size W wr ∧ wr.ownsMap Tryz.prog 33 asIs W.heap.size k (if k = 0 then .map [] else (DataW.map []).put kl (.held (.agg #[.int .i64 r, .int .i64 z])))) (fun i _ => 1 - (intOf i).toNat)
  case atStart => exact ⟨0, by omega, rfl, b0, h0⟩
  case round =>
    obtain ⟨k, hk, rfl, hB, hown⟩ := hrel
    by_cases hlt : k < 1
    · obtain rfl : k = 0 := by omega
      rw [if_pos rfl] at hown
      have hT1 := hT.below hB hg
      obtain ⟨c0, c1, c2, c3⟩ := hT1.cells
      have hA1 : Below wr.heap.size wr (wr.alloc (.cells #[.int .i64 b, .string p, .int .i64 x, .int .i64 r] 33)) := (Below.refl _ wr).alloc (Nat.le_refl _) _
      have hL1 := (hL.below hB hL.lt).below hA1 (Nat.le_trans hL.lt hB.size)
      have hT2 := TripAt.new wr b p x r
      have hown1 := hown.alloc (.cells #[.int .i64 b, .string p, .int .i64 x, .int .i64 r] 33)
      go_wp2_with (first
        | (go_at_call 9; refine (hP _ hL1).mono ?_; rintro e W1 ⟨rfl, hb⟩; have hT3 := hT2.below hb hT2.lt; obtain ⟨d0, d1, d2, d3⟩ := hT3.cells; have hown2 := World.ownsMap.kept (row := none) hown1 ⟨hb.os, hb.tape, hb.output, hb.size, fun i hi _ => hb.block i hi⟩ (by simp); obtain ⟨w3, r3, hown3, g3⟩ := hown2.update (val := .agg #[.int .i64 r, .int .i64 z]) lawTrip Tryz.underlying91 (by unfold maxLen; omega) hkey (asIs_mk _))
        | (go_at_call 38; refine (sv24 _ _).mono ?_; rintro e w' ⟨rfl, rfl⟩; rw [HS.out]))
      have hB1 := (hB.alloc hB.size (.cells #[.int .i64 b, .string p, .int .i64 x, .int .i64 r] 33))
      have hB2 := hB1.trans (hb.mono hB1.size)
      have hB3 := hB2.grown g3 hB2.size (fun j e => by cases e; exact Nat.le_refl _)
      go_roundw
      case rel => exact ⟨1, by omega, by go_num, hB3, hown3⟩
      case measure => simp [intOf]
    · obtain rfl : k = 1 := by omega
      rw [if_neg (by decide)] at hown
      go_wp2_with fail
      go_ret2
      exact ⟨hB, _, rfl, hown⟩

set_option maxHeartbeats 2000000 in
theorem pfind_no (b : Int) (p : ByteArray) (x r : Int) (W : World) (g : Nat) (hT : TripAt W g b p x r) {N : Nat} (hL : Laid3 N W) (hE : NoTrip N W) (hv : validT b p x r = false) :
    Calls Tryz.prog 56 #[.slice (some ⟨g, 0, none⟩) 1 1] W fun e W' => Below W.heap.size W W' ∧ ∃ T v, e = .returned (.tuple #[.map none, .iface T v]) := by
  have hmm := @run_makeMap Tryz.prog
  have hP := fun (X : World) (hX : Laid3 N X) => preach10 p b x X hX
  have hrs := valid_reach b p x r
  rw [hv] at hrs
  have b0 : Below W.heap.size W (W.alloc (.map #[] 0)) := (Below.refl _ W).alloc (Nat.le_refl _) _
  have hg := hT.lt
  cases hro : reachB p b x with
  | false =>
    rw [hro] at hP
    clear hrs hro hv
    generalize reachN p b x = z at hP
    go_enter Tryz.func56, Tryz.ntmps56
    go_wp2_with fail
    go_loopw [12] (fun i wr => i = .int .i64 0 ∧ wr = W.alloc (.map #[] 0)) (fun _ _ => 0)
    case atStart => exact ⟨rfl, rfl⟩
    case round =>
      obtain ⟨rfl, rfl⟩ := hrel
      have hT1 := hT.below b0 hg
      obtain ⟨c0, c1, c2, c3⟩ := hT1.cells
      have hB1 := b0.alloc b0.size (.cells #[.int .i64 b, .string p, .int .i64 x, .int .i64 r] 33)
      have hL1 := hL.below hB1 hL.lt
      go_wp2_with (first
        | (go_at_call 9; refine (hP _ hL1).mono ?_; rintro e W1 ⟨rfl, hb⟩; have hB2 := hB1.trans (hb.mono hB1.size); obtain ⟨⟨T, v, he⟩, _⟩ := hE.below hB2 hL.lt))
      go_region
      all_goals go_wp2_with fail
      all_goals
        go_ret2
        first | exact ⟨hB2, _, _, rfl⟩ | exact ⟨hB2.drew, _, _, rfl⟩
  | true =>
    have hso : isSet r = false := by rw [hro] at hrs; simpa using hrs.symm
    rw [hro] at hP
    have HS := Lib.hid hso
    clear hrs hro hso hv
    generalize reachN p b x = z at hP
    go_enter Tryz.func56, Tryz.ntmps56
    go_wp2_with fail
    go_loopw [12] (fun i wr => i = .int .i64 0 ∧ wr = W.alloc (.map #[] 0)) (fun _ _ => 0)
    case atStart => exact ⟨rfl, rfl⟩
    case round =>
      obtain ⟨rfl, rfl⟩ := hrel
      have hT1 := hT.below b0 hg
      obtain ⟨c0, c1, c2, c3⟩ := hT1.cells
      have hB1 := b0.alloc b0.size (.cells #[.int .i64 b, .string p, .int .i64 x, .int .i64 r] 33)
      have hT2 := TripAt.new (W.alloc (.map #[] 0)) b p x r
      have hL1 := hL.below hB1 hL.lt
      go_wp2_with (first
        | (go_at_call 9; refine (hP _ hL1).mono ?_; rintro e W1 ⟨rfl, hb⟩; have hB2 := hB1.trans (hb.mono hB1.size); obtain ⟨⟨T, v, he⟩, _⟩ := hE.below hB2 hL.lt; obtain ⟨d0, d1, d2, d3⟩ := (hT2.below hb hT2.lt).cells; rw [World.size_alloc] at d0 d1 d2 d3)
        | (go_at_call 38; refine (sv24 _ _).mono ?_; rintro e w' ⟨rfl, rfl⟩; rw [HS.out]))
      go_region
      all_goals go_wp2_with fail
      all_goals
        go_ret2
        first | exact ⟨hB2, _, _, rfl⟩ | exact ⟨hB2.drew, _, _, rfl⟩
end Go.Proofs.YtngcdgnijfiocaaGreatDoor

namespace Go.Proofs.YtngcdgnijfiocaaGreatDoor
open Go.ChangeShapes Go.WideShapes Go.ChangeAt Go.RowKit Go.Shelf Go.Maps
attribute [local go_sem] Oper.semAt_some
set_option maxRecDepth 100000

theorem pmiss54 (a z : Int) (w : World) : Calls Tryz.prog 57 #[.agg #[.int .i64 a, .int .i64 z]] w fun e w' => e = .returned (.int .i64 (bits .andNot .i64 a z)) ∧ Below w.heap.size w w' := by
  go_enter Tryz.func57, Tryz.ntmps57
  go_wp2
  go_ret
  exact ⟨rfl, (Below.refl _ _).alloc (Nat.le_refl _) _⟩
theorem psurp55 (a z : Int) (w : World) : Calls Tryz.prog 126 #[.agg #[.int .i64 a, .int .i64 z]] w fun e w' => e = .returned (.int .i64 (bits .andNot .i64 z a)) ∧ Below w.heap.size w w' := by
  go_enter Tryz.func126, Tryz.ntmps126
  go_wp2
  go_ret
  exact ⟨rfl, (Below.refl _ _).alloc (Nat.le_refl _) _⟩
theorem psure51 (a z : Int) (w : World) : Calls Tryz.prog 108 #[.agg #[.int .i64 a, .int .i64 z]] w fun e w' => e = .returned (.bool (bits .andNot .i64 a z == 0)) ∧ Below w.heap.size w w' := by
  have hA : Below w.heap.size w (w.alloc (.cells #[.int .i64 a, .int .i64 z] 95)) := (Below.refl _ w).alloc (Nat.le_refl _) _
  go_enter Tryz.func108, Tryz.ntmps108
  go_wp2_with (go_at_call 57; refine (pmiss54 _ _ _).mono ?_; rintro e W1 ⟨rfl, hb⟩)
  go_ret
  exact ⟨rfl, hA.trans (hb.mono hA.size)⟩

/-- What is told of a finding by a word. -/
def kindsD (a z : Int) : DataW Value := ((DataW.map []).put (.string [115, 117, 114, 101]) (.held (.func (.func 108) #[.agg #[.int .i64 a, .int .i64 z]] #[]))).put (.string [97, 108, 119, 97, 121, 115]) (.held (.func (.func 109) #[.agg #[.int .i64 a, .int .i64 z]] #[]))
theorem sureText : keyOf Tryz.prog 9 (.string ⟨#[115, 117, 114, 101]⟩) = some (.string [115, 117, 114, 101]) := by
  have h := WideMaps.keyOf_string_mk (s := ⟨#[115, 117, 114, 101]⟩) Tryz.underlying9 (by decide)
  exact h
theorem alwaysText : keyOf Tryz.prog 9 (.string ⟨#[97, 108, 119, 97, 121, 115]⟩) = some (.string [97, 108, 119, 97, 121, 115]) := by
  have h := WideMaps.keyOf_string_mk (s := ⟨#[97, 108, 119, 97, 121, 115]⟩) Tryz.underlying9 (by decide)
  exact h
theorem pkinds65 (a z : Int) (w : World) : Calls Tryz.prog 89 #[.agg #[.int .i64 a, .int .i64 z]] w fun e w' => e = .returned (.map (some (w.heap.size + 1))) ∧ w'.ownsMap Tryz.prog 9 asIs (w.heap.size + 1) 2 (kindsD a z) ∧ Below w.heap.size w w' := by
  have hmm := @run_makeMap Tryz.prog
  have hA : Below w.heap.size w (w.alloc (.cells #[.int .i64 a, .int .i64 z] 95)) := (Below.refl _ w).alloc (Nat.le_refl _) _
  have h0 := World.ownsMap_made (w.alloc (.cells #[.int .i64 a, .int .i64 z] 95)) Tryz.prog 9 asIs
  rw [World.size_alloc] at h0
  obtain ⟨w1, r1, h1, g1⟩ := h0.update (val := .func (.func 108) #[.agg #[.int .i64 a, .int .i64 z]] #[]) lawStr Tryz.underlying133 (by unfold maxLen; omega) sureText (asIs_mk _)
  have k0 : w1.cell? ⟨w.heap.size, 0, none⟩ = some (.int .i64 a) := by
    rw [World.cell?_of_block (g1.block w.heap.size (by simp; omega) (by simp))]
    simp
  have k1 : w1.cell? ⟨w.heap.size, 1, none⟩ = some (.int .i64 z) := by
    rw [World.cell?_of_block (g1.block w.heap.size (by simp; omega) (by simp))]
    simp
  obtain ⟨w2, r2, h2, g2⟩ := h1.update (val := .func (.func 109) #[.agg #[.int .i64 a, .int .i64 z]] #[]) lawStr Tryz.underlying133 (by unfold maxLen; omega) alwaysText (asIs_mk _)
  have hB := hA.alloc hA.size (.map #[] 0)
  have hB1 := hB.grown g1 hB.size (fun j e => by cases e; exact Nat.le_succ _)
  have hB2 := hB1.grown g2 hB1.size (fun j e => by cases e; exact Nat.le_succ _)
  go_enter Tryz.func89, Tryz.ntmps89
  go_wp2
  go_ret
  exact ⟨rfl, h2, hB2⟩
theorem zeroFun (w : World) : (zeroValue 132).run Tryz.prog w = .ok .nilFunc w := by kernel_rfl
theorem kind_at {W : World} {g : Nat} {a z : Int} (h : W.ownsMap Tryz.prog 9 asIs g 2 (kindsD a z)) :
    (Instr.lookup 133 (.map (some g)) (.string ⟨#[115, 117, 114, 101]⟩) false).run Tryz.prog W = .ok (.func (.func 108) #[.agg #[.int .i64 a, .int .i64 z]] #[]) W ∧
    (Instr.lookup 133 (.map (some g)) (.string ⟨#[97, 108, 119, 97, 121, 115]⟩) false).run Tryz.prog W = .ok (.func (.func 109) #[.agg #[.int .i64 a, .int .i64 z]] #[]) W := by
  obtain ⟨v, ps, hrun, hv⟩ := h.lookup lawStr Tryz.underlying133 (zeroFun W) (asIs_mk _) sureText
  obtain ⟨v', ps', hrun', hv'⟩ := h.lookup lawStr Tryz.underlying133 (zeroFun W) (asIs_mk _) alwaysText
  have e1 : (kindsD a z).atKey (.string [115, 117, 114, 101]) (.held .nilFunc) = .held (.func (.func 108) #[.agg #[.int .i64 a, .int .i64 z]] #[]) := by rfl
  have e2 : (kindsD a z).atKey (.string [97, 108, 119, 97, 121, 115]) (.held .nilFunc) = .held (.func (.func 109) #[.agg #[.int .i64 a, .int .i64 z]] #[]) := by rfl
  rw [e1] at hv
  rw [e2] at hv'
  rw [asIs_inv hv] at hrun
  rw [asIs_inv hv'] at hrun'
  exact ⟨hrun, hrun'⟩
theorem palways85 (a z : Int) (w : World) : Calls Tryz.prog 109 #[.agg #[.int .i64 a, .int .i64 z]] w fun e w' => e = .returned (.bool (bits .andNot .i64 z a == 0)) ∧ Below w.heap.size w w' := by
  have hA : Below w.heap.size w (w.alloc (.cells #[.int .i64 a, .int .i64 z] 95)) := (Below.refl _ w).alloc (Nat.le_refl _) _
  go_enter Tryz.func109, Tryz.ntmps109
  go_wp2_with (go_at_call 126; refine (psurp55 _ _ _).mono ?_; rintro e W1 ⟨rfl, hb⟩)
  go_ret
  exact ⟨rfl, hA.trans (hb.mono hA.size)⟩

/-- Behind the laying of a triple and of a row of just this one. -/
theorem laid_two (W : World) (b : Int) (p : ByteArray) (x r : Int) :
    TripAt ((W.alloc (.cells #[.int .i64 b, .string p, .int .i64 x, .int .i64 r] 33)).alloc (.cells #[.int .i64 b, .string p, .int .i64 x, .int .i64 r] 33)) W.heap.size b p x r ∧
    TripAt ((W.alloc (.cells #[.int .i64 b, .string p, .int .i64 x, .int .i64 r] 33)).alloc (.cells #[.int .i64 b, .string p, .int .i64 x, .int .i64 r] 33)) (W.heap.size + 1) b p x r ∧
    Below W.heap.size W ((W.alloc (.cells #[.int .i64 b, .string p, .int .i64 x, .int .i64 r] 33)).alloc (.cells #[.int .i64 b, .string p, .int .i64 x, .int .i64 r] 33)) := by
  have h1 := TripAt.new W b p x r
  have h2 := TripAt.new (W.alloc (.cells #[.int .i64 b, .string p, .int .i64 x, .int .i64 r] 33)) b p x r
  rw [World.size_alloc] at h2
  have hA : Below (W.heap.size + 1) (W.alloc (.cells #[.int .i64 b, .string p, .int .i64 x, .int .i64 r] 33)) ((W.alloc (.cells #[.int .i64 b, .string p, .int .i64 x, .int .i64 r] 33)).alloc (.cells #[.int .i64 b, .string p, .int .i64 x, .int .i64 r] 33)) := (Below.refl _ _).alloc (by simp) _
  exact ⟨h1.below hA (Nat.lt_succ_self _), h2, ((Below.refl _ W).alloc (Nat.le_refl _) _).alloc (by simp) _⟩

set_option maxHeartbeats 2000000 in
theorem pkind_sure (b : Int) (p : ByteArray) (x r : Int) (W : World) {N : Nat} (hL : Laid3 N W) (hv : validT b p x r = true) :
    Calls Tryz.prog 51 #[.agg #[.int .i64 b, .string p, .int .i64 x, .int .i64 r], .string ⟨#[115, 117, 114, 101]⟩] W fun e W' => e = .returned (.bool (bits .andNot .i64 r (reachN p b x) == 0)) ∧ Below W.heap.size W W' := by
  obtain ⟨hT1, hT2, hA⟩ := laid_two W b p x r
  have hF := pfind_yes b p x r _ _ hT2 (hL.below hA hL.lt) hv
  have hkey := key_valid hv
  clear hv
  generalize reachN p b x = z at hF ⊢
  generalize keyT b p x r = kl at hF hkey
  have hkl := Keyed.key lawTrip hkey
  go_enter Tryz.func51, Tryz.ntmps51
  go_wp2_with (first
    | (go_at_call 56; refine hF.mono ?_; rintro e W1 ⟨hb, m, rfl, hown⟩; obtain ⟨c0, c1, c2, c3⟩ := (hT1.below hb (by simp; omega)).cells; have hfd := found_at hown hkey (atKey_put_same isMap_empty hkl _ _))
    | (go_at_call 89; refine (pkinds65 _ _ _).mono ?_; rintro e W2 ⟨rfl, hown2, hb2⟩; obtain ⟨hks, _⟩ := kind_at hown2)
    | (go_at_call 108; refine (psure51 _ _ _).mono ?_; rintro e W3 ⟨rfl, hb3⟩))
  go_ret
  have h1 := hA.trans (hb.mono hA.size)
  have h2 := h1.trans (hb2.mono h1.size)
  exact ⟨rfl, h2.trans (hb3.mono h2.size)⟩
set_option maxHeartbeats 2000000 in
theorem pkind_always (b : Int) (p : ByteArray) (x r : Int) (W : World) {N : Nat} (hL : Laid3 N W) (hv : validT b p x r = true) :
    Calls Tryz.prog 51 #[.agg #[.int .i64 b, .string p, .int .i64 x, .int .i64 r], .string ⟨#[97, 108, 119, 97, 121, 115]⟩] W fun e W' => e = .returned (.bool (bits .andNot .i64 (reachN p b x) r == 0)) ∧ Below W.heap.size W W' := by
  obtain ⟨hT1, hT2, hA⟩ := laid_two W b p x r
  have hF := pfind_yes b p x r _ _ hT2 (hL.below hA hL.lt) hv
  have hkey := key_valid hv
  clear hv
  generalize reachN p b x = z at hF ⊢
  generalize keyT b p x r = kl at hF hkey
  have hkl := Keyed.key lawTrip hkey
  go_enter Tryz.func51, Tryz.ntmps51
  go_wp2_with (first
    | (go_at_call 56; refine hF.mono ?_; rintro e W1 ⟨hb, m, rfl, hown⟩; obtain ⟨c0, c1, c2, c3⟩ := (hT1.below hb (by simp; omega)).cells; have hfd := found_at hown hkey (atKey_put_same isMap_empty hkl _ _))
    | (go_at_call 89; refine (pkinds65 _ _ _).mono ?_; rintro e W2 ⟨rfl, hown2, hb2⟩; obtain ⟨_, hks⟩ := kind_at hown2)
    | (go_at_call 109; refine (palways85 _ _ _).mono ?_; rintro e W3 ⟨rfl, hb3⟩))
  go_ret
  have h1 := hA.trans (hb.mono hA.size)
  have h2 := h1.trans (hb2.mono h1.size)
  exact ⟨rfl, h2.trans (hb3.mono h2.size)⟩
set_option maxHeartbeats 2000000 in
theorem pkind_no (b : Int) (p : ByteArray) (x r : Int) (k : ByteArray) (W : World) {N : Nat} (hL : Laid3 N W) (hE : NoTrip N W) (hv : validT b p x r = false) :
    Calls Tryz.prog 51 #[.agg #[.int .i64 b, .string p, .int .i64 x, .int .i64 r], .string k] W fun e W' => e = .returned (.bool false) ∧ Below W.heap.size W W' := by
  obtain ⟨hT1, hT2, hA⟩ := laid_two W b p x r
  have hF := pfind_no b p x r _ _ hT2 (hL.below hA hL.lt) (hE.below hA hL.lt) hv
  clear hv
  go_enter Tryz.func51, Tryz.ntmps51
  go_wp2_with (go_at_call 56; refine hF.mono ?_; rintro e W1 ⟨hb, T, v, rfl⟩)
  go_ret
  exact ⟨rfl, hA.trans (hb.mono hA.size)⟩
end Go.Proofs.YtngcdgnijfiocaaGreatDoor
