/- Chapter 5, the program: sure, always, missing, surplus. -/
import Derived.Test.YtpepaobgngighabGreatDoorTF
namespace Go.Proofs.YtpepaobgngighabGreatDoor
open Go.ChangeShapes Go.WideShapes Go.ChangeAt Go.RowKit Go.Shelf Go.Maps
attribute [local go_sem] Oper.semAt_some
set_option maxRecDepth 100000

theorem pmiss54 (a z : Int) (w : World) : Calls Tryz.prog 67 #[.agg #[.int .i64 a, .int .i64 z]] w fun e w' => e = .returned (.int .i64 (bits .andNot .i64 a z)) ∧ Below w.heap.size w w' := by
  go_enter Tryz.func67, Tryz.ntmps67
  go_wp2
  go_ret
  exact ⟨rfl, (Below.refl _ _).alloc (Nat.le_refl _) _⟩
theorem psurp55 (a z : Int) (w : World) : Calls Tryz.prog 68 #[.agg #[.int .i64 a, .int .i64 z]] w fun e w' => e = .returned (.int .i64 (bits .andNot .i64 z a)) ∧ Below w.heap.size w w' := by
  go_enter Tryz.func68, Tryz.ntmps68
  go_wp2
  go_ret
  exact ⟨rfl, (Below.refl _ _).alloc (Nat.le_refl _) _⟩
theorem psure51 (a z : Int) (w : World) : Calls Tryz.prog 54 #[.agg #[.int .i64 a, .int .i64 z]] w fun e w' => e = .returned (.bool (bits .andNot .i64 a z == 0)) ∧ Below w.heap.size w w' := by
  have hA : Below w.heap.size w (w.alloc (.cells #[.int .i64 a, .int .i64 z] 82)) := (Below.refl _ w).alloc (Nat.le_refl _) _
  go_enter Tryz.func54, Tryz.ntmps54
  go_wp2_with (go_at_call 67; refine (pmiss54 _ _ _).mono ?_; rintro e W1 ⟨rfl, hb⟩)
  go_ret
  exact ⟨rfl, hA.trans (hb.mono hA.size)⟩

/-- What is told of a finding by a word. -/
def kindsD (a z : Int) : DataW Value := ((DataW.map []).put (.string [115, 117, 114, 101]) (.held (.func (.func 54) #[.agg #[.int .i64 a, .int .i64 z]] #[]))).put (.string [97, 108, 119, 97, 121, 115]) (.held (.func (.func 55) #[.agg #[.int .i64 a, .int .i64 z]] #[]))
theorem sureText : keyOf Tryz.prog 9 (.string ⟨#[115, 117, 114, 101]⟩) = some (.string [115, 117, 114, 101]) := by
  have h := WideMaps.keyOf_string_mk (s := ⟨#[115, 117, 114, 101]⟩) Tryz.underlying9 (by decide)
  exact h
theorem alwaysText : keyOf Tryz.prog 9 (.string ⟨#[97, 108, 119, 97, 121, 115]⟩) = some (.string [97, 108, 119, 97, 121, 115]) := by
  have h := WideMaps.keyOf_string_mk (s := ⟨#[97, 108, 119, 97, 121, 115]⟩) Tryz.underlying9 (by decide)
  exact h
theorem pkinds65 (a z : Int) (w : World) : Calls Tryz.prog 46 #[.agg #[.int .i64 a, .int .i64 z]] w fun e w' => e = .returned (.map (some (w.heap.size + 1))) ∧ w'.ownsMap Tryz.prog 9 asIs (w.heap.size + 1) 2 (kindsD a z) ∧ Below w.heap.size w w' := by
  have hmm := @run_makeMap Tryz.prog
  have hA : Below w.heap.size w (w.alloc (.cells #[.int .i64 a, .int .i64 z] 82)) := (Below.refl _ w).alloc (Nat.le_refl _) _
  have h0 := World.ownsMap_made (w.alloc (.cells #[.int .i64 a, .int .i64 z] 82)) Tryz.prog 9 asIs
  rw [World.size_alloc] at h0
  obtain ⟨w1, r1, h1, g1⟩ := h0.update (val := .func (.func 54) #[.agg #[.int .i64 a, .int .i64 z]] #[]) lawStr Tryz.underlying80 (by unfold maxLen; omega) sureText (asIs_mk _)
  have k0 : w1.cell? ⟨w.heap.size, 0, none⟩ = some (.int .i64 a) := by
    rw [World.cell?_of_block (g1.block w.heap.size (by simp; omega) (by simp))]
    simp
  have k1 : w1.cell? ⟨w.heap.size, 1, none⟩ = some (.int .i64 z) := by
    rw [World.cell?_of_block (g1.block w.heap.size (by simp; omega) (by simp))]
    simp
  obtain ⟨w2, r2, h2, g2⟩ := h1.update (val := .func (.func 55) #[.agg #[.int .i64 a, .int .i64 z]] #[]) lawStr Tryz.underlying80 (by unfold maxLen; omega) alwaysText (asIs_mk _)
  have hB := hA.alloc hA.size (.map #[] 0)
  have hB1 := hB.grown g1 hB.size (fun j e => by cases e; exact Nat.le_succ _)
  have hB2 := hB1.grown g2 hB1.size (fun j e => by cases e; exact Nat.le_succ _)
  go_enter Tryz.func46, Tryz.ntmps46
  go_wp2
  go_ret
  exact ⟨rfl, h2, hB2⟩
theorem zeroFun (w : World) : (zeroValue 79).run Tryz.prog w = .ok .nilFunc w := by kernel_rfl
theorem kind_at {W : World} {g : Nat} {a z : Int} (h : W.ownsMap Tryz.prog 9 asIs g 2 (kindsD a z)) :
    (Instr.lookup 80 (.map (some g)) (.string ⟨#[115, 117, 114, 101]⟩) false).run Tryz.prog W = .ok (.func (.func 54) #[.agg #[.int .i64 a, .int .i64 z]] #[]) W ∧
    (Instr.lookup 80 (.map (some g)) (.string ⟨#[97, 108, 119, 97, 121, 115]⟩) false).run Tryz.prog W = .ok (.func (.func 55) #[.agg #[.int .i64 a, .int .i64 z]] #[]) W := by
  obtain ⟨v, ps, hrun, hv⟩ := h.lookup lawStr Tryz.underlying80 (zeroFun W) (asIs_mk _) sureText
  obtain ⟨v', ps', hrun', hv'⟩ := h.lookup lawStr Tryz.underlying80 (zeroFun W) (asIs_mk _) alwaysText
  have e1 : (kindsD a z).atKey (.string [115, 117, 114, 101]) (.held .nilFunc) = .held (.func (.func 54) #[.agg #[.int .i64 a, .int .i64 z]] #[]) := by rfl
  have e2 : (kindsD a z).atKey (.string [97, 108, 119, 97, 121, 115]) (.held .nilFunc) = .held (.func (.func 55) #[.agg #[.int .i64 a, .int .i64 z]] #[]) := by rfl
  rw [e1] at hv
  rw [e2] at hv'
  rw [asIs_inv hv] at hrun
  rw [asIs_inv hv'] at hrun'
  exact ⟨hrun, hrun'⟩
theorem palways85 (a z : Int) (w : World) : Calls Tryz.prog 55 #[.agg #[.int .i64 a, .int .i64 z]] w fun e w' => e = .returned (.bool (bits .andNot .i64 z a == 0)) ∧ Below w.heap.size w w' := by
  have hA : Below w.heap.size w (w.alloc (.cells #[.int .i64 a, .int .i64 z] 82)) := (Below.refl _ w).alloc (Nat.le_refl _) _
  go_enter Tryz.func55, Tryz.ntmps55
  go_wp2_with (go_at_call 68; refine (psurp55 _ _ _).mono ?_; rintro e W1 ⟨rfl, hb⟩)
  go_ret
  exact ⟨rfl, hA.trans (hb.mono hA.size)⟩

/-- Behind the laying of a triple and of a row of just this one. -/
theorem laid_two (W : World) (b : Int) (p : ByteArray) (x r : Int) :
    TripAt ((W.alloc (.cells #[.int .i64 b, .string p, .int .i64 x, .int .i64 r] 25)).alloc (.cells #[.int .i64 b, .string p, .int .i64 x, .int .i64 r] 25)) W.heap.size b p x r ∧
    TripAt ((W.alloc (.cells #[.int .i64 b, .string p, .int .i64 x, .int .i64 r] 25)).alloc (.cells #[.int .i64 b, .string p, .int .i64 x, .int .i64 r] 25)) (W.heap.size + 1) b p x r ∧
    Below W.heap.size W ((W.alloc (.cells #[.int .i64 b, .string p, .int .i64 x, .int .i64 r] 25)).alloc (.cells #[.int .i64 b, .string p, .int .i64 x, .int .i64 r] 25)) := by
  have h1 := TripAt.new W b p x r
  have h2 := TripAt.new (W.alloc (.cells #[.int .i64 b, .string p, .int .i64 x, .int .i64 r] 25)) b p x r
  rw [World.size_alloc] at h2
  have hA : Below (W.heap.size + 1) (W.alloc (.cells #[.int .i64 b, .string p, .int .i64 x, .int .i64 r] 25)) ((W.alloc (.cells #[.int .i64 b, .string p, .int .i64 x, .int .i64 r] 25)).alloc (.cells #[.int .i64 b, .string p, .int .i64 x, .int .i64 r] 25)) := (Below.refl _ _).alloc (by simp) _
  exact ⟨h1.below hA (Nat.lt_succ_self _), h2, ((Below.refl _ W).alloc (Nat.le_refl _) _).alloc (by simp) _⟩

set_option maxHeartbeats 2000000 in
theorem pkind_sure (b : Int) (p : ByteArray) (x r : Int) (W : World) {N : Nat} (hL : Laid3 N W) (hv : validT b p x r = true) :
    Calls Tryz.prog 31 #[.agg #[.int .i64 b, .string p, .int .i64 x, .int .i64 r], .string ⟨#[115, 117, 114, 101]⟩] W fun e W' => e = .returned (.bool (bits .andNot .i64 r (reachN p b x) == 0)) ∧ Below W.heap.size W W' := by
  obtain ⟨hT1, hT2, hA⟩ := laid_two W b p x r
  have hF := pfind_yes b p x r _ _ hT2 (hL.below hA hL.lt) hv
  have hkey := key_valid hv
  clear hv
  generalize reachN p b x = z at hF ⊢
  generalize keyT b p x r = kl at hF hkey
  have hkl := Keyed.key lawTrip hkey
  go_enter Tryz.func31, Tryz.ntmps31
  go_wp2_with (first
    | (go_at_call 45; refine hF.mono ?_; rintro e W1 ⟨hb, m, rfl, hown⟩; obtain ⟨c0, c1, c2, c3⟩ := (hT1.below hb (by simp; omega)).cells; have hfd := found_at hown hkey (atKey_put_same isMap_empty hkl _ _))
    | (go_at_call 46; refine (pkinds65 _ _ _).mono ?_; rintro e W2 ⟨rfl, hown2, hb2⟩; obtain ⟨hks, _⟩ := kind_at hown2)
    | (go_at_call 54; refine (psure51 _ _ _).mono ?_; rintro e W3 ⟨rfl, hb3⟩))
  go_ret
  have h1 := hA.trans (hb.mono hA.size)
  have h2 := h1.trans (hb2.mono h1.size)
  exact ⟨rfl, h2.trans (hb3.mono h2.size)⟩
set_option maxHeartbeats 2000000 in
theorem pkind_always (b : Int) (p : ByteArray) (x r : Int) (W : World) {N : Nat} (hL : Laid3 N W) (hv : validT b p x r = true) :
    Calls Tryz.prog 31 #[.agg #[.int .i64 b, .string p, .int .i64 x, .int .i64 r], .string ⟨#[97, 108, 119, 97, 121, 115]⟩] W fun e W' => e = .returned (.bool (bits .andNot .i64 (reachN p b x) r == 0)) ∧ Below W.heap.size W W' := by
  obtain ⟨hT1, hT2, hA⟩ := laid_two W b p x r
  have hF := pfind_yes b p x r _ _ hT2 (hL.below hA hL.lt) hv
  have hkey := key_valid hv
  clear hv
  generalize reachN p b x = z at hF ⊢
  generalize keyT b p x r = kl at hF hkey
  have hkl := Keyed.key lawTrip hkey
  go_enter Tryz.func31, Tryz.ntmps31
  go_wp2_with (first
    | (go_at_call 45; refine hF.mono ?_; rintro e W1 ⟨hb, m, rfl, hown⟩; obtain ⟨c0, c1, c2, c3⟩ := (hT1.below hb (by simp; omega)).cells; have hfd := found_at hown hkey (atKey_put_same isMap_empty hkl _ _))
    | (go_at_call 46; refine (pkinds65 _ _ _).mono ?_; rintro e W2 ⟨rfl, hown2, hb2⟩; obtain ⟨_, hks⟩ := kind_at hown2)
    | (go_at_call 55; refine (palways85 _ _ _).mono ?_; rintro e W3 ⟨rfl, hb3⟩))
  go_ret
  have h1 := hA.trans (hb.mono hA.size)
  have h2 := h1.trans (hb2.mono h1.size)
  exact ⟨rfl, h2.trans (hb3.mono h2.size)⟩
set_option maxHeartbeats 2000000 in
theorem pkind_no (b : Int) (p : ByteArray) (x r : Int) (k : ByteArray) (W : World) {N : Nat} (hL : Laid3 N W) (hE : NoTrip N W) (hv : validT b p x r = false) :
    Calls Tryz.prog 31 #[.agg #[.int .i64 b, .string p, .int .i64 x, .int .i64 r], .string k] W fun e W' => e = .returned (.bool false) ∧ Below W.heap.size W W' := by
  obtain ⟨hT1, hT2, hA⟩ := laid_two W b p x r
  have hF := pfind_no b p x r _ _ hT2 (hL.below hA hL.lt) (hE.below hA hL.lt) hv
  clear hv
  go_enter Tryz.func31, Tryz.ntmps31
  go_wp2_with (go_at_call 45; refine hF.mono ?_; rintro e W1 ⟨hb, T, v, rfl⟩)
  go_ret
  exact ⟨rfl, hA.trans (hb.mono hA.size)⟩
end Go.Proofs.YtpepaobgngighabGreatDoor

