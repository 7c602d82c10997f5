/- Chapter 5, the program: does a triple refute another one. -/
import Derived.Test.YtlimgdnaanoloaaGreatDoorTR
namespace Go.Proofs.YtlimgdnaanoloaaGreatDoor
open Go.ChangeShapes Go.WideShapes Go.ChangeAt Go.RowKit Go.Shelf Go.Maps
attribute [local go_sem] Oper.semAt_some
set_option maxRecDepth 100000

theorem psub52 (b : Int) (p : ByteArray) (x r : Int) (w : World) : Calls Tryz.prog 59 #[.agg #[.int .i64 b, .string p, .int .i64 x, .int .i64 r]] w fun e w' => e = .returned (.agg #[.int .i64 0, .string p, .int .i64 x, .int .i64 0]) ∧ Below w.heap.size w w' := by
  have hA : Below w.heap.size w (w.alloc (.cells #[.int .i64 b, .string p, .int .i64 x, .int .i64 r] 24)) := (Below.refl _ w).alloc (Nat.le_refl _) _
  go_enter Tryz.func59, Tryz.ntmps59
  go_wp2
  refine bodyPost_ret (v := .agg #[.int .i64 0, .string p, .int .i64 x, .int .i64 0]) (by simp [results, Tryz.results59, go_sem]) rfl ⟨rfl, ?_⟩
  first | exact hA | exact hA.alloc hA.size _
theorem eqSub (p p' : ByteArray) (x x' : Int) (w : World) : (Op.equalIn 10000 24 (.agg #[.int .i64 0, .string p, .int .i64 x, .int .i64 0]) (.agg #[.int .i64 0, .string p', .int .i64 x', .int .i64 0])).run Tryz.prog w = .ok ((p.toList == p'.toList) && (x == x')) w := by
  rw [show (10000 : Nat) = 9999 + 1 from rfl, run_equalIn_struct w 9999 24 _ _ (by kernel_rfl) (by kernel_rfl)]
  have hl : (Tryz.prog.fieldsOf 24).toList = [⟨"Before", 3, 0, false, "", "", 0⟩, ⟨"Program", 9, 1, false, "", "", 8⟩, ⟨"Exit", 3, 2, false, "", "", 24⟩, ⟨"Behind", 3, 3, false, "", "", 32⟩] := by kernel_rfl
  have u3 : ∀ (x y : Int) (w : World), (Op.equalIn 9999 3 (.int .i64 x) (.int .i64 y)).run Tryz.prog w = .ok (x == y) w := fun x y w => run_equalIn_int w 9998 3 .i64 .i64 x y Tryz.underlying3
  have u9 : ∀ (x y : ByteArray) (w : World), (Op.equalIn 9999 9 (.string x) (.string y)).run Tryz.prog w = .ok (x.toList == y.toList) w := fun x y w => run_equalIn_string w 9998 9 x y Tryz.underlying9
  have q0 : ∀ (a : Int) (t : ByteArray) (x r : Int) (w : World), (part 3 #[.int .i64 a, .string t, .int .i64 x, .int .i64 r] 0).run Tryz.prog w = .ok (.int .i64 a) w := fun a t x r w => by kernel_rfl
  have q1 : ∀ (a : Int) (t : ByteArray) (x r : Int) (w : World), (part 9 #[.int .i64 a, .string t, .int .i64 x, .int .i64 r] 1).run Tryz.prog w = .ok (.string t) w := fun a t x r w => by kernel_rfl
  have q2 : ∀ (a : Int) (t : ByteArray) (x r : Int) (w : World), (part 3 #[.int .i64 a, .string t, .int .i64 x, .int .i64 r] 2).run Tryz.prog w = .ok (.int .i64 x) w := fun a t x r w => by kernel_rfl
  have q3 : ∀ (a : Int) (t : ByteArray) (x r : Int) (w : World), (part 3 #[.int .i64 a, .string t, .int .i64 x, .int .i64 r] 3).run Tryz.prog w = .ok (.int .i64 r) w := fun a t x r w => by kernel_rfl
  rw [hl]
  have n1 : "Before" ≠ "_" := by decide
  have n2 : "Program" ≠ "_" := by decide
  have n3 : "Exit" ≠ "_" := by decide
  have n4 : "Behind" ≠ "_" := by decide
  simp only [Op.eqFields, if_pos n1, if_pos n2, if_pos n3, if_pos n4, Sem.run_bind, q0, u3, Result.andThen_ok]
  cases h : (p.toList == p'.toList) with
  | false => simp [q1, u9, h]
  | true =>
    cases h' : (x == x') with
    | false => simp [q1, q2, u3, u9, h, h']
    | true => simp [q1, q2, q3, u3, u9, h, h']

/-- What is held of the world while the answer is read. -/
def Held2 (g m : Nat) (D : DataW Value) (b : Int) (p : ByteArray) (x r b' : Int) (p' : ByteArray) (x' r' : Int) (W : World) : Prop := ReadsT g b p x r W ∧ ReadsT (g + 1) b' p' x' r' W ∧ W.ownsMap Tryz.prog 24 asIs m 2 D
theorem Held2.below {g m : Nat} {D : DataW Value} {b : Int} {p : ByteArray} {x r b' : Int} {p' : ByteArray} {x' r' : Int} {W W' : World} (h : Held2 g m D b p x r b' p' x' r' W) (hb : Below W.heap.size W W') (hg : g + 1 < W.heap.size) : Held2 g m D b p x r b' p' x' r' W' :=
  ⟨h.1.below hb (by omega), h.2.1.below hb hg, World.ownsMap.kept (row := none) h.2.2 ⟨hb.os, hb.tape, hb.output, hb.size, fun i hi _ => hb.block i hi⟩ (by simp)⟩
theorem Held2.drew {g m : Nat} {D : DataW Value} {b : Int} {p : ByteArray} {x r b' : Int} {p' : ByteArray} {x' r' : Int} {W : World} (h : Held2 g m D b p x r b' p' x' r' W) : Held2 g m D b p x r b' p' x' r' W.drew := ⟨h.1.drew, h.2.1.drew, h.2.2.drew⟩

/-- What stands at the first of two triples' keys. -/
theorem at_first (b : Int) (p : ByteArray) (x r b' : Int) (p' : ByteArray) (x' r' : Int) (hv : validT b p x r = true) (hv' : validT b' p' x' r' = true) (zd : DataW Value) :
    (((DataW.map []).put (keyT b p x r) (.held (.agg #[.int .i64 r, .int .i64 (reachN p b x)]))).put (keyT b' p' x' r') (.held (.agg #[.int .i64 r', .int .i64 (reachN p' b' x')]))).atKey (keyT b p x r) zd = (.held (.agg #[.int .i64 r, .int .i64 (reachN p b x)]) : DataW Value) := by
  have hk := key_valid hv
  have hk' := key_valid hv'
  by_cases h : keyT b p x r = keyT b' p' x' r'
  · rw [← h] at hk'
    have e := lawTrip.inj hk hk'
    simp only [Value.agg.injEq, Array.mk.injEq, List.cons.injEq, Value.int.injEq, Value.string.injEq, true_and, and_true] at e
    obtain ⟨rfl, rfl, rfl, rfl⟩ := e
    exact atKey_put_same (isMap_empty.put _ _) (Keyed.key lawTrip hk) _ _
  · rw [atKey_put_other h]
    exact atKey_put_same isMap_empty (Keyed.key lawTrip hk) _ _

theorem laid_three (W : World) (b : Int) (p : ByteArray) (x r b' : Int) (p' : ByteArray) (x' r' : Int) :
    ReadsT W.heap.size b p x r (((W.alloc (.cells #[.int .i64 b, .string p, .int .i64 x, .int .i64 r] 24)).alloc (.cells #[.int .i64 b', .string p', .int .i64 x', .int .i64 r'] 24)).alloc (.cells #[.int .i64 b, .string p, .int .i64 x, .int .i64 r, .int .i64 b', .string p', .int .i64 x', .int .i64 r'] 24)) ∧
    ReadsT (W.heap.size + 1) b' p' x' r' (((W.alloc (.cells #[.int .i64 b, .string p, .int .i64 x, .int .i64 r] 24)).alloc (.cells #[.int .i64 b', .string p', .int .i64 x', .int .i64 r'] 24)).alloc (.cells #[.int .i64 b, .string p, .int .i64 x, .int .i64 r, .int .i64 b', .string p', .int .i64 x', .int .i64 r'] 24)) ∧
    TwoAt (((W.alloc (.cells #[.int .i64 b, .string p, .int .i64 x, .int .i64 r] 24)).alloc (.cells #[.int .i64 b', .string p', .int .i64 x', .int .i64 r'] 24)).alloc (.cells #[.int .i64 b, .string p, .int .i64 x, .int .i64 r, .int .i64 b', .string p', .int .i64 x', .int .i64 r'] 24)) (W.heap.size + 1 + 1) b p x r b' p' x' r' ∧
    Below W.heap.size W (((W.alloc (.cells #[.int .i64 b, .string p, .int .i64 x, .int .i64 r] 24)).alloc (.cells #[.int .i64 b', .string p', .int .i64 x', .int .i64 r'] 24)).alloc (.cells #[.int .i64 b, .string p, .int .i64 x, .int .i64 r, .int .i64 b', .string p', .int .i64 x', .int .i64 r'] 24)) := by
  have h1 := TripAt.new W b p x r
  have h2 := TripAt.new (W.alloc (.cells #[.int .i64 b, .string p, .int .i64 x, .int .i64 r] 24)) b' p' x' r'
  have h3 := TwoAt.new ((W.alloc (.cells #[.int .i64 b, .string p, .int .i64 x, .int .i64 r] 24)).alloc (.cells #[.int .i64 b', .string p', .int .i64 x', .int .i64 r'] 24)) b p x r b' p' x' r'
  rw [World.size_alloc] at h2
  rw [World.size_alloc, World.size_alloc] at h3
  have hA : Below (W.heap.size + 1) (W.alloc (.cells #[.int .i64 b, .string p, .int .i64 x, .int .i64 r] 24)) ((W.alloc (.cells #[.int .i64 b, .string p, .int .i64 x, .int .i64 r] 24)).alloc (.cells #[.int .i64 b', .string p', .int .i64 x', .int .i64 r'] 24)) := (Below.refl _ _).alloc (by simp) _
  have hB : Below (W.heap.size + 1 + 1) ((W.alloc (.cells #[.int .i64 b, .string p, .int .i64 x, .int .i64 r] 24)).alloc (.cells #[.int .i64 b', .string p', .int .i64 x', .int .i64 r'] 24)) (((W.alloc (.cells #[.int .i64 b, .string p, .int .i64 x, .int .i64 r] 24)).alloc (.cells #[.int .i64 b', .string p', .int .i64 x', .int .i64 r'] 24)).alloc (.cells #[.int .i64 b, .string p, .int .i64 x, .int .i64 r, .int .i64 b', .string p', .int .i64 x', .int .i64 r'] 24)) := (Below.refl _ _).alloc (by simp) _
  exact ⟨((h1.below hA (Nat.lt_succ_self _)).below hB (by omega)).cells, (h2.below hB (by omega)).cells, h3, (((Below.refl _ W).alloc (Nat.le_refl _) _).alloc (by simp) _).alloc (by first | (simp; done) | (simp; omega)) _⟩

set_option maxHeartbeats 4000000 in
theorem pref_a (b : Int) (p : ByteArray) (x r b' : Int) (p' : ByteArray) (x' r' : Int) (W : World) {N : Nat} (hL : Laid3 N W) (hE : NoTrip N W) (hv : (validT b p x r && validT b' p' x' r') = false) :
    Calls Tryz.prog 27 #[.agg #[.int .i64 b, .string p, .int .i64 x, .int .i64 r], .agg #[.int .i64 b', .string p', .int .i64 x', .int .i64 r']] W fun e W' => e = .returned (.bool false) ∧ Below W.heap.size W W' := by
  obtain ⟨hR1, hR2, hT, hA⟩ := laid_three W b p x r b' p' x' r'
  have hF := pfind2_no b p x r b' p' x' r' _ _ hT (hL.below hA hL.lt) (hE.below hA hL.lt) hv
  clear hv
  go_enter Tryz.func27, Tryz.ntmps27
  go_wp2_with (go_at_call 50; refine hF.mono ?_; rintro e W1 ⟨hb, T, v, rfl⟩)
  have hlt : W.heap.size + 1 < W1.heap.size := Nat.lt_of_lt_of_le (by first | (simp; done) | (simp; omega)) hb.size
  have hq1 := hR1.below hb (by first | (simp; done) | (simp; omega))
  have hq2 := hR2.below hb (by first | (simp; done) | (simp; omega))
  have hB := hA.trans (hb.mono hA.size)
  have hs0 := hB.size
  clear hR1 hR2 hT hA hb hF
  generalize hg : W.heap.size = g at hq1 hq2 hlt hB hs0 ⊢
  have HG := Lib.hid hg
  clear hg
  refine wp_region_held (S := fun w' => ReadsT g b p x r w' ∧ ReadsT (g + 1) b' p' x' r' w') (by kernel_rfl) ?_
  have hS : ReadsT g b p x r W1.drew ∧ ReadsT (g + 1) b' p' x' r' W1.drew := ⟨hq1.drew, hq2.drew⟩
  refine wpAnyH_take (i := 0) (v := .iface T v) rfl (by kernel_rfl) (by kernel_rfl) (by kernel_rfl) (fun _ _ _ h => h) (Or.inl ⟨by rfl, fun w hw => by go_simp⟩) hS ?_
  go_simp
  refine wpAnyH_take (i := 1) (v := .bool false) rfl (by kernel_rfl) (by kernel_rfl) (by kernel_rfl) (fun _ _ _ h => h) (Or.inl ⟨by rfl, fun w hw => by go_simp⟩) hS ?_
  go_simp
  refine wpAnyH_take (i := 2) (v := .bool false) rfl (by kernel_rfl) (by kernel_rfl) (by kernel_rfl) (fun _ _ _ h => h) (Or.inl ⟨by rfl, fun w hw => by go_simp⟩) hS ?_
  go_simp
  refine wpAnyH_take (i := 3) (v := undef) rfl (by kernel_rfl) (by kernel_rfl) (by kernel_rfl) (fun _ _ _ h => h) (Or.inr ⟨by rfl, rfl⟩) hS ?_
  go_simp
  refine wpAnyH_take (i := 4) (v := undef) rfl (by kernel_rfl) (by kernel_rfl) (by kernel_rfl) (fun _ _ _ h => h) (Or.inr ⟨by rfl, rfl⟩) hS ?_
  go_simp
  refine wpAnyH_take (i := 5) (v := undef) rfl (by kernel_rfl) (by kernel_rfl) (by kernel_rfl) (fun _ _ _ h => h) (Or.inr ⟨by rfl, rfl⟩) hS ?_
  go_simp
  refine wpAnyH_take (i := 6) (v := undef) rfl (by kernel_rfl) (by kernel_rfl) (by kernel_rfl) (fun _ _ _ h => h) (Or.inr ⟨by rfl, rfl⟩) hS ?_
  go_simp
  refine wpAnyH_take (i := 7) (v := .bool false) rfl (by kernel_rfl) (by kernel_rfl) (by kernel_rfl) (fun _ _ _ h => h) (Or.inl ⟨by rfl, fun w hw => by go_simp⟩) hS ?_
  go_simp
  refine wpAnyH_take (i := 8) (v := .bool false) rfl (by kernel_rfl) (by kernel_rfl) (by kernel_rfl) (fun _ _ _ h => h) (Or.inl ⟨by rfl, fun w hw => by go_simp⟩) hS ?_
  go_simp
  refine wpAnyH_take (i := 9) (v := undef) rfl (by kernel_rfl) (by kernel_rfl) (by kernel_rfl) (fun _ _ _ h => h) (Or.inr ⟨by rfl, rfl⟩) hS ?_
  go_simp
  refine wpAnyH_take (i := 10) (v := undef) rfl (by kernel_rfl) (by kernel_rfl) (by kernel_rfl) (fun _ _ _ h => h) (Or.inr ⟨by rfl, rfl⟩) hS ?_
  go_simp
  refine wpAnyH_take (i := 11) (v := undef) rfl (by kernel_rfl) (by kernel_rfl) (by kernel_rfl) (fun _ _ _ h => h) (Or.inr ⟨by rfl, rfl⟩) hS ?_
  go_simp
  refine wpAnyH_take (i := 12) (v := undef) rfl (by kernel_rfl) (by kernel_rfl) (by kernel_rfl) (fun _ _ _ h => h) (Or.inr ⟨by rfl, rfl⟩) hS ?_
  go_simp
  refine wpAnyH_take (i := 13) (v := undef) rfl (by kernel_rfl) (by kernel_rfl) (by kernel_rfl) (fun _ _ _ h => h) (Or.inr ⟨by rfl, rfl⟩) hS ?_
  go_simp
  refine wpAnyH_take (i := 14) (v := .bool false) rfl (by kernel_rfl) (by kernel_rfl) (by kernel_rfl) (fun _ _ _ h => h) (Or.inl ⟨by rfl, fun w hw => by go_simp⟩) hS ?_
  go_simp
  refine wpAnyH_take (i := 15) (v := .bool false) rfl (by kernel_rfl) (by kernel_rfl) (by kernel_rfl) (fun _ _ _ h => h) (Or.inl ⟨by rfl, fun w hw => by go_simp⟩) hS ?_
  go_simp
  refine wpAnyH_take (i := 16) (v := undef) rfl (by kernel_rfl) (by kernel_rfl) (by kernel_rfl) (fun _ _ _ h => h) (Or.inr ⟨by rfl, rfl⟩) hS ?_
  go_simp
  refine wpAnyH_take (i := 17) (v := undef) rfl (by kernel_rfl) (by kernel_rfl) (by kernel_rfl) (fun _ _ _ h => h) (Or.inr ⟨by rfl, rfl⟩) hS ?_
  go_simp
  refine wpAnyH_take (i := 18) (v := undef) rfl (by kernel_rfl) (by kernel_rfl) (by kernel_rfl) (fun _ _ _ h => h) (Or.inr ⟨by rfl, rfl⟩) hS ?_
  go_simp
  refine wpAnyH_take (i := 19) (v := undef) rfl (by kernel_rfl) (by kernel_rfl) (by kernel_rfl) (fun _ _ _ h => h) (Or.inr ⟨by rfl, rfl⟩) hS ?_
  go_simp
  refine wpAnyH_take (i := 20) (v := undef) rfl (by kernel_rfl) (by kernel_rfl) (by kernel_rfl) (fun _ _ _ h => h) (Or.inr ⟨by rfl, rfl⟩) hS ?_
  go_simp
  refine wpAnyH_take (i := 21) (v := .bool false) rfl (by kernel_rfl) (by kernel_rfl) (by kernel_rfl) (fun _ _ _ h => h) (Or.inl ⟨by rfl, fun w hw => by go_simp⟩) hS ?_
  go_simp
  refine wpAnyH_take (i := 22) (v := .bool false) rfl (by kernel_rfl) (by kernel_rfl) (by kernel_rfl) (fun _ _ _ h => h) (Or.inl ⟨by rfl, fun w hw => by go_simp⟩) hS ?_
  go_simp
  refine wpAnyH_take (i := 23) (v := undef) rfl (by kernel_rfl) (by kernel_rfl) (by kernel_rfl) (fun _ _ _ h => h) (Or.inr ⟨by rfl, rfl⟩) hS ?_
  go_simp
  refine wpAnyH_take (i := 24) (v := undef) rfl (by kernel_rfl) (by kernel_rfl) (by kernel_rfl) (fun _ _ _ h => h) (Or.inr ⟨by rfl, rfl⟩) hS ?_
  go_simp
  refine wpAnyH_take (i := 25) (v := undef) rfl (by kernel_rfl) (by kernel_rfl) (by kernel_rfl) (fun _ _ _ h => h) (Or.inr ⟨by rfl, rfl⟩) hS ?_
  go_simp
  refine wpAnyH_take (i := 26) (v := undef) rfl (by kernel_rfl) (by kernel_rfl) (by kernel_rfl) (fun _ _ _ h => h) (Or.inr ⟨by rfl, rfl⟩) hS ?_
  go_simp
  refine wpAnyH_take (i := 27) (v := undef) rfl (by kernel_rfl) (by kernel_rfl) (by kernel_rfl) (fun _ _ _ h => h) (Or.inr ⟨by rfl, rfl⟩) hS ?_
  go_simp
  refine wpAnyH_take (i := 28) (v := undef) rfl (by kernel_rfl) (by kernel_rfl) (by kernel_rfl) (fun _ _ _ h => h) (Or.inr ⟨by rfl, rfl⟩) hS ?_
  go_simp
  refine wpAnyH_take (i := 29) (v := .bool false) rfl (by kernel_rfl) (by kernel_rfl) (by kernel_rfl) (fun _ _ _ h => h) (Or.inl ⟨by rfl, fun w hw => by go_simp⟩) hS ?_
  go_simp
  refine wpAnyH_take (i := 30) (v := .bool false) rfl (by kernel_rfl) (by kernel_rfl) (by kernel_rfl) (fun _ _ _ h => h) (Or.inl ⟨by rfl, fun w hw => by go_simp⟩) hS ?_
  go_simp
  refine wpAnyH_done (by kernel_rfl) ?_ _
  go_wp2_with fail
  go_ret
  obtain rfl := HG.out
  exact ⟨rfl, hB.drew⟩
set_option maxHeartbeats 4000000 in
theorem pref_b (b : Int) (p : ByteArray) (x r b' : Int) (p' : ByteArray) (x' r' : Int) (W : World) {N : Nat} (hL : Laid3 N W) (hv : validT b p x r = true) (hv' : validT b' p' x' r' = true) (hz : (bits .andNot .i64 r (reachN p b x) == 0) = false) :
    Calls Tryz.prog 27 #[.agg #[.int .i64 b, .string p, .int .i64 x, .int .i64 r], .agg #[.int .i64 b', .string p', .int .i64 x', .int .i64 r']] W fun e W' => e = .returned (.bool false) ∧ Below W.heap.size W W' := by
  obtain ⟨hR1, hR2, hT, hA⟩ := laid_three W b p x r b' p' x' r'
  have hF := pfind2_yes b p x r b' p' x' r' _ _ hT (hL.below hA hL.lt) hv hv'
  have hkey := key_valid hv
  have hat := fun zd => at_first b p x r b' p' x' r' hv hv' zd
  clear hv hv'
  generalize reachN p b x = z at hF hat hz
  generalize keyT b p x r = kl at hF hat hkey
  generalize hD : (((DataW.map []).put kl (.held (.agg #[.int .i64 r, .int .i64 z]))).put (keyT b' p' x' r') (.held (.agg #[.int .i64 r', .int .i64 (reachN p' b' x')])) : DataW Value) = D at hF hat
  clear hD
  go_enter Tryz.func27, Tryz.ntmps27
  go_wp2_with (go_at_call 50; refine hF.mono ?_; rintro e W1 ⟨hb, m, rfl, hown⟩)
  have hlt : W.heap.size + 1 < W1.heap.size := Nat.lt_of_lt_of_le (by first | (simp; done) | (simp; omega)) hb.size
  have hH : Held2 W.heap.size m D b p x r b' p' x' r' W1 := ⟨hR1.below hb (by first | (simp; done) | (simp; omega)), hR2.below hb (by first | (simp; done) | (simp; omega)), hown⟩
  clear hown
  have hB := hA.trans (hb.mono hA.size)
  have hs0 := hB.size
  clear hR1 hR2 hT hA hb hF
  generalize hg : W.heap.size = g at hH hlt hB hs0 ⊢
  have HG := Lib.hid hg
  clear hg
  refine wp_region_held (S := Held2 g m D b p x r b' p' x' r') (by kernel_rfl) ?_
  have hS := hH.drew
  refine wpAnyH_take (i := 0) (v := .nilIface) rfl (by kernel_rfl) (by kernel_rfl) (by kernel_rfl) (fun _ _ _ h => h) (Or.inl ⟨by rfl, fun w hw => by go_simp⟩) hS ?_
  go_simp
  refine wpAnyH_take (i := 1) (v := .bool true) rfl (by kernel_rfl) (by kernel_rfl) (by kernel_rfl) (fun _ _ _ h => h) (Or.inl ⟨by rfl, fun w hw => by go_simp⟩) hS ?_
  go_simp
  refine wpAnyH_take (i := 2) (v := .bool true) rfl (by kernel_rfl) (by kernel_rfl) (by kernel_rfl) (fun _ _ _ h => h) (Or.inl ⟨by rfl, fun w hw => by go_simp⟩) hS ?_
  go_simp
  refine wpAnyH_take (i := 3) (v := .map (some m)) rfl (by kernel_rfl) (by kernel_rfl) (by kernel_rfl) (fun _ _ _ h => h) (Or.inl ⟨by rfl, fun w hw => by go_simp⟩) hS ?_
  go_simp
  refine wpAnyH_take (i := 4) (v := .agg #[.int .i64 b, .string p, .int .i64 x, .int .i64 r]) rfl (by kernel_rfl) (by kernel_rfl) (by kernel_rfl) (fun _ _ _ h => h) (Or.inl ⟨by rfl, fun w hw => by obtain ⟨⟨c0, c1, c2, c3⟩, ⟨d0, d1, d2, d3⟩, ho⟩ := hw; first | (go_simp; done) | rfl⟩) hS ?_
  go_simp
  refine wpAnyH_take (i := 5) (v := .agg #[.int .i64 r, .int .i64 z]) rfl (by kernel_rfl) (by kernel_rfl) (by kernel_rfl) (fun _ _ _ h => h) (Or.inl ⟨by rfl, fun w hw => by have hq := found_at hw.2.2 hkey (hat _); first | (go_simp; done) | rfl⟩) hS ?_
  go_simp
  refine wpAnyH_ready (rs := [6]) (by kernel_rfl) (by simp) ?_
  refine AllReadyH.cons rfl (fun K hK => ?_) AllReadyH.nil
  go_simp
  go_wp2_with (go_at_call 58; refine (psure51 _ _ _).mono ?_; rintro e W2 ⟨rfl, hb2⟩; rw [hz])
  refine hK _ _ (hS.below hb2 hlt) (fun hS2 => ?_)
  clear hK K
  go_simp
  have hlt2 : g + 1 < W2.heap.size := Nat.lt_of_lt_of_le hlt hb2.size
  refine wpAnyH_take (i := 7) (v := .bool false) rfl (by kernel_rfl) (by kernel_rfl) (by kernel_rfl) (fun _ _ _ h => h) (Or.inl ⟨by rfl, fun w hw => by go_simp⟩) hS2 ?_
  go_simp
  refine wpAnyH_take (i := 8) (v := .bool false) rfl (by kernel_rfl) (by kernel_rfl) (by kernel_rfl) (fun _ _ _ h => h) (Or.inl ⟨by rfl, fun w hw => by go_simp⟩) hS2 ?_
  go_simp
  refine wpAnyH_take (i := 9) (v := undef) rfl (by kernel_rfl) (by kernel_rfl) (by kernel_rfl) (fun _ _ _ h => h) (Or.inr ⟨by rfl, rfl⟩) hS2 ?_
  go_simp
  refine wpAnyH_take (i := 10) (v := undef) rfl (by kernel_rfl) (by kernel_rfl) (by kernel_rfl) (fun _ _ _ h => h) (Or.inr ⟨by rfl, rfl⟩) hS2 ?_
  go_simp
  refine wpAnyH_take (i := 11) (v := undef) rfl (by kernel_rfl) (by kernel_rfl) (by kernel_rfl) (fun _ _ _ h => h) (Or.inr ⟨by rfl, rfl⟩) hS2 ?_
  go_simp
  refine wpAnyH_take (i := 12) (v := undef) rfl (by kernel_rfl) (by kernel_rfl) (by kernel_rfl) (fun _ _ _ h => h) (Or.inr ⟨by rfl, rfl⟩) hS2 ?_
  go_simp
  refine wpAnyH_take (i := 13) (v := undef) rfl (by kernel_rfl) (by kernel_rfl) (by kernel_rfl) (fun _ _ _ h => h) (Or.inr ⟨by rfl, rfl⟩) hS2 ?_
  go_simp
  refine wpAnyH_take (i := 14) (v := .bool false) rfl (by kernel_rfl) (by kernel_rfl) (by kernel_rfl) (fun _ _ _ h => h) (Or.inl ⟨by rfl, fun w hw => by go_simp⟩) hS2 ?_
  go_simp
  refine wpAnyH_take (i := 15) (v := .bool false) rfl (by kernel_rfl) (by kernel_rfl) (by kernel_rfl) (fun _ _ _ h => h) (Or.inl ⟨by rfl, fun w hw => by go_simp⟩) hS2 ?_
  go_simp
  refine wpAnyH_take (i := 16) (v := undef) rfl (by kernel_rfl) (by kernel_rfl) (by kernel_rfl) (fun _ _ _ h => h) (Or.inr ⟨by rfl, rfl⟩) hS2 ?_
  go_simp
  refine wpAnyH_take (i := 17) (v := undef) rfl (by kernel_rfl) (by kernel_rfl) (by kernel_rfl) (fun _ _ _ h => h) (Or.inr ⟨by rfl, rfl⟩) hS2 ?_
  go_simp
  refine wpAnyH_take (i := 18) (v := undef) rfl (by kernel_rfl) (by kernel_rfl) (by kernel_rfl) (fun _ _ _ h => h) (Or.inr ⟨by rfl, rfl⟩) hS2 ?_
  go_simp
  refine wpAnyH_take (i := 19) (v := undef) rfl (by kernel_rfl) (by kernel_rfl) (by kernel_rfl) (fun _ _ _ h => h) (Or.inr ⟨by rfl, rfl⟩) hS2 ?_
  go_simp
  refine wpAnyH_take (i := 20) (v := undef) rfl (by kernel_rfl) (by kernel_rfl) (by kernel_rfl) (fun _ _ _ h => h) (Or.inr ⟨by rfl, rfl⟩) hS2 ?_
  go_simp
  refine wpAnyH_take (i := 21) (v := .bool false) rfl (by kernel_rfl) (by kernel_rfl) (by kernel_rfl) (fun _ _ _ h => h) (Or.inl ⟨by rfl, fun w hw => by go_simp⟩) hS2 ?_
  go_simp
  refine wpAnyH_take (i := 22) (v := .bool false) rfl (by kernel_rfl) (by kernel_rfl) (by kernel_rfl) (fun _ _ _ h => h) (Or.inl ⟨by rfl, fun w hw => by go_simp⟩) hS2 ?_
  go_simp
  refine wpAnyH_take (i := 23) (v := undef) rfl (by kernel_rfl) (by kernel_rfl) (by kernel_rfl) (fun _ _ _ h => h) (Or.inr ⟨by rfl, rfl⟩) hS2 ?_
  go_simp
  refine wpAnyH_take (i := 24) (v := undef) rfl (by kernel_rfl) (by kernel_rfl) (by kernel_rfl) (fun _ _ _ h => h) (Or.inr ⟨by rfl, rfl⟩) hS2 ?_
  go_simp
  refine wpAnyH_take (i := 25) (v := undef) rfl (by kernel_rfl) (by kernel_rfl) (by kernel_rfl) (fun _ _ _ h => h) (Or.inr ⟨by rfl, rfl⟩) hS2 ?_
  go_simp
  refine wpAnyH_take (i := 26) (v := undef) rfl (by kernel_rfl) (by kernel_rfl) (by kernel_rfl) (fun _ _ _ h => h) (Or.inr ⟨by rfl, rfl⟩) hS2 ?_
  go_simp
  refine wpAnyH_take (i := 27) (v := undef) rfl (by kernel_rfl) (by kernel_rfl) (by kernel_rfl) (fun _ _ _ h => h) (Or.inr ⟨by rfl, rfl⟩) hS2 ?_
  go_simp
  refine wpAnyH_take (i := 28) (v := undef) rfl (by kernel_rfl) (by kernel_rfl) (by kernel_rfl) (fun _ _ _ h => h) (Or.inr ⟨by rfl, rfl⟩) hS2 ?_
  go_simp
  refine wpAnyH_take (i := 29) (v := .bool false) rfl (by kernel_rfl) (by kernel_rfl) (by kernel_rfl) (fun _ _ _ h => h) (Or.inl ⟨by rfl, fun w hw => by go_simp⟩) hS2 ?_
  go_simp
  refine wpAnyH_take (i := 30) (v := .bool false) rfl (by kernel_rfl) (by kernel_rfl) (by kernel_rfl) (fun _ _ _ h => h) (Or.inl ⟨by rfl, fun w hw => by go_simp⟩) hS2 ?_
  go_simp
  refine wpAnyH_done (by kernel_rfl) ?_ _
  go_wp2_with fail
  go_ret
  obtain rfl := HG.out
  exact ⟨rfl, hB.drew.trans (hb2.mono hs0)⟩
set_option maxHeartbeats 4000000 in
theorem pref_c (b : Int) (p : ByteArray) (x r b' : Int) (p' : ByteArray) (x' r' : Int) (W : World) {N : Nat} (hL : Laid3 N W) (hv : validT b p x r = true) (hv' : validT b' p' x' r' = true) (hz : (bits .andNot .i64 r (reachN p b x) == 0) = true) (hq : ((p.toList == p'.toList) && (x == x')) = false) :
    Calls Tryz.prog 27 #[.agg #[.int .i64 b, .string p, .int .i64 x, .int .i64 r], .agg #[.int .i64 b', .string p', .int .i64 x', .int .i64 r']] W fun e W' => e = .returned (.bool false) ∧ Below W.heap.size W W' := by
  obtain ⟨hR1, hR2, hT, hA⟩ := laid_three W b p x r b' p' x' r'
  have hF := pfind2_yes b p x r b' p' x' r' _ _ hT (hL.below hA hL.lt) hv hv'
  have hkey := key_valid hv
  have hat := fun zd => at_first b p x r b' p' x' r' hv hv' zd
  clear hv hv'
  generalize reachN p b x = z at hF hat hz
  generalize keyT b p x r = kl at hF hat hkey
  generalize hD : (((DataW.map []).put kl (.held (.agg #[.int .i64 r, .int .i64 z]))).put (keyT b' p' x' r') (.held (.agg #[.int .i64 r', .int .i64 (reachN p' b' x')])) : DataW Value) = D at hF hat
  clear hD
  go_enter Tryz.func27, Tryz.ntmps27
  go_wp2_with (go_at_call 50; refine hF.mono ?_; rintro e W1 ⟨hb, m, rfl, hown⟩)
  have hlt : W.heap.size + 1 < W1.heap.size := Nat.lt_of_lt_of_le (by first | (simp; done) | (simp; omega)) hb.size
  have hH : Held2 W.heap.size m D b p x r b' p' x' r' W1 := ⟨hR1.below hb (by first | (simp; done) | (simp; omega)), hR2.below hb (by first | (simp; done) | (simp; omega)), hown⟩
  clear hown
  have hB := hA.trans (hb.mono hA.size)
  have hs0 := hB.size
  clear hR1 hR2 hT hA hb hF
  generalize hg : W.heap.size = g at hH hlt hB hs0 ⊢
  have HG := Lib.hid hg
  clear hg
  refine wp_region_held (S := Held2 g m D b p x r b' p' x' r') (by kernel_rfl) ?_
  have hS := hH.drew
  refine wpAnyH_take (i := 0) (v := .nilIface) rfl (by kernel_rfl) (by kernel_rfl) (by kernel_rfl) (fun _ _ _ h => h) (Or.inl ⟨by rfl, fun w hw => by go_simp⟩) hS ?_
  go_simp
  refine wpAnyH_take (i := 1) (v := .bool true) rfl (by kernel_rfl) (by kernel_rfl) (by kernel_rfl) (fun _ _ _ h => h) (Or.inl ⟨by rfl, fun w hw => by go_simp⟩) hS ?_
  go_simp
  refine wpAnyH_take (i := 2) (v := .bool true) rfl (by kernel_rfl) (by kernel_rfl) (by kernel_rfl) (fun _ _ _ h => h) (Or.inl ⟨by rfl, fun w hw => by go_simp⟩) hS ?_
  go_simp
  refine wpAnyH_take (i := 3) (v := .map (some m)) rfl (by kernel_rfl) (by kernel_rfl) (by kernel_rfl) (fun _ _ _ h => h) (Or.inl ⟨by rfl, fun w hw => by go_simp⟩) hS ?_
  go_simp
  refine wpAnyH_take (i := 4) (v := .agg #[.int .i64 b, .string p, .int .i64 x, .int .i64 r]) rfl (by kernel_rfl) (by kernel_rfl) (by kernel_rfl) (fun _ _ _ h => h) (Or.inl ⟨by rfl, fun w hw => by obtain ⟨⟨c0, c1, c2, c3⟩, ⟨d0, d1, d2, d3⟩, ho⟩ := hw; first | (go_simp; done) | rfl⟩) hS ?_
  go_simp
  refine wpAnyH_take (i := 5) (v := .agg #[.int .i64 r, .int .i64 z]) rfl (by kernel_rfl) (by kernel_rfl) (by kernel_rfl) (fun _ _ _ h => h) (Or.inl ⟨by rfl, fun w hw => by have hq := found_at hw.2.2 hkey (hat _); first | (go_simp; done) | rfl⟩) hS ?_
  go_simp
  refine wpAnyH_ready (rs := [6]) (by kernel_rfl) (by simp) ?_
  refine AllReadyH.cons rfl (fun K hK => ?_) AllReadyH.nil
  go_simp
  go_wp2_with (go_at_call 58; refine (psure51 _ _ _).mono ?_; rintro e W2 ⟨rfl, hb2⟩; rw [hz])
  refine hK _ _ (hS.below hb2 hlt) (fun hS2 => ?_)
  clear hK K
  go_simp
  have hlt2 : g + 1 < W2.heap.size := Nat.lt_of_lt_of_le hlt hb2.size
  refine wpAnyH_take (i := 7) (v := .bool true) rfl (by kernel_rfl) (by kernel_rfl) (by kernel_rfl) (fun _ _ _ h => h) (Or.inl ⟨by rfl, fun w hw => by go_simp⟩) hS2 ?_
  go_simp
  refine wpAnyH_take (i := 8) (v := .bool true) rfl (by kernel_rfl) (by kernel_rfl) (by kernel_rfl) (fun _ _ _ h => h) (Or.inl ⟨by rfl, fun w hw => by go_simp⟩) hS2 ?_
  go_simp
  refine wpAnyH_take (i := 9) (v := .agg #[.int .i64 b, .string p, .int .i64 x, .int .i64 r]) rfl (by kernel_rfl) (by kernel_rfl) (by kernel_rfl) (fun _ _ _ h => h) (Or.inl ⟨by rfl, fun w hw => by obtain ⟨⟨c0, c1, c2, c3⟩, ⟨d0, d1, d2, d3⟩, ho⟩ := hw; first | (go_simp; done) | rfl⟩) hS2 ?_
  go_simp
  refine wpAnyH_take (i := 11) (v := .agg #[.int .i64 b', .string p', .int .i64 x', .int .i64 r']) rfl (by kernel_rfl) (by kernel_rfl) (by kernel_rfl) (fun _ _ _ h => h) (Or.inl ⟨by rfl, fun w hw => by obtain ⟨⟨c0, c1, c2, c3⟩, ⟨d0, d1, d2, d3⟩, ho⟩ := hw; first | (go_simp; done) | rfl⟩) hS2 ?_
  go_simp
  refine wpAnyH_ready (rs := [10]) (by kernel_rfl) (by simp) ?_
  refine AllReadyH.cons rfl (fun K hK => ?_) AllReadyH.nil
  go_simp
  go_wp2_with (go_at_call 59; refine (psub52 _ _ _ _ _).mono ?_; rintro e W3 ⟨rfl, hb3⟩)
  refine hK _ _ (hS2.below hb3 hlt2) (fun hS3 => ?_)
  clear hK K
  go_simp
  have hlt3 : g + 1 < W3.heap.size := Nat.lt_of_lt_of_le hlt2 hb3.size
  refine wpAnyH_ready (rs := [12]) (by kernel_rfl) (by simp) ?_
  refine AllReadyH.cons rfl (fun K hK => ?_) AllReadyH.nil
  go_simp
  go_wp2_with (go_at_call 59; refine (psub52 _ _ _ _ _).mono ?_; rintro e W4 ⟨rfl, hb4⟩)
  refine hK _ _ (hS3.below hb4 hlt3) (fun hS4 => ?_)
  clear hK K
  go_simp
  have hlt4 : g + 1 < W4.heap.size := Nat.lt_of_lt_of_le hlt3 hb4.size
  refine wpAnyH_take (i := 13) (v := .bool false) rfl (by kernel_rfl) (by kernel_rfl) (by kernel_rfl) (fun _ _ _ h => h) (Or.inl ⟨by rfl, fun w hw => by have he := eqSub p p' x x' w; go_simp; simpa using hq⟩) hS4 ?_
  go_simp
  refine wpAnyH_take (i := 14) (v := .bool false) rfl (by kernel_rfl) (by kernel_rfl) (by kernel_rfl) (fun _ _ _ h => h) (Or.inl ⟨by rfl, fun w hw => by go_simp⟩) hS4 ?_
  go_simp
  refine wpAnyH_take (i := 15) (v := .bool false) rfl (by kernel_rfl) (by kernel_rfl) (by kernel_rfl) (fun _ _ _ h => h) (Or.inl ⟨by rfl, fun w hw => by go_simp⟩) hS4 ?_
  go_simp
  refine wpAnyH_take (i := 16) (v := undef) rfl (by kernel_rfl) (by kernel_rfl) (by kernel_rfl) (fun _ _ _ h => h) (Or.inr ⟨by rfl, rfl⟩) hS4 ?_
  go_simp
  refine wpAnyH_take (i := 17) (v := undef) rfl (by kernel_rfl) (by kernel_rfl) (by kernel_rfl) (fun _ _ _ h => h) (Or.inr ⟨by rfl, rfl⟩) hS4 ?_
  go_simp
  refine wpAnyH_take (i := 18) (v := undef) rfl (by kernel_rfl) (by kernel_rfl) (by kernel_rfl) (fun _ _ _ h => h) (Or.inr ⟨by rfl, rfl⟩) hS4 ?_
  go_simp
  refine wpAnyH_take (i := 19) (v := undef) rfl (by kernel_rfl) (by kernel_rfl) (by kernel_rfl) (fun _ _ _ h => h) (Or.inr ⟨by rfl, rfl⟩) hS4 ?_
  go_simp
  refine wpAnyH_take (i := 20) (v := undef) rfl (by kernel_rfl) (by kernel_rfl) (by kernel_rfl) (fun _ _ _ h => h) (Or.inr ⟨by rfl, rfl⟩) hS4 ?_
  go_simp
  refine wpAnyH_take (i := 21) (v := .bool false) rfl (by kernel_rfl) (by kernel_rfl) (by kernel_rfl) (fun _ _ _ h => h) (Or.inl ⟨by rfl, fun w hw => by go_simp⟩) hS4 ?_
  go_simp
  refine wpAnyH_take (i := 22) (v := .bool false) rfl (by kernel_rfl) (by kernel_rfl) (by kernel_rfl) (fun _ _ _ h => h) (Or.inl ⟨by rfl, fun w hw => by go_simp⟩) hS4 ?_
  go_simp
  refine wpAnyH_take (i := 23) (v := undef) rfl (by kernel_rfl) (by kernel_rfl) (by kernel_rfl) (fun _ _ _ h => h) (Or.inr ⟨by rfl, rfl⟩) hS4 ?_
  go_simp
  refine wpAnyH_take (i := 24) (v := undef) rfl (by kernel_rfl) (by kernel_rfl) (by kernel_rfl) (fun _ _ _ h => h) (Or.inr ⟨by rfl, rfl⟩) hS4 ?_
  go_simp
  refine wpAnyH_take (i := 25) (v := undef) rfl (by kernel_rfl) (by kernel_rfl) (by kernel_rfl) (fun _ _ _ h => h) (Or.inr ⟨by rfl, rfl⟩) hS4 ?_
  go_simp
  refine wpAnyH_take (i := 26) (v := undef) rfl (by kernel_rfl) (by kernel_rfl) (by kernel_rfl) (fun _ _ _ h => h) (Or.inr ⟨by rfl, rfl⟩) hS4 ?_
  go_simp
  refine wpAnyH_take (i := 27) (v := undef) rfl (by kernel_rfl) (by kernel_rfl) (by kernel_rfl) (fun _ _ _ h => h) (Or.inr ⟨by rfl, rfl⟩) hS4 ?_
  go_simp
  refine wpAnyH_take (i := 28) (v := undef) rfl (by kernel_rfl) (by kernel_rfl) (by kernel_rfl) (fun _ _ _ h => h) (Or.inr ⟨by rfl, rfl⟩) hS4 ?_
  go_simp
  refine wpAnyH_take (i := 29) (v := .bool false) rfl (by kernel_rfl) (by kernel_rfl) (by kernel_rfl) (fun _ _ _ h => h) (Or.inl ⟨by rfl, fun w hw => by go_simp⟩) hS4 ?_
  go_simp
  refine wpAnyH_take (i := 30) (v := .bool false) rfl (by kernel_rfl) (by kernel_rfl) (by kernel_rfl) (fun _ _ _ h => h) (Or.inl ⟨by rfl, fun w hw => by go_simp⟩) hS4 ?_
  go_simp
  refine wpAnyH_done (by kernel_rfl) ?_ _
  go_wp2_with fail
  go_ret
  obtain rfl := HG.out
  have h2 := hB.drew.trans (hb2.mono hs0)
  have h3 := h2.trans (hb3.mono h2.size)
  exact ⟨rfl, h3.trans (hb4.mono h3.size)⟩
set_option maxHeartbeats 4000000 in
theorem pref_d (b : Int) (p : ByteArray) (x r b' : Int) (p' : ByteArray) (x' r' : Int) (W : World) {N : Nat} (hL : Laid3 N W) (hv : validT b p x r = true) (hv' : validT b' p' x' r' = true) (hz : (bits .andNot .i64 r (reachN p b x) == 0) = true) (hq : ((p.toList == p'.toList) && (x == x')) = true) (hwi : within b b' = false) :
    Calls Tryz.prog 27 #[.agg #[.int .i64 b, .string p, .int .i64 x, .int .i64 r], .agg #[.int .i64 b', .string p', .int .i64 x', .int .i64 r']] W fun e W' => e = .returned (.bool false) ∧ Below W.heap.size W W' := by
  obtain ⟨hR1, hR2, hT, hA⟩ := laid_three W b p x r b' p' x' r'
  have hF := pfind2_yes b p x r b' p' x' r' _ _ hT (hL.below hA hL.lt) hv hv'
  have hkey := key_valid hv
  have hat := fun zd => at_first b p x r b' p' x' r' hv hv' zd
  clear hv hv'
  generalize reachN p b x = z at hF hat hz
  generalize keyT b p x r = kl at hF hat hkey
  generalize hD : (((DataW.map []).put kl (.held (.agg #[.int .i64 r, .int .i64 z]))).put (keyT b' p' x' r') (.held (.agg #[.int .i64 r', .int .i64 (reachN p' b' x')])) : DataW Value) = D at hF hat
  clear hD
  go_enter Tryz.func27, Tryz.ntmps27
  go_wp2_with (go_at_call 50; refine hF.mono ?_; rintro e W1 ⟨hb, m, rfl, hown⟩)
  have hlt : W.heap.size + 1 < W1.heap.size := Nat.lt_of_lt_of_le (by first | (simp; done) | (simp; omega)) hb.size
  have hH : Held2 W.heap.size m D b p x r b' p' x' r' W1 := ⟨hR1.below hb (by first | (simp; done) | (simp; omega)), hR2.below hb (by first | (simp; done) | (simp; omega)), hown⟩
  clear hown
  have hB := hA.trans (hb.mono hA.size)
  have hs0 := hB.size
  clear hR1 hR2 hT hA hb hF
  generalize hg : W.heap.size = g at hH hlt hB hs0 ⊢
  have HG := Lib.hid hg
  clear hg
  refine wp_region_held (S := Held2 g m D b p x r b' p' x' r') (by kernel_rfl) ?_
  have hS := hH.drew
  refine wpAnyH_take (i := 0) (v := .nilIface) rfl (by kernel_rfl) (by kernel_rfl) (by kernel_rfl) (fun _ _ _ h => h) (Or.inl ⟨by rfl, fun w hw => by go_simp⟩) hS ?_
  go_simp
  refine wpAnyH_take (i := 1) (v := .bool true) rfl (by kernel_rfl) (by kernel_rfl) (by kernel_rfl) (fun _ _ _ h => h) (Or.inl ⟨by rfl, fun w hw => by go_simp⟩) hS ?_
  go_simp
  refine wpAnyH_take (i := 2) (v := .bool true) rfl (by kernel_rfl) (by kernel_rfl) (by kernel_rfl) (fun _ _ _ h => h) (Or.inl ⟨by rfl, fun w hw => by go_simp⟩) hS ?_
  go_simp
  refine wpAnyH_take (i := 3) (v := .map (some m)) rfl (by kernel_rfl) (by kernel_rfl) (by kernel_rfl) (fun _ _ _ h => h) (Or.inl ⟨by rfl, fun w hw => by go_simp⟩) hS ?_
  go_simp
  refine wpAnyH_take (i := 4) (v := .agg #[.int .i64 b, .string p, .int .i64 x, .int .i64 r]) rfl (by kernel_rfl) (by kernel_rfl) (by kernel_rfl) (fun _ _ _ h => h) (Or.inl ⟨by rfl, fun w hw => by obtain ⟨⟨c0, c1, c2, c3⟩, ⟨d0, d1, d2, d3⟩, ho⟩ := hw; first | (go_simp; done) | rfl⟩) hS ?_
  go_simp
  refine wpAnyH_take (i := 5) (v := .agg #[.int .i64 r, .int .i64 z]) rfl (by kernel_rfl) (by kernel_rfl) (by kernel_rfl) (fun _ _ _ h => h) (Or.inl ⟨by rfl, fun w hw => by have hq := found_at hw.2.2 hkey (hat _); first | (go_simp; done) | rfl⟩) hS ?_
  go_simp
  refine wpAnyH_ready (rs := [6]) (by kernel_rfl) (by simp) ?_
  refine AllReadyH.cons rfl (fun K hK => ?_) AllReadyH.nil
  go_simp
  go_wp2_with (go_at_call 58; refine (psure51 _ _ _).mono ?_; rintro e W2 ⟨rfl, hb2⟩; rw [hz])
  refine hK _ _ (hS.below hb2 hlt) (fun hS2 => ?_)
  clear hK K
  go_simp
  have hlt2 : g + 1 < W2.heap.size := Nat.lt_of_lt_of_le hlt hb2.size
  refine wpAnyH_take (i := 7) (v := .bool true) rfl (by kernel_rfl) (by kernel_rfl) (by kernel_rfl) (fun _ _ _ h => h) (Or.inl ⟨by rfl, fun w hw => by go_simp⟩) hS2 ?_
  go_simp
  refine wpAnyH_take (i := 8) (v := .bool true) rfl (by kernel_rfl) (by kernel_rfl) (by kernel_rfl) (fun _ _ _ h => h) (Or.inl ⟨by rfl, fun w hw => by go_simp⟩) hS2 ?_
  go_simp
  refine wpAnyH_take (i := 9) (v := .agg #[.int .i64 b, .string p, .int .i64 x, .int .i64 r]) rfl (by kernel_rfl) (by kernel_rfl) (by kernel_rfl) (fun _ _ _ h => h) (Or.inl ⟨by rfl, fun w hw => by obtain ⟨⟨c0, c1, c2, c3⟩, ⟨d0, d1, d2, d3⟩, ho⟩ := hw; first | (go_simp; done) | rfl⟩) hS2 ?_
  go_simp
  refine wpAnyH_take (i := 11) (v := .agg #[.int .i64 b', .string p', .int .i64 x', .int .i64 r']) rfl (by kernel_rfl) (by kernel_rfl) (by kernel_rfl) (fun _ _ _ h => h) (Or.inl ⟨by rfl, fun w hw => by obtain ⟨⟨c0, c1, c2, c3⟩, ⟨d0, d1, d2, d3⟩, ho⟩ := hw; first | (go_simp; done) | rfl⟩) hS2 ?_
  go_simp
  refine wpAnyH_ready (rs := [10]) (by kernel_rfl) (by simp) ?_
  refine AllReadyH.cons rfl (fun K hK => ?_) AllReadyH.nil
  go_simp
  go_wp2_with (go_at_call 59; refine (psub52 _ _ _ _ _).mono ?_; rintro e W3 ⟨rfl, hb3⟩)
  refine hK _ _ (hS2.below hb3 hlt2) (fun hS3 => ?_)
  clear hK K
  go_simp
  have hlt3 : g + 1 < W3.heap.size := Nat.lt_of_lt_of_le hlt2 hb3.size
  refine wpAnyH_ready (rs := [12]) (by kernel_rfl) (by simp) ?_
  refine AllReadyH.cons rfl (fun K hK => ?_) AllReadyH.nil
  go_simp
  go_wp2_with (go_at_call 59; refine (psub52 _ _ _ _ _).mono ?_; rintro e W4 ⟨rfl, hb4⟩)
  refine hK _ _ (hS3.below hb4 hlt3) (fun hS4 => ?_)
  clear hK K
  go_simp
  have hlt4 : g + 1 < W4.heap.size := Nat.lt_of_lt_of_le hlt3 hb4.size
  refine wpAnyH_take (i := 13) (v := .bool true) rfl (by kernel_rfl) (by kernel_rfl) (by kernel_rfl) (fun _ _ _ h => h) (Or.inl ⟨by rfl, fun w hw => by have he := eqSub p p' x x' w; go_simp; have hq3 : p.toList = p'.toList ∧ x = x' := (by simpa using hq); rw [if_pos hq3.1, if_pos hq3.2]⟩) hS4 ?_
  go_simp
  refine wpAnyH_take (i := 14) (v := .bool true) rfl (by kernel_rfl) (by kernel_rfl) (by kernel_rfl) (fun _ _ _ h => h) (Or.inl ⟨by rfl, fun w hw => by go_simp⟩) hS4 ?_
  go_simp
  refine wpAnyH_take (i := 15) (v := .bool true) rfl (by kernel_rfl) (by kernel_rfl) (by kernel_rfl) (fun _ _ _ h => h) (Or.inl ⟨by rfl, fun w hw => by go_simp⟩) hS4 ?_
  go_simp
  refine wpAnyH_take (i := 16) (v := .pointer (some ⟨g, 0, none⟩)) rfl (by kernel_rfl) (by kernel_rfl) (by kernel_rfl) (fun _ _ _ h => h) (Or.inl ⟨by rfl, fun w hw => by go_simp⟩) hS4 ?_
  go_simp
  refine wpAnyH_take (i := 17) (v := .int .i64 b) rfl (by kernel_rfl) (by kernel_rfl) (by kernel_rfl) (fun _ _ _ h => h) (Or.inl ⟨by rfl, fun w hw => by obtain ⟨⟨c0, c1, c2, c3⟩, ⟨d0, d1, d2, d3⟩, ho⟩ := hw; first | (go_simp; done) | rfl⟩) hS4 ?_
  go_simp
  refine wpAnyH_take (i := 18) (v := .pointer (some ⟨g + 1, 0, none⟩)) rfl (by kernel_rfl) (by kernel_rfl) (by kernel_rfl) (fun _ _ _ h => h) (Or.inl ⟨by rfl, fun w hw => by go_simp⟩) hS4 ?_
  go_simp
  refine wpAnyH_take (i := 19) (v := .int .i64 b') rfl (by kernel_rfl) (by kernel_rfl) (by kernel_rfl) (fun _ _ _ h => h) (Or.inl ⟨by rfl, fun w hw => by obtain ⟨⟨c0, c1, c2, c3⟩, ⟨d0, d1, d2, d3⟩, ho⟩ := hw; first | (go_simp; done) | rfl⟩) hS4 ?_
  go_simp
  refine wpAnyH_ready (rs := [20]) (by kernel_rfl) (by simp) ?_
  refine AllReadyH.cons rfl (fun K hK => ?_) AllReadyH.nil
  go_simp
  go_wp2_with (go_at_call 25; refine (wi21 _ _ _).mono ?_; rintro e W5 ⟨rfl, rfl⟩; rw [hwi])
  refine hK _ _ (hS4) (fun hS5 => ?_)
  clear hK K
  go_simp
  refine wpAnyH_take (i := 21) (v := .bool false) rfl (by kernel_rfl) (by kernel_rfl) (by kernel_rfl) (fun _ _ _ h => h) (Or.inl ⟨by rfl, fun w hw => by go_simp⟩) hS5 ?_
  go_simp
  refine wpAnyH_take (i := 22) (v := .bool false) rfl (by kernel_rfl) (by kernel_rfl) (by kernel_rfl) (fun _ _ _ h => h) (Or.inl ⟨by rfl, fun w hw => by go_simp⟩) hS5 ?_
  go_simp
  refine wpAnyH_take (i := 23) (v := undef) rfl (by kernel_rfl) (by kernel_rfl) (by kernel_rfl) (fun _ _ _ h => h) (Or.inr ⟨by rfl, rfl⟩) hS5 ?_
  go_simp
  refine wpAnyH_take (i := 24) (v := undef) rfl (by kernel_rfl) (by kernel_rfl) (by kernel_rfl) (fun _ _ _ h => h) (Or.inr ⟨by rfl, rfl⟩) hS5 ?_
  go_simp
  refine wpAnyH_take (i := 25) (v := undef) rfl (by kernel_rfl) (by kernel_rfl) (by kernel_rfl) (fun _ _ _ h => h) (Or.inr ⟨by rfl, rfl⟩) hS5 ?_
  go_simp
  refine wpAnyH_take (i := 26) (v := undef) rfl (by kernel_rfl) (by kernel_rfl) (by kernel_rfl) (fun _ _ _ h => h) (Or.inr ⟨by rfl, rfl⟩) hS5 ?_
  go_simp
  refine wpAnyH_take (i := 27) (v := undef) rfl (by kernel_rfl) (by kernel_rfl) (by kernel_rfl) (fun _ _ _ h => h) (Or.inr ⟨by rfl, rfl⟩) hS5 ?_
  go_simp
  refine wpAnyH_take (i := 28) (v := undef) rfl (by kernel_rfl) (by kernel_rfl) (by kernel_rfl) (fun _ _ _ h => h) (Or.inr ⟨by rfl, rfl⟩) hS5 ?_
  go_simp
  refine wpAnyH_take (i := 29) (v := .bool false) rfl (by kernel_rfl) (by kernel_rfl) (by kernel_rfl) (fun _ _ _ h => h) (Or.inl ⟨by rfl, fun w hw => by go_simp⟩) hS5 ?_
  go_simp
  refine wpAnyH_take (i := 30) (v := .bool false) rfl (by kernel_rfl) (by kernel_rfl) (by kernel_rfl) (fun _ _ _ h => h) (Or.inl ⟨by rfl, fun w hw => by go_simp⟩) hS5 ?_
  go_simp
  refine wpAnyH_done (by kernel_rfl) ?_ _
  go_wp2_with fail
  go_ret
  obtain rfl := HG.out
  have h2 := hB.drew.trans (hb2.mono hs0)
  have h3 := h2.trans (hb3.mono h2.size)
  exact ⟨rfl, h3.trans (hb4.mono h3.size)⟩
set_option maxHeartbeats 4000000 in
theorem pref_e (b : Int) (p : ByteArray) (x r b' : Int) (p' : ByteArray) (x' r' : Int) (W : World) {N : Nat} (hL : Laid3 N W) (hv : validT b p x r = true) (hv' : validT b' p' x' r' = true) (hz : (bits .andNot .i64 r (reachN p b x) == 0) = true) (hq : ((p.toList == p'.toList) && (x == x')) = true) (hwi : within b b' = true) :
    Calls Tryz.prog 27 #[.agg #[.int .i64 b, .string p, .int .i64 x, .int .i64 r], .agg #[.int .i64 b', .string p', .int .i64 x', .int .i64 r']] W fun e W' => e = .returned (.bool (!within r r')) ∧ Below W.heap.size W W' := by
  obtain ⟨hR1, hR2, hT, hA⟩ := laid_three W b p x r b' p' x' r'
  have hF := pfind2_yes b p x r b' p' x' r' _ _ hT (hL.below hA hL.lt) hv hv'
  have hkey := key_valid hv
  have hat := fun zd => at_first b p x r b' p' x' r' hv hv' zd
  clear hv hv'
  generalize reachN p b x = z at hF hat hz
  generalize keyT b p x r = kl at hF hat hkey
  generalize hD : (((DataW.map []).put kl (.held (.agg #[.int .i64 r, .int .i64 z]))).put (keyT b' p' x' r') (.held (.agg #[.int .i64 r', .int .i64 (reachN p' b' x')])) : DataW Value) = D at hF hat
  clear hD
  go_enter Tryz.func27, Tryz.ntmps27
  go_wp2_with (go_at_call 50; refine hF.mono ?_; rintro e W1 ⟨hb, m, rfl, hown⟩)
  have hlt : W.heap.size + 1 < W1.heap.size := Nat.lt_of_lt_of_le (by first | (simp; done) | (simp; omega)) hb.size
  have hH : Held2 W.heap.size m D b p x r b' p' x' r' W1 := ⟨hR1.below hb (by first | (simp; done) | (simp; omega)), hR2.below hb (by first | (simp; done) | (simp; omega)), hown⟩
  clear hown
  have hB := hA.trans (hb.mono hA.size)
  have hs0 := hB.size
  clear hR1 hR2 hT hA hb hF
  generalize hg : W.heap.size = g at hH hlt hB hs0 ⊢
  have HG := Lib.hid hg
  clear hg
  refine wp_region_held (S := Held2 g m D b p x r b' p' x' r') (by kernel_rfl) ?_
  have hS := hH.drew
  refine wpAnyH_take (i := 0) (v := .nilIface) rfl (by kernel_rfl) (by kernel_rfl) (by kernel_rfl) (fun _ _ _ h => h) (Or.inl ⟨by rfl, fun w hw => by go_simp⟩) hS ?_
  go_simp
  refine wpAnyH_take (i := 1) (v := .bool true) rfl (by kernel_rfl) (by kernel_rfl) (by kernel_rfl) (fun _ _ _ h => h) (Or.inl ⟨by rfl, fun w hw => by go_simp⟩) hS ?_
  go_simp
  refine wpAnyH_take (i := 2) (v := .bool true) rfl (by kernel_rfl) (by kernel_rfl) (by kernel_rfl) (fun _ _ _ h => h) (Or.inl ⟨by rfl, fun w hw => by go_simp⟩) hS ?_
  go_simp
  refine wpAnyH_take (i := 3) (v := .map (some m)) rfl (by kernel_rfl) (by kernel_rfl) (by kernel_rfl) (fun _ _ _ h => h) (Or.inl ⟨by rfl, fun w hw => by go_simp⟩) hS ?_
  go_simp
  refine wpAnyH_take (i := 4) (v := .agg #[.int .i64 b, .string p, .int .i64 x, .int .i64 r]) rfl (by kernel_rfl) (by kernel_rfl) (by kernel_rfl) (fun _ _ _ h => h) (Or.inl ⟨by rfl, fun w hw => by obtain ⟨⟨c0, c1, c2, c3⟩, ⟨d0, d1, d2, d3⟩, ho⟩ := hw; first | (go_simp; done) | rfl⟩) hS ?_
  go_simp
  refine wpAnyH_take (i := 5) (v := .agg #[.int .i64 r, .int .i64 z]) rfl (by kernel_rfl) (by kernel_rfl) (by kernel_rfl) (fun _ _ _ h => h) (Or.inl ⟨by rfl, fun w hw => by have hq := found_at hw.2.2 hkey (hat _); first | (go_simp; done) | rfl⟩) hS ?_
  go_simp
  refine wpAnyH_ready (rs := [6]) (by kernel_rfl) (by simp) ?_
  refine AllReadyH.cons rfl (fun K hK => ?_) AllReadyH.nil
  go_simp
  go_wp2_with (go_at_call 58; refine (psure51 _ _ _).mono ?_; rintro e W2 ⟨rfl, hb2⟩; rw [hz])
  refine hK _ _ (hS.below hb2 hlt) (fun hS2 => ?_)
  clear hK K
  go_simp
  have hlt2 : g + 1 < W2.heap.size := Nat.lt_of_lt_of_le hlt hb2.size
  refine wpAnyH_take (i := 7) (v := .bool true) rfl (by kernel_rfl) (by kernel_rfl) (by kernel_rfl) (fun _ _ _ h => h) (Or.inl ⟨by rfl, fun w hw => by go_simp⟩) hS2 ?_
  go_simp
  refine wpAnyH_take (i := 8) (v := .bool true) rfl (by kernel_rfl) (by kernel_rfl) (by kernel_rfl) (fun _ _ _ h => h) (Or.inl ⟨by rfl, fun w hw => by go_simp⟩) hS2 ?_
  go_simp
  refine wpAnyH_take (i := 9) (v := .agg #[.int .i64 b, .string p, .int .i64 x, .int .i64 r]) rfl (by kernel_rfl) (by kernel_rfl) (by kernel_rfl) (fun _ _ _ h => h) (Or.inl ⟨by rfl, fun w hw => by obtain ⟨⟨c0, c1, c2, c3⟩, ⟨d0, d1, d2, d3⟩, ho⟩ := hw; first | (go_simp; done) | rfl⟩) hS2 ?_
  go_simp
  refine wpAnyH_take (i := 11) (v := .agg #[.int .i64 b', .string p', .int .i64 x', .int .i64 r']) rfl (by kernel_rfl) (by kernel_rfl) (by kernel_rfl) (fun _ _ _ h => h) (Or.inl ⟨by rfl, fun w hw => by obtain ⟨⟨c0, c1, c2, c3⟩, ⟨d0, d1, d2, d3⟩, ho⟩ := hw; first | (go_simp; done) | rfl⟩) hS2 ?_
  go_simp
  refine wpAnyH_ready (rs := [10]) (by kernel_rfl) (by simp) ?_
  refine AllReadyH.cons rfl (fun K hK => ?_) AllReadyH.nil
  go_simp
  go_wp2_with (go_at_call 59; refine (psub52 _ _ _ _ _).mono ?_; rintro e W3 ⟨rfl, hb3⟩)
  refine hK _ _ (hS2.below hb3 hlt2) (fun hS3 => ?_)
  clear hK K
  go_simp
  have hlt3 : g + 1 < W3.heap.size := Nat.lt_of_lt_of_le hlt2 hb3.size
  refine wpAnyH_ready (rs := [12]) (by kernel_rfl) (by simp) ?_
  refine AllReadyH.cons rfl (fun K hK => ?_) AllReadyH.nil
  go_simp
  go_wp2_with (go_at_call 59; refine (psub52 _ _ _ _ _).mono ?_; rintro e W4 ⟨rfl, hb4⟩)
  refine hK _ _ (hS3.below hb4 hlt3) (fun hS4 => ?_)
  clear hK K
  go_simp
  have hlt4 : g + 1 < W4.heap.size := Nat.lt_of_lt_of_le hlt3 hb4.size
  refine wpAnyH_take (i := 13) (v := .bool true) rfl (by kernel_rfl) (by kernel_rfl) (by kernel_rfl) (fun _ _ _ h => h) (Or.inl ⟨by rfl, fun w hw => by have he := eqSub p p' x x' w; go_simp; have hq3 : p.toList = p'.toList ∧ x = x' := (by simpa using hq); rw [if_pos hq3.1, if_pos hq3.2]⟩) hS4 ?_
  go_simp
  refine wpAnyH_take (i := 14) (v := .bool true) rfl (by kernel_rfl) (by kernel_rfl) (by kernel_rfl) (fun _ _ _ h => h) (Or.inl ⟨by rfl, fun w hw => by go_simp⟩) hS4 ?_
  go_simp
  refine wpAnyH_take (i := 15) (v := .bool true) rfl (by kernel_rfl) (by kernel_rfl) (by kernel_rfl) (fun _ _ _ h => h) (Or.inl ⟨by rfl, fun w hw => by go_simp⟩) hS4 ?_
  go_simp
  refine wpAnyH_take (i := 16) (v := .pointer (some ⟨g, 0, none⟩)) rfl (by kernel_rfl) (by kernel_rfl) (by kernel_rfl) (fun _ _ _ h => h) (Or.inl ⟨by rfl, fun w hw => by go_simp⟩) hS4 ?_
  go_simp
  refine wpAnyH_take (i := 17) (v := .int .i64 b) rfl (by kernel_rfl) (by kernel_rfl) (by kernel_rfl) (fun _ _ _ h => h) (Or.inl ⟨by rfl, fun w hw => by obtain ⟨⟨c0, c1, c2, c3⟩, ⟨d0, d1, d2, d3⟩, ho⟩ := hw; first | (go_simp; done) | rfl⟩) hS4 ?_
  go_simp
  refine wpAnyH_take (i := 18) (v := .pointer (some ⟨g + 1, 0, none⟩)) rfl (by kernel_rfl) (by kernel_rfl) (by kernel_rfl) (fun _ _ _ h => h) (Or.inl ⟨by rfl, fun w hw => by go_simp⟩) hS4 ?_
  go_simp
  refine wpAnyH_take (i := 19) (v := .int .i64 b') rfl (by kernel_rfl) (by kernel_rfl) (by kernel_rfl) (fun _ _ _ h => h) (Or.inl ⟨by rfl, fun w hw => by obtain ⟨⟨c0, c1, c2, c3⟩, ⟨d0, d1, d2, d3⟩, ho⟩ := hw; first | (go_simp; done) | rfl⟩) hS4 ?_
  go_simp
  refine wpAnyH_ready (rs := [20]) (by kernel_rfl) (by simp) ?_
  refine AllReadyH.cons rfl (fun K hK => ?_) AllReadyH.nil
  go_simp
  go_wp2_with (go_at_call 25; refine (wi21 _ _ _).mono ?_; rintro e W5 ⟨rfl, rfl⟩; rw [hwi])
  refine hK _ _ (hS4) (fun hS5 => ?_)
  clear hK K
  go_simp
  refine wpAnyH_take (i := 21) (v := .bool true) rfl (by kernel_rfl) (by kernel_rfl) (by kernel_rfl) (fun _ _ _ h => h) (Or.inl ⟨by rfl, fun w hw => by go_simp⟩) hS5 ?_
  go_simp
  refine wpAnyH_take (i := 22) (v := .bool true) rfl (by kernel_rfl) (by kernel_rfl) (by kernel_rfl) (fun _ _ _ h => h) (Or.inl ⟨by rfl, fun w hw => by go_simp⟩) hS5 ?_
  go_simp
  refine wpAnyH_take (i := 23) (v := .pointer (some ⟨g, 3, none⟩)) rfl (by kernel_rfl) (by kernel_rfl) (by kernel_rfl) (fun _ _ _ h => h) (Or.inl ⟨by rfl, fun w hw => by go_simp⟩) hS5 ?_
  go_simp
  refine wpAnyH_take (i := 24) (v := .int .i64 r) rfl (by kernel_rfl) (by kernel_rfl) (by kernel_rfl) (fun _ _ _ h => h) (Or.inl ⟨by rfl, fun w hw => by obtain ⟨⟨c0, c1, c2, c3⟩, ⟨d0, d1, d2, d3⟩, ho⟩ := hw; first | (go_simp; done) | rfl⟩) hS5 ?_
  go_simp
  refine wpAnyH_take (i := 25) (v := .pointer (some ⟨g + 1, 3, none⟩)) rfl (by kernel_rfl) (by kernel_rfl) (by kernel_rfl) (fun _ _ _ h => h) (Or.inl ⟨by rfl, fun w hw => by go_simp⟩) hS5 ?_
  go_simp
  refine wpAnyH_take (i := 26) (v := .int .i64 r') rfl (by kernel_rfl) (by kernel_rfl) (by kernel_rfl) (fun _ _ _ h => h) (Or.inl ⟨by rfl, fun w hw => by obtain ⟨⟨c0, c1, c2, c3⟩, ⟨d0, d1, d2, d3⟩, ho⟩ := hw; first | (go_simp; done) | rfl⟩) hS5 ?_
  go_simp
  refine wpAnyH_ready (rs := [27]) (by kernel_rfl) (by simp) ?_
  refine AllReadyH.cons rfl (fun K hK => ?_) AllReadyH.nil
  go_simp
  go_wp2_with (go_at_call 25; refine (wi21 _ _ _).mono ?_; rintro e W6 ⟨rfl, rfl⟩)
  refine hK _ _ (hS5) (fun hS6 => ?_)
  clear hK K
  go_simp
  refine wpAnyH_take (i := 28) (v := .bool (!within r r')) rfl (by kernel_rfl) (by kernel_rfl) (by kernel_rfl) (fun _ _ _ h => h) (Or.inl ⟨by rfl, fun w hw => by go_simp⟩) hS6 ?_
  go_simp
  refine wpAnyH_take (i := 29) (v := .bool (!within r r')) rfl (by kernel_rfl) (by kernel_rfl) (by kernel_rfl) (fun _ _ _ h => h) (Or.inl ⟨by rfl, fun w hw => by go_simp⟩) hS6 ?_
  go_simp
  refine wpAnyH_take (i := 30) (v := .bool (!within r r')) rfl (by kernel_rfl) (by kernel_rfl) (by kernel_rfl) (fun _ _ _ h => h) (Or.inl ⟨by rfl, fun w hw => by go_simp⟩) hS6 ?_
  go_simp
  refine wpAnyH_done (by kernel_rfl) ?_ _
  go_wp2_with fail
  go_ret
  obtain rfl := HG.out
  have h2 := hB.drew.trans (hb2.mono hs0)
  have h3 := h2.trans (hb3.mono h2.size)
  exact ⟨rfl, h3.trans (hb4.mono h3.size)⟩

theorem same_sub {p p' : ByteArray} {x x' : Int} : ((p.toList == p'.toList) && (x == x')) = (decide (p = p') && decide (x = x')) := by
  by_cases hq : p = p'
  · subst hq
    by_cases hx : x = x'
    · subst hx; simp
    · rw [decide_eq_false hx, Bool.and_false, beq_eq_false_iff_ne.2 hx, Bool.and_false]
  · rw [decide_eq_false hq, text_ne hq]; rfl
theorem pref28 (b : Int) (p : ByteArray) (x r b' : Int) (p' : ByteArray) (x' r' : Int) (W : World) {N : Nat} (hL : Laid3 N W) (hE : NoTrip N W) :
    Calls Tryz.prog 27 #[.agg #[.int .i64 b, .string p, .int .i64 x, .int .i64 r], .agg #[.int .i64 b', .string p', .int .i64 x', .int .i64 r']] W fun e W' => e = .returned (.bool (refT b p x r b' p' x' r')) ∧ Below W.heap.size W W' := by
  rw [ref_eq, Bool.and_assoc (sureT b p x r && validT b' p' x' r'), ← same_sub]
  cases h1 : validT b p x r with
  | false =>
    rw [(sure_no h1).1]
    exact pref_a b p x r b' p' x' r' W hL hE (by rw [h1]; rfl)
  | true =>
    cases h2 : validT b' p' x' r' with
    | false =>
      rw [Bool.and_false]
      exact pref_a b p x r b' p' x' r' W hL hE (by rw [h1, h2]; rfl)
    | true =>
      rw [(sure_yes h1).1]
      obtain ⟨v1, _, _, v4⟩ := valid_all h1
      obtain ⟨u1, _, _, u4⟩ := valid_all h2
      have w1 : (bits .andNot .i64 b b' == 0) = within b b' := by unfold within; rw [v1, u1]; rfl
      have w2 : (bits .andNot .i64 r r' != 0) = !within r r' := by unfold within; rw [v4, u4]; rfl
      rw [w1, w2]
      cases hz : (bits .andNot .i64 r (reachN p b x) == 0) with
      | false => exact pref_b b p x r b' p' x' r' W hL h1 h2 hz
      | true =>
        cases hq : ((p.toList == p'.toList) && (x == x')) with
        | false => exact pref_c b p x r b' p' x' r' W hL h1 h2 hz hq
        | true =>
          cases hwi : within b b' with
          | false => exact pref_d b p x r b' p' x' r' W hL h1 h2 hz hq hwi
          | true => exact pref_e b p x r b' p' x' r' W hL h1 h2 hz hq hwi
end Go.Proofs.YtlimgdnaanoloaaGreatDoor

