/- Chapter 5, the program: the answers on one triple. The laws' own helpers on triples: copied, weighed, compared. Chapter 5: the walks of the exact laws on triples. -/
import Derived.Test.YtngcdgnijfiocaaGreatDoorYc
import Derived.Test.YtngcdgnijfiocaaGreatDoorYb
import Derived.Test.YtngcdgnijfiocaaGreatDoorYa
import Derived.Maps.OwnOps
namespace Go.Proofs.YtngcdgnijfiocaaGreatDoor
open Go.ChangeShapes Go.WideShapes Go.ChangeAt Go.RowKit Go.Shelf Go.Maps
attribute [local go_sem] Oper.semAt_some
set_option maxRecDepth 100000

theorem psure22 (b : Int) (p : ByteArray) (x r : Int) (W : World) {N : Nat} (hL : Laid3 N W) (hE : NoTrip N W) :
    Calls Tryz.prog 17 #[.agg #[.int .i64 b, .string p, .int .i64 x, .int .i64 r]] W fun e W' => e = .returned (.bool (sureT b p x r)) ∧ Below W.heap.size W W' := by
  have hA : Below W.heap.size W (W.alloc (.cells #[.int .i64 b, .string p, .int .i64 x, .int .i64 r] 33)) := (Below.refl _ W).alloc (Nat.le_refl _) _
  have hL1 := hL.below hA hL.lt
  have hE1 := hE.below hA hL.lt
  cases hv : validT b p x r with
  | false =>
    rw [(sure_no hv).1]
    have H := fun k => pkind_no b p x r k _ hL1 hE1 hv
    clear hv
    go_enter Tryz.func17, Tryz.ntmps17
    go_wp2_with (go_at_call 51; refine (H _).mono ?_; rintro e W1 ⟨rfl, hb⟩)
    go_ret
    exact ⟨rfl, hA.trans (hb.mono hA.size)⟩
  | true =>
    rw [(sure_yes hv).1]
    have H := pkind_sure b p x r _ hL1 hv
    clear hv
    generalize reachN p b x = z at H ⊢
    go_enter Tryz.func17, Tryz.ntmps17
    go_wp2_with (go_at_call 51; refine H.mono ?_; rintro e W1 ⟨rfl, hb⟩)
    go_ret
    exact ⟨rfl, hA.trans (hb.mono hA.size)⟩


set_option maxHeartbeats 2000000 in
theorem pmiss30_no (b : Int) (p : ByteArray) (x r : Int) (W : World) {N : Nat} (hL : Laid3 N W) (hE : NoTrip N W) (hv : validT b p x r = false) :
    Calls Tryz.prog 21 #[.agg #[.int .i64 b, .string p, .int .i64 x, .int .i64 r]] W fun e W' => e = .returned (.tuple #[.int .i64 0, .bool false]) ∧ Below W.heap.size W W' := by
  obtain ⟨hT1, hT2, hA⟩ := laid_two W b p x r
  have hF := pfind_no b p x r _ _ hT2 (hL.below hA hL.lt) (hE.below hA hL.lt) hv
  clear hv
  go_enter Tryz.func21, Tryz.ntmps21
  go_wp2_with (go_at_call 56; refine hF.mono ?_; rintro e W1 ⟨hb, T, v, rfl⟩)
  have hR : ReadsT W.heap.size b p x r W1 := (hT1.below hb (by simp; omega)).cells
  have hlt : W.heap.size < W1.heap.size := Nat.lt_of_lt_of_le (by simp; omega) hb.size
  have hB := hA.trans (hb.mono hA.size)
  have hs0 := hB.size
  clear hT1 hT2 hF hA hb
  generalize hg : W.heap.size = g at hR hlt hB hs0 ⊢
  have HG := Lib.hid hg
  clear hg
  refine wp_region_held (S := ReadsT g b p x r) (by kernel_rfl) ?_
  refine wpAnyH_take (i := 0) (v := .map none) rfl (by kernel_rfl) (by kernel_rfl) (by kernel_rfl) (fun _ _ _ h => h) (Or.inl ⟨by rfl, fun w hw => by go_simp⟩) hR.drew ?_
  go_simp
  refine wpAnyH_take (i := 1) (v := .agg #[.int .i64 b, .string p, .int .i64 x, .int .i64 r]) rfl (by kernel_rfl) (by kernel_rfl) (by kernel_rfl) (fun _ _ _ h => h) (Or.inl ⟨by rfl, fun w hw => by obtain ⟨c0, c1, c2, c3⟩ := hw; first | (go_simp; done) | rfl⟩) hR.drew ?_
  go_simp
  refine wpAnyH_take (i := 2) (v := .agg #[.int .i64 0, .int .i64 0]) rfl (by kernel_rfl) (by kernel_rfl) (by kernel_rfl) (fun _ _ _ h => h) (Or.inl ⟨by rfl, fun w hw => by have hq := found_nil b p x r w; first | (go_simp; done) | rfl⟩) hR.drew ?_
  go_simp
  refine wpAnyH_take (i := 4) (v := .iface T v) rfl (by kernel_rfl) (by kernel_rfl) (by kernel_rfl) (fun _ _ _ h => h) (Or.inl ⟨by rfl, fun w hw => by go_simp⟩) hR.drew ?_
  go_simp
  refine wpAnyH_take (i := 5) (v := .bool false) rfl (by kernel_rfl) (by kernel_rfl) (by kernel_rfl) (fun _ _ _ h => h) (Or.inl ⟨by rfl, fun w hw => by go_simp⟩) hR.drew ?_
  go_simp
  refine wpAnyH_ready (rs := [3]) (by kernel_rfl) (by simp) ?_
  refine AllReadyH.cons rfl (fun K hK => ?_) AllReadyH.nil
  go_simp
  go_wp2_with (go_at_call 57; refine (pmiss54 _ _ _).mono ?_; rintro e W2 ⟨rfl, hb2⟩)
  refine hK _ _ (hR.drew.below hb2 hlt) (fun hR2 => ?_)
  clear hK K
  go_simp
  refine wpAnyH_take (i := 6) (v := .int .i64 (bits .andNot .i64 0 0)) rfl (by kernel_rfl) (by kernel_rfl) (by kernel_rfl) (fun _ _ _ h => h) (Or.inl ⟨by rfl, fun w hw => by go_simp⟩) hR2 ?_
  go_simp
  refine wpAnyH_take (i := 7) (v := .bool false) rfl (by kernel_rfl) (by kernel_rfl) (by kernel_rfl) (fun _ _ _ h => h) (Or.inl ⟨by rfl, fun w hw => by go_simp⟩) hR2 ?_
  go_simp
  refine wpAnyH_done (by kernel_rfl) ?_ _
  go_wp2_with fail
  go_ret2
  obtain rfl := HG.out
  exact ⟨rfl, hB.drew.trans (hb2.mono hs0)⟩
set_option maxHeartbeats 2000000 in
theorem pmiss30_yes (b : Int) (p : ByteArray) (x r : Int) (W : World) {N : Nat} (hL : Laid3 N W) (hv : validT b p x r = true) :
    Calls Tryz.prog 21 #[.agg #[.int .i64 b, .string p, .int .i64 x, .int .i64 r]] W fun e W' => e = .returned (.tuple #[.int .i64 (bits .andNot .i64 r (reachN p b x)), .bool true]) ∧ Below W.heap.size W W' := by
  obtain ⟨hT1, hT2, hA⟩ := laid_two W b p x r
  have hF := pfind_yes b p x r _ _ hT2 (hL.below hA hL.lt) hv
  have hkey := key_valid hv
  clear hv
  generalize reachN p b x = z at hF ⊢
  generalize keyT b p x r = kl at hF hkey
  have hkl := Keyed.key lawTrip hkey
  go_enter Tryz.func21, Tryz.ntmps21
  go_wp2_with (go_at_call 56; refine hF.mono ?_; rintro e W1 ⟨hb, m, rfl, hown⟩)
  have hR : ReadsT W.heap.size b p x r W1 := (hT1.below hb (by simp; omega)).cells
  have hlt : W.heap.size < W1.heap.size := Nat.lt_of_lt_of_le (by simp; omega) hb.size
  have hB := hA.trans (hb.mono hA.size)
  have hs0 := hB.size
  clear hT1 hT2 hF hA hb
  generalize hg : W.heap.size = g at hR hlt hB hs0 ⊢
  have HG := Lib.hid hg
  clear hg
  refine wp_region_held (S := fun w' => ReadsT g b p x r w' ∧ w'.ownsMap Tryz.prog 33 asIs m 1 ((DataW.map []).put kl (.held (.agg #[.int .i64 r, .int .i64 z])))) (by kernel_rfl) ?_
  have hS : ReadsT g b p x r W1.drew ∧ W1.drew.ownsMap Tryz.prog 33 asIs m 1 ((DataW.map []).put kl (.held (.agg #[.int .i64 r, .int .i64 z]))) := ⟨hR.drew, hown.drew⟩
  refine wpAnyH_take (i := 0) (v := .map (some m)) rfl (by kernel_rfl) (by kernel_rfl) (by kernel_rfl) (fun _ _ _ h => h) (Or.inl ⟨by rfl, fun w hw => by go_simp⟩) hS ?_
  go_simp
  refine wpAnyH_take (i := 1) (v := .agg #[.int .i64 b, .string p, .int .i64 x, .int .i64 r]) rfl (by kernel_rfl) (by kernel_rfl) (by kernel_rfl) (fun _ _ _ h => h) (Or.inl ⟨by rfl, fun w hw => by obtain ⟨⟨c0, c1, c2, c3⟩, ho⟩ := hw; first | (go_simp; done) | rfl⟩) hS ?_
  go_simp
  refine wpAnyH_take (i := 2) (v := .agg #[.int .i64 r, .int .i64 z]) rfl (by kernel_rfl) (by kernel_rfl) (by kernel_rfl) (fun _ _ _ h => h) (Or.inl ⟨by rfl, fun w hw => by have hq := found_at hw.2 hkey (atKey_put_same isMap_empty hkl _ _); first | (go_simp; done) | rfl⟩) hS ?_
  go_simp
  refine wpAnyH_take (i := 4) (v := .nilIface) rfl (by kernel_rfl) (by kernel_rfl) (by kernel_rfl) (fun _ _ _ h => h) (Or.inl ⟨by rfl, fun w hw => by go_simp⟩) hS ?_
  go_simp
  refine wpAnyH_take (i := 5) (v := .bool true) rfl (by kernel_rfl) (by kernel_rfl) (by kernel_rfl) (fun _ _ _ h => h) (Or.inl ⟨by rfl, fun w hw => by go_simp⟩) hS ?_
  go_simp
  refine wpAnyH_ready (rs := [3]) (by kernel_rfl) (by simp) ?_
  refine AllReadyH.cons rfl (fun K hK => ?_) AllReadyH.nil
  go_simp
  go_wp2_with (go_at_call 57; refine (pmiss54 _ _ _).mono ?_; rintro e W2 ⟨rfl, hb2⟩)
  refine hK _ _ (⟨hR.drew.below hb2 hlt, World.ownsMap.kept (row := none) hown.drew ⟨hb2.os, hb2.tape, hb2.output, hb2.size, fun i hi _ => hb2.block i hi⟩ (by simp)⟩) (fun hR2 => ?_)
  clear hK K
  go_simp
  refine wpAnyH_take (i := 6) (v := .int .i64 (bits .andNot .i64 r z)) rfl (by kernel_rfl) (by kernel_rfl) (by kernel_rfl) (fun _ _ _ h => h) (Or.inl ⟨by rfl, fun w hw => by go_simp⟩) hR2 ?_
  go_simp
  refine wpAnyH_take (i := 7) (v := .bool true) rfl (by kernel_rfl) (by kernel_rfl) (by kernel_rfl) (fun _ _ _ h => h) (Or.inl ⟨by rfl, fun w hw => by go_simp⟩) hR2 ?_
  go_simp
  refine wpAnyH_done (by kernel_rfl) ?_ _
  go_wp2_with fail
  go_ret2
  obtain rfl := HG.out
  exact ⟨rfl, hB.drew.trans (hb2.mono hs0)⟩
theorem pmiss30 (b : Int) (p : ByteArray) (x r : Int) (W : World) {N : Nat} (hL : Laid3 N W) (hE : NoTrip N W) :
    Calls Tryz.prog 21 #[.agg #[.int .i64 b, .string p, .int .i64 x, .int .i64 r]] W fun e W' => e = .returned (.tuple #[.int .i64 (missT b p x r), .bool (validT b p x r)]) ∧ Below W.heap.size W W' := by
  cases hv : validT b p x r with
  | false => rw [(sure_no hv).2.2.1]; exact pmiss30_no b p x r W hL hE hv
  | true => rw [(sure_yes hv).2.2.1]; exact pmiss30_yes b p x r W hL hv


end Go.Proofs.YtngcdgnijfiocaaGreatDoor

namespace Go.Proofs.YtngcdgnijfiocaaGreatDoor
open Go.ChangeShapes Go.WideShapes Go.ChangeAt Go.RowKit Go.Shelf Go.Maps
attribute [local go_sem] Oper.semAt_some
set_option maxRecDepth 100000


end Go.Proofs.YtngcdgnijfiocaaGreatDoor

namespace Go.Proofs.YtngcdgnijfiocaaGreatDoor
open Go.ChangeShapes Go.WideShapes Go.ChangeAt Go.RowKit Go.Shelf Go.Maps
attribute [local go_sem] Oper.semAt_some
set_option maxRecDepth 100000







end Go.Proofs.YtngcdgnijfiocaaGreatDoor
