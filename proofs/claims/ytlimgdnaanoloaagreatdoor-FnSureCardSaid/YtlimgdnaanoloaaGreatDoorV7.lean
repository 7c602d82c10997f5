/- The walk of FnSure. -/
import Derived.Test.YtlimgdnaanoloaaGreatDoorDT
import Derived.Test.YtlimgdnaanoloaaGreatDoorTH
import Derived.Test.YtlimgdnaanoloaaGreatDoorE4
namespace Go.Proofs.YtlimgdnaanoloaaGreatDoor
open Go.ChangeShapes Go.WideShapes Go.ChangeAt Go.RowKit Go.Shelf Go.Maps
attribute [local go_sem] Oper.semAt_some
set_option maxRecDepth 100000

theorem ofInt_wrap (n : Int) : BitVec.ofInt 64 (IntKind.i64.wrap n) = BitVec.ofInt 64 n := by
  apply BitVec.eq_of_toNat_eq
  rw [BitVec.toNat_ofInt, BitVec.toNat_ofInt]
  congr 1
  rw [IntKind.wrap_i64]
  omega
theorem and_left_out (r z : Int) : bits .and .i64 r (bits .andNot .i64 r z) = bits .andNot .i64 r z := by
  show IntKind.i64.wrap ((BitVec.ofInt 64 r &&& BitVec.ofInt 64 (IntKind.i64.wrap ((BitVec.ofInt 64 r &&& ~~~ BitVec.ofInt 64 z).toNat : Int))).toNat : Int) = IntKind.i64.wrap ((BitVec.ofInt 64 r &&& ~~~ BitVec.ofInt 64 z).toNat : Int)
  rw [ofInt_wrap, BitVec.ofInt_natCast, BitVec.ofNat_toNat, BitVec.setWidth_eq, ← BitVec.and_assoc, BitVec.and_self]
theorem none_left (z : Int) : bits .andNot .i64 z z = 0 := by
  show IntKind.i64.wrap ((BitVec.ofInt 64 z &&& ~~~ BitVec.ofInt 64 z).toNat : Int) = 0
  have : BitVec.ofInt 64 z &&& ~~~ BitVec.ofInt 64 z = 0 := by simp
  rw [this]
  rfl
theorem reach_set {p : ByteArray} {b x : Int} (h : reachB p b x = true) : isSet (reachN p b x) = true := by
  obtain ⟨nd, m, hP, hm, rfl, hx, hn⟩ := reach_true h
  rw [hn]
  obtain ⟨hok, _⟩ := readP_iff.1 hP
  have hr := run_lt nd hok m hm
  refine decide_eq_true ?_
  unfold exitN
  split <;> omega

set_option maxHeartbeats 4000000 in
theorem sure_walk (w : World) (a : Option Addr) (len cap : Nat) (hC : Code w.heap.size w a len cap) (hlen : len ≤ 1048576) {N : Nat} (hL : Laid3 N w) (hE : NoTrip N w) :
    Calls Tryz.prog 4 #[.slice a len cap] w fun e w' => e = .returned (.bool true) ∧ Below w.heap.size w w' := by
  have hli : (len : Int) ≤ 1048576 := by omega
  go_enter Tryz.func4, Tryz.ntmps4
  go_wp2_with fail
  go_at_call 14
  refine (drawS hC (Nat.le_refl _)).mono ?_
  rintro e W1 ⟨b, p, x, r, hp, rfl, hb1⟩
  have hcur := hb1.alloc hb1.size (.cells #[.int .i64 b, .string p, .int .i64 x, .int .i64 r] 24)
  have hT := TripAt.new W1 b p x r
  clear hb1
  cases hv : validT b p x r with
  | false =>
    have q1 := (sure_no hv).1
    have q2 := (sure_no hv).2.1
    have q3 := (sure_no hv).2.2.1
    have q4 := (sure_no hv).2.2.2
    have aS := fun (X : World) (hX : Laid3 N X) (hY : NoTrip N X) => psure22 b p x r X hX hY
    have aA := fun (X : World) (hX : Laid3 N X) (hY : NoTrip N X) => palways24 b p x r X hX hY
    have aM := fun (X : World) (hX : Laid3 N X) (hY : NoTrip N X) => pmiss30 b p x r X hX hY
    have aU := fun (X : World) (hX : Laid3 N X) (hY : NoTrip N X) => psurp32 b p x r X hX hY
    have mS := fun X => msure21 b p (by omega) x r X
    have mA := fun X => malways23 b p (by omega) x r X
    have mM := fun X => mmiss29 b p (by omega) x r X
    have mU := fun X => msurp31 b p (by omega) x r X
    rw [q1] at aS mS
    rw [q2] at aA mA
    rw [q3, hv] at aM mM
    rw [q4, hv] at aU mU
    clear q1 q2 q3 q4 hv
    go_wp2_with fail
    generalize W1.heap.size = gt at hT ⊢
    generalize W1.alloc (.cells #[.int .i64 b, .string p, .int .i64 x, .int .i64 r] 24) = X1 at hcur hT ⊢
    replace hcur := hcur.drew
    replace hT : TripAt X1.drew gt b p x r := hT
    obtain ⟨c0, c1, c2, c3⟩ := hT.cells
    go_region_held3 (fun w' => w'.cell? ⟨gt, 0, none⟩ = some (.int .i64 b) ∧ w'.cell? ⟨gt, 1, none⟩ = some (.string p) ∧ w'.cell? ⟨gt, 2, none⟩ = some (.int .i64 x) ∧ w'.cell? ⟨gt, 3, none⟩ = some (.int .i64 r)) (first | exact ⟨c0, c1, c2, c3⟩ | go_keep)
      (first
        | (go_at_call 15; refine (aS _ (hL.below hcur hL.lt) (hE.below hcur hL.lt)).mono ?_; rintro e Wk ⟨rfl, hb⟩; replace hcur := hcur.trans (hb.mono hcur.size); replace hT := hT.below hb hT.lt; obtain ⟨c0, c1, c2, c3⟩ := hT.cells; clear hb)
        | (go_at_call 16; refine (aA _ (hL.below hcur hL.lt) (hE.below hcur hL.lt)).mono ?_; rintro e Wk ⟨rfl, hb⟩; replace hcur := hcur.trans (hb.mono hcur.size); replace hT := hT.below hb hT.lt; obtain ⟨c0, c1, c2, c3⟩ := hT.cells; clear hb))
    all_goals go_wp2_with (first
      | (go_at_call 17; refine (aM _ (hL.below hcur hL.lt) (hE.below hcur hL.lt)).mono ?_; rintro e Wk ⟨rfl, hb⟩; replace hcur := hcur.trans (hb.mono hcur.size); replace hT := hT.below hb hT.lt; obtain ⟨c0, c1, c2, c3⟩ := hT.cells; clear hb)
      | (go_at_call 18; refine (aU _ (hL.below hcur hL.lt) (hE.below hcur hL.lt)).mono ?_; rintro e Wk ⟨rfl, hb⟩; replace hcur := hcur.trans (hb.mono hcur.size); replace hT := hT.below hb hT.lt; obtain ⟨c0, c1, c2, c3⟩ := hT.cells; clear hb)
      | (go_at_call 19; refine (mM _).mono ?_; rintro e Wk ⟨rfl, hb⟩; replace hcur := hcur.trans (hb.mono hcur.size); replace hT := hT.below hb hT.lt; obtain ⟨c0, c1, c2, c3⟩ := hT.cells; clear hb)
      | (go_at_call 20; refine (mU _).mono ?_; rintro e Wk ⟨rfl, hb⟩; replace hcur := hcur.trans (hb.mono hcur.size); replace hT := hT.below hb hT.lt; obtain ⟨c0, c1, c2, c3⟩ := hT.cells; clear hb)
      | (go_at_call 21; refine (mS _).mono ?_; rintro e Wk ⟨rfl, hb⟩; replace hcur := hcur.trans (hb.mono hcur.size); replace hT := hT.below hb hT.lt; obtain ⟨c0, c1, c2, c3⟩ := hT.cells; clear hb)
      | (go_at_call 22; refine (mA _).mono ?_; rintro e Wk ⟨rfl, hb⟩; replace hcur := hcur.trans (hb.mono hcur.size); replace hT := hT.below hb hT.lt; obtain ⟨c0, c1, c2, c3⟩ := hT.cells; clear hb))
    all_goals
      go_ret
      first | exact ⟨rfl, hcur⟩ | exact ⟨rfl, hcur.drew⟩
  | true =>
    have q1 := (sure_yes hv).1
    have q2 := (sure_yes hv).2.1
    have q3 := (sure_yes hv).2.2.1
    have q4 := (sure_yes hv).2.2.2
    have hro := reach_valid hv
    have hzs := reach_set hro
    have hrs := (valid_all hv).2.2.2
    have hvm : validT b p x (reachN p b x) = true := by rw [valid_reach, hro, hzs]; rfl
    have aS := fun (X : World) (hX : Laid3 N X) (hY : NoTrip N X) => psure22 b p x r X hX hY
    have aA := fun (X : World) (hX : Laid3 N X) (hY : NoTrip N X) => palways24 b p x r X hX hY
    have aM := fun (X : World) (hX : Laid3 N X) (hY : NoTrip N X) => pmiss30 b p x r X hX hY
    have aU := fun (X : World) (hX : Laid3 N X) (hY : NoTrip N X) => psurp32 b p x r X hX hY
    have mS := fun X => msure21 b p (by omega) x r X
    have mA := fun X => malways23 b p (by omega) x r X
    have mM := fun X => mmiss29 b p (by omega) x r X
    have mU := fun X => msurp31 b p (by omega) x r X
    have aT := fun (X : World) (hX : Laid3 N X) => pmost26 b p x X hX
    have aR := fun (X : World) (hX : Laid3 N X) => preach10 p b x X hX
    have bS := fun (X : World) (hX : Laid3 N X) (hY : NoTrip N X) => psure22 b p x (reachN p b x) X hX hY
    have bA := fun (X : World) (hX : Laid3 N X) (hY : NoTrip N X) => palways24 b p x (reachN p b x) X hX hY
    have hmo : mostT b p x = ⟨b, p, x, reachN p b x⟩ := by unfold mostT; rw [if_pos hro]
    rw [q1] at aS mS
    rw [q2] at aA mA
    rw [q3, hv] at aM mM
    rw [q4, hv] at aU mU
    rw [hmo, hro] at aT
    rw [hro] at aR
    rw [(sure_yes hvm).1, none_left] at bS
    rw [(sure_yes hvm).2.1, none_left] at bA
    dsimp only at aT
    have hw1 := and_left_out r (reachN p b x)
    have hw2 := and_left_out (reachN p b x) r
    have hwi : within r (reachN p b x) = (bits .andNot .i64 r (reachN p b x) == 0) := by unfold within; rw [hrs, hzs]; rfl
    clear q1 q2 q3 q4 hv hro hzs hrs hvm hmo
    generalize reachN p b x = z at aS aA aM aU mS mA mM mU aT aR bS bA hw1 hw2 hwi
    generalize bits .andNot .i64 r z = mi at aS aM mS mM hw1 hwi
    generalize bits .andNot .i64 z r = su at aA aU mA mU hw2
    go_wp2_with fail
    generalize W1.heap.size = gt at hT ⊢
    generalize W1.alloc (.cells #[.int .i64 b, .string p, .int .i64 x, .int .i64 r] 24) = X1 at hcur hT ⊢
    replace hcur := hcur.drew
    replace hT : TripAt X1.drew gt b p x r := hT
    obtain ⟨c0, c1, c2, c3⟩ := hT.cells
    go_region_held3 (fun w' => w'.cell? ⟨gt, 0, none⟩ = some (.int .i64 b) ∧ w'.cell? ⟨gt, 1, none⟩ = some (.string p) ∧ w'.cell? ⟨gt, 2, none⟩ = some (.int .i64 x) ∧ w'.cell? ⟨gt, 3, none⟩ = some (.int .i64 r)) (first | exact ⟨c0, c1, c2, c3⟩ | go_keep)
      (first
        | (go_at_call 15; refine (aS _ (hL.below hcur hL.lt) (hE.below hcur hL.lt)).mono ?_; rintro e Wk ⟨rfl, hb⟩; replace hcur := hcur.trans (hb.mono hcur.size); replace hT := hT.below hb hT.lt; obtain ⟨c0, c1, c2, c3⟩ := hT.cells; clear hb)
        | (go_at_call 16; refine (aA _ (hL.below hcur hL.lt) (hE.below hcur hL.lt)).mono ?_; rintro e Wk ⟨rfl, hb⟩; replace hcur := hcur.trans (hb.mono hcur.size); replace hT := hT.below hb hT.lt; obtain ⟨c0, c1, c2, c3⟩ := hT.cells; clear hb))
    all_goals go_wp2_with (first
      | (go_at_call 17; refine (aM _ (hL.below hcur hL.lt) (hE.below hcur hL.lt)).mono ?_; rintro e Wk ⟨rfl, hb⟩; replace hcur := hcur.trans (hb.mono hcur.size); replace hT := hT.below hb hT.lt; obtain ⟨c0, c1, c2, c3⟩ := hT.cells; clear hb)
      | (go_at_call 18; refine (aU _ (hL.below hcur hL.lt) (hE.below hcur hL.lt)).mono ?_; rintro e Wk ⟨rfl, hb⟩; replace hcur := hcur.trans (hb.mono hcur.size); replace hT := hT.below hb hT.lt; obtain ⟨c0, c1, c2, c3⟩ := hT.cells; clear hb)
      | (go_at_call 19; refine (mM _).mono ?_; rintro e Wk ⟨rfl, hb⟩; replace hcur := hcur.trans (hb.mono hcur.size); replace hT := hT.below hb hT.lt; obtain ⟨c0, c1, c2, c3⟩ := hT.cells; clear hb)
      | (go_at_call 20; refine (mU _).mono ?_; rintro e Wk ⟨rfl, hb⟩; replace hcur := hcur.trans (hb.mono hcur.size); replace hT := hT.below hb hT.lt; obtain ⟨c0, c1, c2, c3⟩ := hT.cells; clear hb)
      | (go_at_call 21; refine (mS _).mono ?_; rintro e Wk ⟨rfl, hb⟩; replace hcur := hcur.trans (hb.mono hcur.size); replace hT := hT.below hb hT.lt; obtain ⟨c0, c1, c2, c3⟩ := hT.cells; clear hb)
      | (go_at_call 22; refine (mA _).mono ?_; rintro e Wk ⟨rfl, hb⟩; replace hcur := hcur.trans (hb.mono hcur.size); replace hT := hT.below hb hT.lt; obtain ⟨c0, c1, c2, c3⟩ := hT.cells; clear hb))
    all_goals
      go_at_call 23
      refine (aT _ (hL.below hcur hL.lt)).mono ?_
      rintro e W5 ⟨rfl, hb⟩
      have hM := TripAt.new W5 b p x z
      replace hcur := hcur.trans (hb.mono hcur.size)
      replace hcur := hcur.alloc hcur.size (.cells #[.int .i64 b, .string p, .int .i64 x, .int .i64 z] 24)
      replace hT := (hT.below hb hT.lt).alloc (.cells #[.int .i64 b, .string p, .int .i64 x, .int .i64 z] 24)
      clear hb
      obtain ⟨c0, c1, c2, c3⟩ := hT.cells
      obtain ⟨m0, m1, m2, m3⟩ := hM.cells
      go_wp2_with (first
        | (go_at_call 24; refine (aR _ (hL.below hcur hL.lt)).mono ?_; rintro e Wk ⟨rfl, hb⟩; replace hcur := hcur.trans (hb.mono hcur.size); replace hT := hT.below hb hT.lt; replace hM := hM.below hb hM.lt; obtain ⟨c0, c1, c2, c3⟩ := hT.cells; obtain ⟨m0, m1, m2, m3⟩ := hM.cells; clear hb)
        | (go_at_call 15; refine (bS _ (hL.below hcur hL.lt) (hE.below hcur hL.lt)).mono ?_; rintro e Wk ⟨rfl, hb⟩; replace hcur := hcur.trans (hb.mono hcur.size); replace hT := hT.below hb hT.lt; replace hM := hM.below hb hM.lt; obtain ⟨c0, c1, c2, c3⟩ := hT.cells; obtain ⟨m0, m1, m2, m3⟩ := hM.cells; clear hb)
        | (go_at_call 16; refine (bA _ (hL.below hcur hL.lt) (hE.below hcur hL.lt)).mono ?_; rintro e Wk ⟨rfl, hb⟩; replace hcur := hcur.trans (hb.mono hcur.size); replace hT := hT.below hb hT.lt; replace hM := hM.below hb hM.lt; obtain ⟨c0, c1, c2, c3⟩ := hT.cells; obtain ⟨m0, m1, m2, m3⟩ := hM.cells; clear hb)
        | (go_at_call 25; refine (wi21 _ _ _).mono ?_; rintro e w' ⟨rfl, rfl⟩; rw [hwi]))
      go_ret
      exact ⟨rfl, hcur⟩
set_option maxHeartbeats 1000000 in
theorem sure_long (w : World) (a : Option Addr) (len cap : Nat) (hlen : 1048576 < len) :
    Calls Tryz.prog 4 #[.slice a len cap] w fun e w' => e = .returned (.bool true) ∧ Below w.heap.size w w' := by
  have hli : (1048576 : Int) < (len : Int) := by omega
  go_enter Tryz.func4, Tryz.ntmps4
  go_wp2
  go_ret
  exact ⟨rfl, Below.refl _ _⟩
theorem walkSure (a : Option Addr) (len cap : Nat) (zs : List Int) (w : World) (hR : IsRow .u8 w a len cap zs) {N : Nat} (hL : Laid3 N w) (hE : NoTrip N w) :
    Calls Tryz.prog 4 #[.slice a len cap] w fun e w' => e = .returned (.bool true) ∧ Below w.heap.size w w' := by
  by_cases h : len ≤ 1048576
  · exact sure_walk w a len cap (Code.ofRow hR) h hL hE
  · exact sure_long w a len cap (by omega)
end Go.Proofs.YtlimgdnaanoloaaGreatDoor

