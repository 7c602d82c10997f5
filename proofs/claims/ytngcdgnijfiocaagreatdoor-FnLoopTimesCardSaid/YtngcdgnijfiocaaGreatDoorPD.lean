/- Chapter 7, the program: LoopTimes; the walk of its exact law. -/
import Derived.Test.YtngcdgnijfiocaaGreatDoorPC
import Derived.Test.YtngcdgnijfiocaaGreatDoorPB3
namespace Go.Proofs.YtngcdgnijfiocaaGreatDoor
open Go.ChangeShapes Go.WideShapes Go.ChangeAt Go.RowKit Go.Shelf
attribute [local go_sem] Oper.semAt_some
set_option maxRecDepth 100000

theorem as77_81 (x y : Value) (W : World) : (Instr.typeAssert (.iface 124 (.agg #[x, y])) 58 66 true).run Tryz.prog W = .ok (.tuple #[.agg #[.nilIface], .bool false]) W := by kernel_rfl
theorem as79_81 (x y : Value) (W : World) : (Instr.typeAssert (.iface 127 (.agg #[x, y])) 58 66 true).run Tryz.prog W = .ok (.tuple #[.agg #[.nilIface], .bool false]) W := by kernel_rfl
theorem timesZ_none {t : ByteArray} (hP : readP t.toList = none) (s x : Int) : timesZ t s x = -1 := by unfold timesZ; rw [hP]
theorem timesZ_set {t : ByteArray} {s x : Int} (h : (isSet s && inB x 0 1) = false) : timesZ t s x = -1 := timesZ_bad (reach_bad h).2
set_option maxHeartbeats 4000000 in
theorem plt_none (t : ByteArray) (s x : Int) (w : World) {N : Nat} (hE : Laid3 N w) (hP : readP t.toList = none) :
    Calls Tryz.prog 7 #[.string t, .int .i64 s, .int .i64 x] w fun e w' => e = .returned (.int .i64 (-1)) ∧ Below w.heap.size w w' := by
  have hr := pread40 t.toList w hE
  rw [bytes_eta] at hr
  have HP := Lib.hid hP
  clear hP
  go_enter Tryz.func7, Tryz.ntmps7
  go_wp2_with (go_at_call 37; refine hr.mono ?_; rintro e W1 ⟨hb, hm⟩; rw [HP.out] at hm; obtain ⟨T, v, rfl⟩ := hm)
  go_ret
  exact ⟨rfl, hb⟩
set_option maxHeartbeats 4000000 in
theorem plt_set (t : ByteArray) (s x : Int) (w : World) {N : Nat} (hE : Laid3 N w) {nd : Node} (hP : readP t.toList = some nd) (hs : isSet s = false) :
    Calls Tryz.prog 7 #[.string t, .int .i64 s, .int .i64 x] w fun e w' => e = .returned (.int .i64 (-1)) ∧ Below w.heap.size w w' := by
  have hr := pread40 t.toList w hE
  rw [bytes_eta] at hr
  have HP := Lib.hid hP
  have HS := Lib.hid hs
  clear hP hs
  go_enter Tryz.func7, Tryz.ntmps7
  go_wp2_with (first
    | (go_at_call 37; refine hr.mono ?_; rintro e W1 ⟨hb, hm⟩; rw [HP.out] at hm; obtain rfl := hm)
    | (go_at_call 38; refine (sv24 _ _).mono ?_; rintro e w' ⟨rfl, rfl⟩; rw [HS.out]))
  go_ret
  exact ⟨rfl, hb⟩
set_option maxHeartbeats 4000000 in
theorem plt_exit (t : ByteArray) (s x : Int) (w : World) {N : Nat} (hE : Laid3 N w) {nd : Node} (hP : readP t.toList = some nd) (hs : isSet s = true) (hx : inB x 0 1 = false) :
    Calls Tryz.prog 7 #[.string t, .int .i64 s, .int .i64 x] w fun e w' => e = .returned (.int .i64 (-1)) ∧ Below w.heap.size w w' := by
  have hr := pread40 t.toList w hE
  rw [bytes_eta] at hr
  have hn : nameX x = ⟨#[]⟩ := by
    have := of_decide_eq_false hx
    unfold nameX
    rw [if_neg (by omega), if_neg (by omega)]
  have HN := Lib.hid hn
  have HP := Lib.hid hP
  have HS := Lib.hid hs
  clear hP hs hx hn
  go_enter Tryz.func7, Tryz.ntmps7
  go_wp2_with (first
    | (go_at_call 37; refine hr.mono ?_; rintro e W1 ⟨hb, hm⟩; rw [HP.out] at hm; obtain rfl := hm)
    | (go_at_call 38; refine (sv24 _ _).mono ?_; rintro e w' ⟨rfl, rfl⟩; rw [HS.out])
    | (go_at_call 39; refine (pname26 _ _).mono ?_; rintro e w' ⟨rfl, rfl⟩; rw [HN.out]))
  go_ret
  exact ⟨rfl, hb⟩
set_option maxHeartbeats 4000000 in
theorem plt_atom (t : ByteArray) (s x : Int) (w : World) {N : Nat} (hE : Laid3 N w) {a : List UInt8} (hP : readP t.toList = some (.atom a)) (h0 : 0 ≤ s ∧ s < 512) (hx : x = 0 ∨ x = 1) :
    Calls Tryz.prog 7 #[.string t, .int .i64 s, .int .i64 x] w fun e w' => e = .returned (.int .i64 (-1)) ∧ Below w.heap.size w w' := by
  have hr := pread40 t.toList w hE
  rw [bytes_eta] at hr
  have hs : isSet s = true := decide_eq_true (by omega)
  have hn : (nameX x).toList.isEmpty = false := by rcases hx with rfl | rfl <;> (rw [Lib.toList_data]; rfl)
  have HN := Lib.hid hn
  have HP := Lib.hid hP
  have HS := Lib.hid hs
  clear hP hn hs
  have t1 := as93_81 ⟨a.toArray⟩
  have hnv : nodeV (.atom a) = .iface 145 (.string ⟨a.toArray⟩) := rfl
  go_enter Tryz.func7, Tryz.ntmps7
  go_wp2_with (first
    | (go_at_call 37; refine hr.mono ?_; rintro e W1 ⟨hb, hm⟩; rw [HP.out] at hm; obtain rfl := hm; rw [hnv])
    | (go_at_call 38; refine (sv24 _ _).mono ?_; rintro e w' ⟨rfl, rfl⟩; rw [HS.out])
    | (go_at_call 39; refine (pname26 _ _).mono ?_; rintro e w' ⟨rfl, rfl⟩; have hN := HN.out))
  go_ret
  exact ⟨rfl, hb.alloc hb.size _⟩
set_option maxHeartbeats 4000000 in
theorem plt_seq (t : ByteArray) (s x : Int) (w : World) {N : Nat} (hE : Laid3 N w) {p q : Node} (hP : readP t.toList = some (.pair 59 p q)) (h0 : 0 ≤ s ∧ s < 512) (hx : x = 0 ∨ x = 1) :
    Calls Tryz.prog 7 #[.string t, .int .i64 s, .int .i64 x] w fun e w' => e = .returned (.int .i64 (-1)) ∧ Below w.heap.size w w' := by
  have hr := pread40 t.toList w hE
  rw [bytes_eta] at hr
  have hs : isSet s = true := decide_eq_true (by omega)
  have hn : (nameX x).toList.isEmpty = false := by rcases hx with rfl | rfl <;> (rw [Lib.toList_data]; rfl)
  have HN := Lib.hid hn
  have HP := Lib.hid hP
  have HS := Lib.hid hs
  clear hP hn hs
  have t1 := as77_81 (nodeV p) (nodeV q)
  have hnv := nodeV_seq p q
  go_enter Tryz.func7, Tryz.ntmps7
  go_wp2_with (first
    | (go_at_call 37; refine hr.mono ?_; rintro e W1 ⟨hb, hm⟩; rw [HP.out] at hm; obtain rfl := hm; rw [hnv])
    | (go_at_call 38; refine (sv24 _ _).mono ?_; rintro e w' ⟨rfl, rfl⟩; rw [HS.out])
    | (go_at_call 39; refine (pname26 _ _).mono ?_; rintro e w' ⟨rfl, rfl⟩; have hN := HN.out))
  go_ret
  exact ⟨rfl, hb.alloc hb.size _⟩
set_option maxHeartbeats 4000000 in
theorem plt_choice (t : ByteArray) (s x : Int) (w : World) {N : Nat} (hE : Laid3 N w) {p q : Node} (hP : readP t.toList = some (.pair 124 p q)) (h0 : 0 ≤ s ∧ s < 512) (hx : x = 0 ∨ x = 1) :
    Calls Tryz.prog 7 #[.string t, .int .i64 s, .int .i64 x] w fun e w' => e = .returned (.int .i64 (-1)) ∧ Below w.heap.size w w' := by
  have hr := pread40 t.toList w hE
  rw [bytes_eta] at hr
  have hs : isSet s = true := decide_eq_true (by omega)
  have hn : (nameX x).toList.isEmpty = false := by rcases hx with rfl | rfl <;> (rw [Lib.toList_data]; rfl)
  have HN := Lib.hid hn
  have HP := Lib.hid hP
  have HS := Lib.hid hs
  clear hP hn hs
  have t1 := as79_81 (nodeV p) (nodeV q)
  have hnv := nodeV_choice p q
  go_enter Tryz.func7, Tryz.ntmps7
  go_wp2_with (first
    | (go_at_call 37; refine hr.mono ?_; rintro e W1 ⟨hb, hm⟩; rw [HP.out] at hm; obtain rfl := hm; rw [hnv])
    | (go_at_call 38; refine (sv24 _ _).mono ?_; rintro e w' ⟨rfl, rfl⟩; rw [HS.out])
    | (go_at_call 39; refine (pname26 _ _).mono ?_; rintro e w' ⟨rfl, rfl⟩; have hN := HN.out))
  go_ret
  exact ⟨rfl, hb.alloc hb.size _⟩
set_option maxHeartbeats 4000000 in
theorem plt_loop (t : ByteArray) (s x : Int) (w : World) {N : Nat} (hE : Laid3 N w) {p : Node} (hP : readP t.toList = some (.loop p)) (m : Nat) (hsm : s = (m : Int)) (hm2 : m < 512) (hx : x = 0 ∨ x = 1) :
    Calls Tryz.prog 7 #[.string t, .int .i64 s, .int .i64 x] w fun e w' => e = .returned (.int .i64 ((timesN p x m : Nat) : Int)) ∧ Below w.heap.size w w' := by
  have hr := pread40 t.toList w hE
  rw [bytes_eta] at hr
  subst hsm
  obtain ⟨hok, _⟩ := readP_iff.1 hP
  have hok1 : p.ok := hok
  have HT := fun X => times20 p hok1 m hm2 x hx X
  have t1 := as81_81 (nodeV p)
  have hnv : nodeV (.loop p) = .iface 66 (.agg #[nodeV p]) := rfl
  rw [nodeV_eq p hok1] at HT t1 hnv
  generalize timesN p x m = res at HT ⊢
  have hs : isSet (m : Int) = true := decide_eq_true (by omega)
  have hn : (nameX x).toList.isEmpty = false := by rcases hx with rfl | rfl <;> (rw [Lib.toList_data]; rfl)
  have HN := Lib.hid hn
  have HP := Lib.hid hP
  have HS := Lib.hid hs
  clear hP hn hs hok
  go_enter Tryz.func7, Tryz.ntmps7
  go_wp2_with (first
    | (go_at_call 37; refine hr.mono ?_; rintro e W1 ⟨hb, hm⟩; rw [HP.out] at hm; obtain rfl := hm; rw [hnv])
    | (go_at_call 38; refine (sv24 _ _).mono ?_; rintro e w' ⟨rfl, rfl⟩; rw [HS.out])
    | (go_at_call 39; refine (pname26 _ _).mono ?_; rintro e w' ⟨rfl, rfl⟩; have hN := HN.out))
  go_at_call 40
  refine (HT _).mono ?_
  rintro e W2 ⟨rfl, b2⟩
  go_wp2_with fail
  go_ret
  exact ⟨rfl, (hb.alloc hb.size _).trans (b2.mono (hb.alloc hb.size _).size)⟩
/-- **HOW MANY TIMES A LOOP IS GONE THROUGH.** -/
theorem plt17 (t : ByteArray) (s x : Int) (w : World) {N : Nat} (hE : Laid3 N w) :
    Calls Tryz.prog 7 #[.string t, .int .i64 s, .int .i64 x] w fun e w' => e = .returned (.int .i64 (timesZ t s x)) ∧ Below w.heap.size w w' := by
  cases hP : readP t.toList with
  | none => rw [timesZ_none hP]; exact plt_none t s x w hE hP
  | some nd =>
    cases hs : isSet s with
    | false => rw [timesZ_set (by rw [hs]; rfl)]; exact plt_set t s x w hE hP hs
    | true =>
      cases hx : inB x 0 1 with
      | false => rw [timesZ_set (by rw [hx, Bool.and_false])]; exact plt_exit t s x w hE hP hs hx
      | true =>
        have hx2 : x = 0 ∨ x = 1 := by have := of_decide_eq_true hx; omega
        have h0 : 0 ≤ s ∧ s < 512 := by have := of_decide_eq_true hs; omega
        cases nd with
        | atom a => rw [timesZ_atom hP]; exact plt_atom t s x w hE hP h0 hx2
        | pair k p q =>
          rw [timesZ_pair hP]
          obtain ⟨hok, _⟩ := readP_iff.1 hP
          rcases hok.1 with rfl | rfl
          · exact plt_seq t s x w hE hP h0 hx2
          · exact plt_choice t s x w hE hP h0 hx2
        | loop p =>
          obtain ⟨m, hm, rfl⟩ := set_nat hs
          rw [timesZ_loop hP hm hx2]
          exact plt_loop t _ x w hE hP m rfl hm hx2
end Go.Proofs.YtngcdgnijfiocaaGreatDoor

