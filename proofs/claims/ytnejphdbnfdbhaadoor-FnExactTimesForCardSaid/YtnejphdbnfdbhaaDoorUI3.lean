/- The program: TimesFor, TimesToFail. -/
import Derived.Test.YtnejphdbnfdbhaaDoorUI2
namespace Go.Proofs.YtnejphdbnfdbhaaDoor
open Go.ChangeShapes Go.WideShapes Go.ChangeAt Go.RowKit Go.Shelf
attribute [local go_sem] Oper.semAt_some
set_option maxRecDepth 100000

theorem lastA' (b1 b2 b3 b4 b5 : Nat) {t1 t2 t3 t4 t5 : TypeId} (nd : Node) (hok : nd.ok) (m : Nat) (hm : m < 512) (x : Int) (hx : x = 0 ∨ x = 1) (all : Nat) (w : World)
    (h1 : Lies w b1 #[nodeV nd] t1) (h2 : Lies w b2 #[.int .i64 (m : Int)] t2)
    (h3 : Lies w b3 #[.func (.func 50) #[] #[.pointer (some ⟨b4, 0, none⟩), .pointer (some ⟨b5, 0, none⟩)]] t3)
    (h4 : Lies w b4 #[.int .i64 x] t4) (h5 : Lies w b5 #[.int .i64 (all : Int)] t5) (h12 : exitN x (runT 12 nd m) = all) :
    Calls Tryd.prog 37 #[.func (.func 52) #[] #[.pointer (some ⟨b1, 0, none⟩), .pointer (some ⟨b2, 0, none⟩), .pointer (some ⟨b3, 0, none⟩)]] w fun e W' =>
      e = .returned (.int .i64 ((leastT (fun j => decide (exitN x (runT j nd m) = all)) 12 0 : Nat) : Int)) ∧ Below w.heap.size w W' :=
  callsIn_wide.1 (lastA 3 (by omega) b1 b2 b3 b4 b5 nd hok m hm x hx all w h1 h2 h3 h4 h5 h12)
theorem lastB' (b1 b2 b3 : Nat) {t1 t2 t3 : TypeId} (nd : Node) (hok : nd.ok) (m : Nat) (hm : m < 512) (w : World)
    (h1 : Lies w b1 #[nodeV nd] t1) (h2 : Lies w b2 #[.int .i64 (m : Int)] t2)
    (h3 : Lies w b3 #[.func (.func 40) #[] #[]] t3) (h12 : (runT 12 nd m).2 ≠ 0) :
    Calls Tryd.prog 37 #[.func (.func 52) #[] #[.pointer (some ⟨b1, 0, none⟩), .pointer (some ⟨b2, 0, none⟩), .pointer (some ⟨b3, 0, none⟩)]] w fun e W' =>
      e = .returned (.int .i64 ((leastT (fun j => decide ((runT j nd m).2 ≠ 0)) 12 0 : Nat) : Int)) ∧ Below w.heap.size w W' :=
  callsIn_wide.1 (lastB 3 (by omega) b1 b2 b3 nd hok m hm w h1 h2 h3 h12)
theorem triesMaker' (T0 : TypeId) (v0 : Value) (m : Int) (fid : Nat) (caps : Array Value) (w : World) :
    Calls Tryd.prog 39 #[.iface T0 v0, .int .i64 m, .func (.func fid) #[] caps] w fun e w' => e = .returned (.func (.func 52) #[] #[.pointer (some ⟨w.heap.size, 0, none⟩), .pointer (some ⟨w.heap.size + 1, 0, none⟩), .pointer (some ⟨w.heap.size + 1 + 1, 0, none⟩)]) ∧ w' = ((w.alloc (.cells #[.iface T0 v0] 44)).alloc (.cells #[.int .i64 m] 51)).alloc (.cells #[.func (.func fid) #[] caps] 78) :=
  callsIn_wide.1 (triesMaker 3 T0 v0 m fid caps w)

/-- What the tries until all are told: an iterator whose cells lie so. -/
def Tried (nd : Node) (m : Nat) (x : Int) (all : Nat) (v : Value) (W : World) : Prop := ∃ b1 b2 b3 b4 b5 t1 t2 t3 t4 t5,
  v = .func (.func 52) #[] #[.pointer (some ⟨b1, 0, none⟩), .pointer (some ⟨b2, 0, none⟩), .pointer (some ⟨b3, 0, none⟩)] ∧
  Lies W b1 #[nodeV nd] t1 ∧ Lies W b2 #[.int .i64 (m : Int)] t2 ∧ Lies W b3 #[.func (.func 50) #[] #[.pointer (some ⟨b4, 0, none⟩), .pointer (some ⟨b5, 0, none⟩)]] t3 ∧ Lies W b4 #[.int .i64 x] t4 ∧ Lies W b5 #[.int .i64 (all : Int)] t5

set_option maxHeartbeats 2000000 in
theorem puntil_no (t : ByteArray) (s x : Int) (w : World) {N : Nat} (hE : Laid3 N w) (hb : reachB t s x = false) :
    Calls Tryd.prog 36 #[.string t, .int .i64 s, .int .i64 x] w fun e w' => e = .returned (.tuple #[.nilFunc, .bool false]) ∧ Below w.heap.size w w' := by
  have hr := fun (X : World) (hX : Laid3 N X) => preach10 t s x X hX
  rw [hb] at hr
  have hE1 := hE.below ((Below.refl _ w).alloc (Nat.le_refl _) (.cells #[.int .i64 x] 3)) hE.lt
  go_enter Tryd.func36, Tryd.ntmps36
  go_wp2_with fail
  refine (hr _ hE1).mono ?_
  rintro e W1 ⟨rfl, hb1⟩
  have hB := (((Below.refl _ w).alloc (Nat.le_refl _) (.cells #[.int .i64 x] 3)).trans (hb1.mono (by simp)))
  go_wp2_with fail
  go_ret2
  exact ⟨rfl, hB.alloc hB.size _⟩
set_option maxHeartbeats 2000000 in
theorem puntil_ok (t : ByteArray) (m : Nat) (hm : m < 512) (x : Int) (hx : x = 0 ∨ x = 1) (w : World) {N : Nat} (hE : Laid3 N w) {nd : Node} (hP : readP t.toList = some nd) :
    Calls Tryd.prog 36 #[.string t, .int .i64 (m : Int), .int .i64 x] w fun e w' => (∃ v, e = .returned (.tuple #[v, .bool true]) ∧ Tried nd m x (exitN x (runR nd m)) v w') ∧ Below w.heap.size w w' := by
  have hr := fun (X : World) (hX : Laid3 N X) => pread40 t.toList X hX
  rw [bytes_eta] at hr
  obtain ⟨hok, _⟩ := readP_iff.1 hP
  have hre := fun (X : World) (hX : Laid3 N X) => preach_ok t m hm x hx X hX hP
  have HP := Lib.hid hP
  clear hP
  generalize exitN x (runR nd m) = all at hre ⊢
  go_enter Tryd.func36, Tryd.ntmps36
  have hE1 := hE.below ((Below.refl _ w).alloc (Nat.le_refl _) (.cells #[.int .i64 x] 3)) hE.lt
  have LX := Lies.new w #[.int .i64 x] 3
  have hA := (Below.refl _ w).alloc (Nat.le_refl _) (.cells #[.int .i64 x] 3)
  go_wp2_with fail
  refine (hre _ hE1).mono ?_
  rintro e W1 ⟨rfl, hb1⟩
  have LX1 := LX.below hb1
  have hB := hA.trans (hb1.mono (by simp))
  have hE2 := hE.below (hB.alloc hB.size (.cells #[.int .i64 (all : Int)] 3)) hE.lt
  have LX2 := LX1.alloc (.cells #[.int .i64 (all : Int)] 3)
  have LA := Lies.new W1 #[.int .i64 (all : Int)] 3
  have hB2 := hB.alloc hB.size (.cells #[.int .i64 (all : Int)] 3)
  go_wp2_with fail
  refine (hr _ hE2).mono ?_
  rintro e W2 ⟨hb2, hm2⟩
  rw [HP.out] at hm2
  obtain rfl := hm2
  have LX3 := LX2.below hb2
  have LA3 := LA.below hb2
  have hB3 := hB2.trans (hb2.mono hB2.size)
  clear LX LX1 LX2 LA hb1 hb2 hE1 hE2 hA hB hB2
  generalize W1.heap.size = ga at LA3 ⊢
  go_wp2_with fail
  rw [nodeV_eq nd hok]
  refine (triesMaker' (nodeT nd) (nodeX nd) (m : Int) _ _ W2).mono ?_
  rintro e W3 ⟨rfl, rfl⟩
  go_wp2_with fail
  go_ret2
  have B1 := (Lies.new W2 #[.iface (nodeT nd) (nodeX nd)] 44)
  have B2 := (Lies.new (W2.alloc (.cells #[.iface (nodeT nd) (nodeX nd)] 44)) #[.int .i64 (m : Int)] 51)
  have B3 := (Lies.new ((W2.alloc (.cells #[.iface (nodeT nd) (nodeX nd)] 44)).alloc (.cells #[.int .i64 (m : Int)] 51)) #[.func (.func 50) #[] #[.pointer (some ⟨w.heap.size, 0, none⟩), .pointer (some ⟨ga, 0, none⟩)]] 78)
  rw [World.size_alloc] at B2
  rw [World.size_alloc, World.size_alloc] at B3
  rw [← nodeV_eq nd hok] at B1
  refine ⟨⟨_, rfl, W2.heap.size, W2.heap.size + 1, W2.heap.size + 1 + 1, w.heap.size, ga, 44, 51, 78, 3, 3, rfl, ?_, ?_, ?_, ?_, ?_⟩, ((hB3.alloc hB3.size _).alloc (hB3.alloc hB3.size _).size _).alloc ((hB3.alloc hB3.size _).alloc (hB3.alloc hB3.size _).size _).size _⟩
  · exact ((by rw [← nodeV_eq nd hok]; exact B1 : Lies (W2.alloc (.cells #[.iface (nodeT nd) (nodeX nd)] 44)) W2.heap.size #[nodeV nd] 44).alloc _).alloc _
  · exact B2.alloc _
  · exact B3
  · exact ((LX3.alloc _).alloc _).alloc _
  · exact ((LA3.alloc _).alloc _).alloc _
set_option maxHeartbeats 2000000 in
theorem pfor (t : ByteArray) (s x : Int) (w : World) {N : Nat} (hE : Laid3 N w) :
    Calls Tryd.prog 13 #[.string t, .int .i64 s, .int .i64 x] w fun e w' => e = .returned (.int .i64 (forZ t s x)) ∧ Below w.heap.size w w' := by
  cases hb : reachB t s x with
  | false =>
    have h0 : forZ t s x = -1 := by
      unfold forZ
      split
      · rw [hb]; rfl
      · rfl
    rw [h0]
    have hu := puntil_no t s x w hE hb
    go_enter Tryd.func13, Tryd.ntmps13
    go_wp2_with (go_at_call 36; refine hu.mono ?_; rintro e W1 ⟨rfl, hb1⟩)
    go_ret
    exact ⟨rfl, hb1⟩
  | true =>
    obtain ⟨nd, m, hP, hm, rfl, hx⟩ : ∃ nd m, readP t.toList = some nd ∧ m < 512 ∧ s = ((m : Nat) : Int) ∧ (x = 0 ∨ x = 1) := by
      unfold reachB at hb
      simp only [Bool.and_eq_true] at hb
      obtain ⟨⟨h1, h2⟩, h3⟩ := hb
      obtain ⟨nd, hP⟩ := Option.isSome_iff_exists.1 h1
      obtain ⟨m, hm, rfl⟩ := set_nat h2
      have hx : x = 0 ∨ x = 1 := by have := of_decide_eq_true h3; omega
      exact ⟨nd, m, hP, hm, rfl, hx⟩
    obtain ⟨hok, _⟩ := readP_iff.1 hP
    have h0 : forZ t (m : Int) x = ((forN nd x m : Nat) : Int) := by
      unfold forZ
      rw [hP]
      dsimp only
      rw [hb]
      rfl
    rw [h0]
    have hu := puntil_ok t m hm x hx w hE hP
    have hall : exitN x (runT 12 nd m) = exitN x (runR nd m) := of_decide_eq_true (all_twelve hok x hm)
    have hlast := fun b1 b2 b3 b4 b5 (t1 t2 t3 t4 t5 : TypeId) W h1 h2 h3 h4 h5 => lastA' b1 b2 b3 b4 b5 (t1 := t1) (t2 := t2) (t3 := t3) (t4 := t4) (t5 := t5) nd hok m hm x hx (exitN x (runR nd m)) W h1 h2 h3 h4 h5 hall
    change ∀ b1 b2 b3 b4 b5 t1 t2 t3 t4 t5 W, _ → _ → _ → _ → _ → Calls _ _ _ _ fun e W' => e = .returned (.int .i64 ((forN nd x m : Nat) : Int)) ∧ _ at hlast
    generalize exitN x (runR nd m) = all at hu hlast
    clear hb h0 hall
    go_enter Tryd.func13, Tryd.ntmps13
    go_wp2_with (first
      | (go_at_call 36; refine hu.mono ?_; rintro e W1 ⟨⟨v, rfl, b1, b2, b3, b4, b5, t1, t2, t3, t4, t5, rfl, h1, h2, h3, h4, h5⟩, hb1⟩)
      | (go_at_call 37; refine (hlast b1 b2 b3 b4 b5 t1 t2 t3 t4 t5 _ h1 h2 h3 h4 h5).mono ?_; rintro e W2 ⟨rfl, hb2⟩))
    go_ret
    exact ⟨rfl, hb1.trans (hb2.mono hb1.size)⟩
theorem fail_zero {t : ByteArray} {s : Int} (h : reachN t s 1 = 0) : failZ t s = -1 := by
  unfold failZ
  unfold reachN at h
  split
  · rename_i nd hP
    rw [hP] at h
    dsimp only at h
    cases hs : isSet s with
    | false => rfl
    | true =>
      rw [hs] at h
      have h1 : (runR nd s.toNat).2 = 0 := by
        rw [show (true && inB 1 0 1) = true from rfl, if_pos rfl] at h
        unfold exitN at h
        rw [if_pos rfl] at h
        omega
      rw [h1]
      rfl
  · rfl
set_option maxHeartbeats 2000000 in
theorem pfail9 (t : ByteArray) (s : Int) (w : World) {N : Nat} (hE : Laid3 N w) :
    Calls Tryd.prog 15 #[.string t, .int .i64 s] w fun e w' => e = .returned (.int .i64 (failZ t s)) ∧ Below w.heap.size w w' := by
  have hre := preach10 t s 1 w hE
  by_cases h0 : reachN t s 1 = 0
  · rw [fail_zero h0]
    rw [h0] at hre
    clear h0
    generalize reachB t s 1 = b at hre
    go_enter Tryd.func15, Tryd.ntmps15
    go_wp2_with (go_at_call 38; refine hre.mono ?_; rintro e W1 ⟨rfl, hb1⟩)
    go_ret
    exact ⟨rfl, hb1⟩
  · obtain ⟨nd, m, hP, hm, rfl⟩ : ∃ nd m, readP t.toList = some nd ∧ m < 512 ∧ s = ((m : Nat) : Int) := by
      cases hP : readP t.toList with
      | none => exact absurd (reach_none hP s 1).1 h0
      | some nd =>
        cases hs : isSet s with
        | false => exact absurd (reach_bad (t := t) (s := s) (x := 1) (by rw [hs]; rfl)).1 h0
        | true =>
          obtain ⟨m, hm, rfl⟩ := set_nat hs
          exact ⟨nd, m, rfl, hm, rfl⟩
    obtain ⟨hok, _⟩ := readP_iff.1 hP
    have hrN := (reach_ok hP hm (x := 1) (.inr rfl)).1
    have hne : (runR nd m).2 ≠ 0 := by
      intro h
      rw [hrN] at h0
      unfold exitN at h0
      rw [if_pos rfl, h] at h0
      exact h0 rfl
    have h12 : (runT 12 nd m).2 ≠ 0 := of_decide_eq_true (fail_twelve hok hm hne)
    have hz : failZ t (m : Int) = ((failN nd m : Nat) : Int) := by
      unfold failZ
      rw [hP]
      have h1 : isSet (m : Int) = true := decide_eq_true (by omega)
      dsimp only
      rw [h1, Int.toNat_natCast, decide_eq_true hne]
      rfl
    rw [hz]
    have hr := fun (X : World) (hX : Laid3 N X) => pread40 t.toList X hX
    rw [bytes_eta] at hr
    have hlast := fun b1 b2 b3 (t1 t2 t3 : TypeId) W h1 h2 h3 => lastB' b1 b2 b3 (t1 := t1) (t2 := t2) (t3 := t3) nd hok m hm W h1 h2 h3 h12
    change ∀ b1 b2 b3 t1 t2 t3 W, _ → _ → _ → Calls _ _ _ _ fun e W' => e = .returned (.int .i64 ((failN nd m : Nat) : Int)) ∧ _ at hlast
    rw [hrN] at h0 hre
    have HP := Lib.hid hP
    clear hP hrN hz hne h12
    generalize exitN 1 (runR nd m) = z at h0 hre
    have hz0 : ¬ ((z : Int) = 0) := h0
    generalize reachB t (m : Int) 1 = b at hre
    go_enter Tryd.func15, Tryd.ntmps15
    go_wp2_with (go_at_call 38; refine hre.mono ?_; rintro e W1 ⟨rfl, hb1⟩)
    refine (hr _ (hE.below hb1 hE.lt)).mono ?_
    rintro e W2 ⟨hb2, hm2⟩
    rw [HP.out] at hm2
    obtain rfl := hm2
    have hB2 := hb1.trans (hb2.mono hb1.size)
    go_wp2_with fail
    rw [nodeV_eq nd hok]
    refine (triesMaker' (nodeT nd) (nodeX nd) (m : Int) _ _ W2).mono ?_
    rintro e W3 ⟨rfl, rfl⟩
    have B1 := (Lies.new W2 #[.iface (nodeT nd) (nodeX nd)] 44)
    have B2 := (Lies.new (W2.alloc (.cells #[.iface (nodeT nd) (nodeX nd)] 44)) #[.int .i64 (m : Int)] 51)
    have B3 := (Lies.new ((W2.alloc (.cells #[.iface (nodeT nd) (nodeX nd)] 44)).alloc (.cells #[.int .i64 (m : Int)] 51)) #[.func (.func 40) #[] #[]] 78)
    rw [World.size_alloc] at B2
    rw [World.size_alloc, World.size_alloc] at B3
    have B1' : Lies (W2.alloc (.cells #[.iface (nodeT nd) (nodeX nd)] 44)) W2.heap.size #[nodeV nd] 44 := by rw [nodeV_eq nd hok]; exact B1
    have hl := hlast W2.heap.size (W2.heap.size + 1) (W2.heap.size + 1 + 1) _ _ _ _ ((B1'.alloc _).alloc _) (B2.alloc _) B3
    have hB3 := ((hB2.alloc hB2.size (.cells #[.iface (nodeT nd) (nodeX nd)] 44)).alloc (hB2.alloc hB2.size _).size (.cells #[.int .i64 (m : Int)] 51)).alloc ((hB2.alloc hB2.size (.cells #[.iface (nodeT nd) (nodeX nd)] 44)).alloc (hB2.alloc hB2.size _).size _).size (.cells #[.func (.func 40) #[] #[]] 78)
    go_wp2_with fail
    refine hl.mono ?_
    rintro e W4 ⟨rfl, hb4⟩
    go_wp2_with fail
    go_ret
    exact ⟨rfl, hB3.trans (hb4.mono hB3.size)⟩
end Go.Proofs.YtnejphdbnfdbhaaDoor

