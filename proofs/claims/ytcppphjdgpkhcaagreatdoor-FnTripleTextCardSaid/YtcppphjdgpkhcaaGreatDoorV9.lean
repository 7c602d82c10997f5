/- The walk of FnTripleText: its draws (triples that are valid), the law. -/
import Derived.Test.YtcppphjdgpkhcaaGreatDoorDT
import Derived.Test.YtcppphjdgpkhcaaGreatDoorTV
namespace Go.Proofs.YtcppphjdgpkhcaaGreatDoor
open Go.ChangeShapes Go.WideShapes Go.ChangeAt Go.RowKit Go.Shelf Go.Maps
attribute [local go_sem] Oper.semAt_some
set_option maxRecDepth 100000

theorem or_bdv {a b : Int} (a0 : 0 ≤ a) (a1 : a ≤ 511) (b0 : 0 ≤ b) (b1 : b ≤ 511) : 0 ≤ bits .or .i64 a b ∧ bits .or .i64 a b ≤ 511 := by
  obtain ⟨m, rfl⟩ : ∃ m : Nat, a = (m : Int) := ⟨a.toNat, by omega⟩
  obtain ⟨n, rfl⟩ : ∃ n : Nat, b = (n : Int) := ⟨b.toNat, by omega⟩
  rw [or_nat m n (by omega) (by omega)]
  have := Nat.or_lt_two_pow (n := 9) (x := m) (y := n) (by omega) (by omega)
  omega
theorem and_bdv {a b : Int} (a0 : 0 ≤ a) (a1 : a ≤ 511) (b0 : 0 ≤ b) (b1 : b ≤ 511) : 0 ≤ bits .and .i64 a b ∧ bits .and .i64 a b ≤ 511 := by
  obtain ⟨m, rfl⟩ : ∃ m : Nat, a = (m : Int) := ⟨a.toNat, by omega⟩
  obtain ⟨n, rfl⟩ : ∃ n : Nat, b = (n : Int) := ⟨b.toNat, by omega⟩
  rw [and_nat m n (by omega) (by omega)]
  have := Nat.and_le_right (n := m) (m := n)
  omega
theorem pow_bdv : ∀ q : Fin 9, (0 : Int) ≤ 2 ^ q.val ∧ (2 : Int) ^ q.val ≤ 256 := by decide

theorem num24v (Q : Int → Prop) {B : Nat} {W : World} {rb k g m : Nat} (h : Rd B W rb k) (hk : k ≤ 1000000) (m1 : 0 < m) (m2 : m ≤ 1000) (hg : g ≠ rb)
    (hc : ∀ i, i < m → ∃ z : Int, Q z ∧ W.cell? ⟨g, i, none⟩ = some (.int .i64 z)) :
    Calls Tryz.prog 84 #[.pointer (some ⟨rb, 0, none⟩), .slice (some ⟨g, 0, none⟩) m m] W fun e W' => ∃ z : Int, Q z ∧ e = .returned (.int .i64 z) ∧ Rd B W' rb (k + 1) ∧ W.grownBy W' (some rb) := by
  have HC := Lib.hid hc
  have m3 : (1 : Int) ≤ (m : Int) := by omega
  have m4 : (m : Int) ≤ 1000 := by omega
  clear hc
  go_enter Tryz.func84, Tryz.ntmps84
  go_wp2_with fail
  go_at_call 79
  refine (pick36 h hk m3 m4).mono ?_
  rintro e W1 ⟨r, rfl, r0, r1, h1, g1⟩
  obtain ⟨q, rfl⟩ : ∃ q : Nat, r = (q : Int) := ⟨r.toNat, by omega⟩
  have hq : q < m := by omega
  obtain ⟨z, hQ, hz⟩ := HC.out q hq
  have HQ := Lib.hid hQ
  have hz1 := g1.cell hz (by simpa using hg)
  clear hz hQ
  go_wp2
  go_ret
  exact ⟨z, HQ.out, rfl, h1, g1⟩
theorem num24w (Q : Int → Prop) {B : Nat} {W : World} {rb k : Nat} (h : Rd B W rb k) (hk : k ≤ 1000000) (cs : Array Value) (m : Nat) (hm : cs.size = m) (m1 : 0 < m) (m2 : m ≤ 1000) (hc : ∀ v ∈ cs.toList, ∃ z : Int, Q z ∧ v = .int .i64 z) :
    Calls Tryz.prog 84 #[.pointer (some ⟨rb, 0, none⟩), .slice (some ⟨W.heap.size, 0, none⟩) m m] (W.alloc (.cells cs 3)) fun e W' => ∃ z : Int, Q z ∧ e = .returned (.int .i64 z) ∧ Rd B W' rb (k + 1) ∧ W.grownBy W' (some rb) := by
  subst hm
  have hlt := h.lt
  refine (num24v Q (h.below ((Below.refl _ _).alloc (Nat.le_refl _) _)) hk m1 m2 (by omega) (fun i hi => ?_)).mono ?_
  · obtain ⟨z, hQ, hz⟩ := hc cs[i] (by simp)
    refine ⟨z, hQ, ?_⟩
    rw [cell_of_row _ W.heap.size i cs 3 (0, 0) (heap_alloc_new W _), ← hz]
    simp [hi]
  · rintro e W' ⟨z, hQ, he, hr, hg⟩
    exact ⟨z, hQ, he, hr, grown_trans (World.grownBy_alloc W _ (some rb)) hg⟩

theorem valid_drawn {b : Int} {p : ByteArray} {x z : Int} (hb : 0 ≤ b ∧ b ≤ 511) (hp : isP p.toList = true) (hx : 0 ≤ x ∧ x < 2) (hz : 0 ≤ z ∧ z ≤ 511) : validT b p x z = true := by
  have h1 : isSet b = true := decide_eq_true hb
  have h4 : isSet z = true := decide_eq_true hz
  have h3 : inB x 0 1 = true := inB_yes (by omega)
  unfold validT
  rw [h1, hp, h3, h4]
  rfl
theorem reach_bd {b : Int} {p : ByteArray} {x : Int} (h : validT b p x 0 = true) : 0 ≤ reachN p b x ∧ reachN p b x ≤ 511 := by
  have hr := reach_valid h
  obtain ⟨nd, m, hP, hm, rfl, hx, hn⟩ := reach_true hr
  rw [hn]
  obtain ⟨hok, _⟩ := readP_iff.1 hP
  have hr := run_lt nd hok m hm
  unfold exitN
  split <;> omega
/-- A triple is drawn that is one. -/
def DrawnV (B rb k : Nat) (W : World) (e : Ending) (W' : World) : Prop :=
  ∃ (b : Int) (p : ByteArray) (x r : Int), validT b p x r = true ∧ e = .returned (.agg #[.int .i64 b, .string p, .int .i64 x, .int .i64 r]) ∧ (∃ j, j ≤ k ∧ Rd B W' rb j) ∧ W.grownBy W' (some rb)
theorem Mids.doneV {B rb k k' : Nat} {W X : World} {g gt : Nat} {b : Int} {p : ByteArray} {x r : Int} (h : Mids B rb k W X g gt b p x r) (hv : validT b p x r = true) (_ : p.size ≤ 60) (hk : k ≤ k') :
    DrawnV B rb k' W (.returned (.agg #[.int .i64 b, .string p, .int .i64 x, .int .i64 r])) (set4 X g b p x r) :=
  ⟨b, p, x, r, hv, rfl, ⟨k, hk, set4_rd h.rd (by have := h.hg; have := h.hrb; omega) b p x r⟩, set4_grown h.grew h.hg b p x r⟩
set_option maxHeartbeats 400000 in
theorem good37v {B : Nat} {W : World} {rb k : Nat} (h : Rd B W rb k) (hk : k ≤ 900000) :
    Calls Tryz.prog 120 #[.pointer (some ⟨rb, 0, none⟩)] W fun e W' => ∃ z : Int, (0 ≤ z ∧ z ≤ 511) ∧ e = .returned (.int .i64 z) ∧ (∃ j, j ≤ k + 8 ∧ Rd B W' rb j) ∧ W.grownBy W' (some rb) := by
  go_enter Tryz.func120, Tryz.ntmps120
  go_wp2_with fail
  go_at_call 79
  refine (pick36 h (by omega) (by omega) (by omega)).mono ?_
  rintro e W1 ⟨x1, rfl, a1, b1, h1, g1⟩
  go_wp2_with fail
  go_at_call 79
  refine (pick36 h1 (by omega) (by omega) (by omega)).mono ?_
  rintro e W2 ⟨x2, rfl, a2, b2, h2, g2⟩
  go_wp2_with fail
  go_at_call 79
  refine (pick36 h2 (by omega) (by omega) (by omega)).mono ?_
  rintro e W3 ⟨x3, rfl, a3, b3, h3, g3⟩
  obtain ⟨q3, rfl⟩ : ∃ q : Fin 9, x3 = (q.val : Int) := ⟨⟨x3.toNat, by omega⟩, by simp; omega⟩
  have p3 := pow_bdv q3
  go_wp2_with fail
  go_at_call 79
  refine (pick36 h3 (by omega) (by omega) (by omega)).mono ?_
  rintro e W4 ⟨x4, rfl, a4, b4, h4, g4⟩
  go_wp2_with fail
  go_at_call 79
  refine (pick36 h4 (by omega) (by omega) (by omega)).mono ?_
  rintro e W5 ⟨x5, rfl, a5, b5, h5, g5⟩
  obtain ⟨q5, rfl⟩ : ∃ q : Fin 9, x5 = (q.val : Int) := ⟨⟨x5.toNat, by omega⟩, by simp; omega⟩
  have p5 := pow_bdv q5
  go_wp2_with fail
  go_at_call 79
  refine (pick36 h5 (by omega) (by omega) (by omega)).mono ?_
  rintro e W6 ⟨x6, rfl, a6, b6, h6, g6⟩
  obtain ⟨q6, rfl⟩ : ∃ q : Fin 9, x6 = (q.val : Int) := ⟨⟨x6.toNat, by omega⟩, by simp; omega⟩
  have p6 := pow_bdv q6
  have G := Lib.hid (grown_trans g1 (grown_trans g2 (grown_trans g3 (grown_trans g4 (grown_trans g5 g6)))))
  clear g1 g2 g3 g4 g5 g6
  go_wp2_with fail
  go_at_call 84
  refine Calls.mono (num24w (fun z => 0 ≤ z ∧ z ≤ 511) h6 (by omega) _ 8 ?_ (by omega) (by omega) ?_) ?_
  · rfl
  · intro v hv
    simp at hv
    rcases hv with rfl | rfl | rfl | rfl | rfl | rfl | rfl | rfl <;> first | exact ⟨_, ⟨by omega, by omega⟩, rfl⟩ | exact ⟨_, or_bdv (by omega) (by omega) (by omega) (by omega), rfl⟩
  rintro e W7 ⟨z, hQ, rfl, h7, g7⟩
  go_wp2
  go_ret
  exact ⟨z, hQ, rfl, ⟨_, by omega, h7⟩, grown_trans G.out g7⟩
set_option maxHeartbeats 2000000 in
theorem good5v {B : Nat} {W : World} {rb k : Nat} (h : Rd B W rb k) (hk : k ≤ 880000) :
    Calls Tryz.prog 78 #[.pointer (some ⟨rb, 0, none⟩)] W (DrawnV B rb (k + 400) W) := by
  have hrb := h.lt
  have hR0 := TripAt.new W 0 ⟨#[]⟩ 0 0
  have h0 := h.below ((Below.refl _ W).alloc (Nat.le_refl _) (.cells #[.int .i64 0, .string ⟨#[]⟩, .int .i64 0, .int .i64 0] 24))
  have c0 := World.grownBy_alloc W (.cells #[.int .i64 0, .string ⟨#[]⟩, .int .i64 0, .int .i64 0] 24) (some rb)
  go_enter Tryz.func78, Tryz.ntmps78
  go_wp2_with fail
  go_at_call 120
  refine (good37v h0 (by omega)).mono ?_
  rintro e W1 ⟨b, hbs, rfl, ⟨j1, hj1, h1⟩, g1⟩
  go_wp2_with fail
  go_at_call 121
  refine (good55g h1 (by omega)).mono ?_
  rintro e W2 ⟨p, hp, rfl, ⟨j2, hj2, h2⟩, g2⟩
  go_wp2_with fail
  go_at_call 79
  refine (pick36 h2 (by omega) (by omega) (by omega)).mono ?_
  rintro e W3 ⟨x, rfl, x0, x1, h3, g3⟩
  have G3 := grown_trans c0 (grown_trans g1 (grown_trans g2 g3))
  have hps := hp.2.2
  have hpp := hp.1
  have hval := fun (z : Int) (hz : 0 ≤ z ∧ z ≤ 511) => valid_drawn hbs hpp (And.intro x0 x1) hz
  have hM : Mids B rb (j2 + 1) W (W3.alloc (.cells #[.int .i64 b, .string p, .int .i64 x, .int .i64 0] 24)) W.heap.size W3.heap.size b p x 0 :=
    ⟨(((hR0.grown g1 (by omega)).grown g2 (by omega)).grown g3 (by omega)).alloc _, TripAt.new W3 b p x 0, h3.below ((Below.refl _ _).alloc (Nat.le_refl _) _), grown_trans G3 (World.grownBy_alloc _ _ _), Nat.le_refl _, G3.size, hrb, by have := (((hR0.grown g1 (by omega)).grown g2 (by omega)).grown g3 (by omega)).lt; omega⟩
  clear hR0 h0 c0 h1 g1 h2 g2 h3 g3 hp
  go_wp2_with fail
  go_at_call 79
  refine (pick36 hM.rd (by omega) (by omega) (by omega)).mono ?_
  rintro e W4 ⟨y, rfl, y0, y1, h4, g4⟩
  have hM4 := hM.ran h4 g4
  clear hM h4 g4
  generalize W3.heap.size = gt at hM4 ⊢
  by_cases q0 : y = 0
  · subst q0
    obtain ⟨⟨c0, c1, c2, c3⟩, ⟨f0, f1, f2, f3⟩, ⟨e0, e1, e2, e3⟩, ⟨k0, k1, k2, k3⟩⟩ := hM4.cells
    go_wp2_with fail
    go_at_call 120
    refine (good37v hM4.rd (by omega)).mono ?_
    rintro e W5 ⟨z, hzz, rfl, ⟨j5, hj5, h5⟩, g5⟩
    have hM5 := hM4.ran h5 g5
    have hM6 := hM5.behind z
    obtain ⟨_, ⟨f0, f1, f2, f3⟩, _, _⟩ := hM5.cells
    obtain ⟨⟨c0, c1, c2, c3⟩, _, _, _⟩ := hM5.cells
    obtain ⟨⟨a0, a1, a2, a3⟩, _, ⟨e0, e1, e2, e3⟩, ⟨k0, k1, k2, k3⟩⟩ := hM6.cells
    go_wp2_with fail
    obtain ⟨d0, d1, d2, d3⟩ := (set4_trip hM6.res b p x z).cells
    have hF := hM6.doneV (k' := k + 400) (hval _ hzz) hps (by omega)
    unfold set4 at d0 d1 d2 d3 hF
    exact bodyPost_ret (v := .agg #[.int .i64 b, .string p, .int .i64 x, .int .i64 z]) (by simp [results, Tryz.results78, go_sem, d0, d1, d2, d3]) rfl hF
  · have n0 : (y == 0) = false := by simpa using q0
    by_cases q1 : y = 1
    · subst q1
      obtain ⟨⟨c0, c1, c2, c3⟩, ⟨f0, f1, f2, f3⟩, ⟨e0, e1, e2, e3⟩, ⟨k0, k1, k2, k3⟩⟩ := hM4.cells
      go_wp2_with fail
      go_at_call 122
      refine (mreached5 b p (by omega) x 0 _).mono ?_
      rintro e W5 ⟨rfl, hb5⟩
      have hM5 := hM4.below hb5
      have hzz := reach_bd (hval 0 (by omega))
      generalize reachN p b x = z at hzz ⊢
      have hM6 := hM5.behind z
      obtain ⟨⟨c0, c1, c2, c3⟩, ⟨f0, f1, f2, f3⟩, _, _⟩ := hM5.cells
      obtain ⟨⟨a0, a1, a2, a3⟩, _, ⟨e0, e1, e2, e3⟩, ⟨k0, k1, k2, k3⟩⟩ := hM6.cells
      go_wp2_with fail
      obtain ⟨d0, d1, d2, d3⟩ := (set4_trip hM6.res b p x z).cells
      have hF := hM6.doneV (k' := k + 400) (hval _ hzz) hps (by omega)
      unfold set4 at d0 d1 d2 d3 hF
      exact bodyPost_ret (v := .agg #[.int .i64 b, .string p, .int .i64 x, .int .i64 z]) (by simp [results, Tryz.results78, go_sem, d0, d1, d2, d3]) rfl hF
    · have n1 : (y == 1) = false := by simpa using q1
      obtain ⟨⟨c0, c1, c2, c3⟩, ⟨f0, f1, f2, f3⟩, ⟨e0, e1, e2, e3⟩, ⟨k0, k1, k2, k3⟩⟩ := hM4.cells
      go_wp2_with fail
      go_at_call 122
      refine (mreached5 b p (by omega) x 0 _).mono ?_
      rintro e W5 ⟨rfl, hb5⟩
      have hM5 := hM4.below hb5
      have hz1 := reach_bd (hval 0 (by omega))
      generalize reachN p b x = z1 at hz1 ⊢
      go_wp2_with fail
      go_at_call 120
      refine (good37v hM5.rd (by omega)).mono ?_
      rintro e W6 ⟨z2, hz2, rfl, ⟨j6, hj6, h6⟩, g6⟩
      have hM6 := hM5.ran h6 g6
      have hM7 := hM6.behind (bits .and .i64 z1 z2)
      have hzz := and_bdv hz1.1 hz1.2 hz2.1 hz2.2
      obtain ⟨⟨c0, c1, c2, c3⟩, ⟨f0, f1, f2, f3⟩, _, _⟩ := hM6.cells
      obtain ⟨⟨a0, a1, a2, a3⟩, _, ⟨e0, e1, e2, e3⟩, ⟨k0, k1, k2, k3⟩⟩ := hM7.cells
      go_wp2_with fail
      obtain ⟨d0, d1, d2, d3⟩ := (set4_trip hM7.res b p x (bits .and .i64 z1 z2)).cells
      have hF := hM7.doneV (k' := k + 400) (hval _ hzz) hps (by omega)
      unfold set4 at d0 d1 d2 d3 hF
      exact bodyPost_ret (v := .agg #[.int .i64 b, .string p, .int .i64 x, .int .i64 (bits .and .i64 z1 z2)]) (by simp [results, Tryz.results78, go_sem, d0, d1, d2, d3]) rfl hF

theorem six_textsP : ∀ v ∈ (#[.string ⟨#[]⟩, .string ⟨#[32]⟩, .string ⟨#[48]⟩, .string ⟨#[45]⟩, .string ⟨#[120]⟩, .string ⟨#[44]⟩] : Array Value).toList, ∃ s : ByteArray, s.size ≤ 3 ∧ v = .string s := by
  intro v hv
  simp at hv
  rcases hv with rfl | rfl | rfl | rfl | rfl | rfl <;> exact ⟨_, by decide, rfl⟩
set_option maxHeartbeats 2000000 in
theorem drawQ {B : Nat} {W : World} {a : Option Addr} {len cap : Nat} (h : Code B W a len cap) (hB : B ≤ W.heap.size) :
    Calls Tryz.prog 21 #[.slice a len cap] W fun e W' => ∃ s : ByteArray, s.size ≤ 1048576 ∧ e = .returned (.string s) ∧ Below W.heap.size W W' := by
  go_enter Tryz.func21, Tryz.ntmps21
  go_wp2_with fail
  go_at_call 66
  refine (open33 h hB).mono ?_
  rintro e W1 ⟨rfl, h1, b1, z1⟩
  have Z := Lib.hid z1
  clear z1
  go_wp2_with fail
  go_at_call 78
  refine (good5v h1 (by omega)).mono ?_
  rintro e W2 ⟨b, p, x, r, hv, rfl, ⟨j, hj, h2⟩, g2⟩
  have b2 := below_of_grown g2 (by have := h1.lt; omega)
  have B2 := b1.trans b2
  have hls := line_size hv
  have hfm := fun X => mfmt16 b p (by have := prog_size hv; omega) x r X
  rw [fmt_yes hv] at hfm
  generalize lineT b p x r = sb at hfm hls
  clear hv
  go_wp2_with fail
  go_at_call 18
  refine (hfm _).mono ?_
  rintro e W3 ⟨rfl, b3⟩
  have h3 := h2.below b3
  have B3 := B2.trans (b3.mono B2.size)
  obtain ⟨s0, s1⟩ := hls
  go_wp2_with fail
  go_at_call 79
  refine (pick36 h3 (by omega) (by omega) (by omega)).mono ?_
  rintro e W4 ⟨x4, rfl, a4, c4, h4, g4⟩
  have B4 := B3.trans (below_of_grown g4 (by have := h3.lt; omega))
  cases hx : (x4 == 0) with
  | true =>
    go_wp2
    go_ret
    exact ⟨sb, by omega, rfl, B4⟩
  | false =>
    have n1 : (1 : Int) ≤ (sb.size : Int) := by omega
    have n2 : (sb.size : Int) ≤ 122 := by omega
    go_wp2_with fail
    go_at_call 79
    refine (pick36 h4 (by omega) n1 (by omega)).mono ?_
    rintro e W5 ⟨x5, rfl, a5, c5, h5, g5⟩
    have B5 := B4.trans (below_of_grown g5 (by have := h4.lt; omega))
    obtain ⟨k, rfl⟩ : ∃ k : Nat, x5 = (k : Int) := ⟨x5.toNat, by omega⟩
    have hk : k < sb.size := by omega
    have e1 : (sb.extract 0 k).size ≤ 122 := by rw [ByteArray.size_extract]; omega
    go_wp2_with fail
    have HL := Lib.hid (And.intro s0 s1)
    have hbz : ∀ z : Int, 0 ≤ z → z < 2 → 0 ≤ (k : Int) + z ∧ (k : Int) + z ≤ (sb.size : Int) ∧ (¬ (sb.size : Int) < (k : Int) + z) ∧ (¬ (k : Int) + z < 0) ∧ (0 ≤ (k : Int) + z ∧ (k : Int) + z ≤ (sb.size : Int)) ∧ IntKind.i64.wrap ((k : Int) + z) = (k : Int) + z := fun z a b => ⟨by omega, by omega, by omega, by omega, ⟨by omega, by omega⟩, IntWalk.i64_in _ (by omega)⟩
    clear s0 s1
    go_region_held (fun _ => True) (trivial)
      (first
        | (go_at_call 80; (first | refine Calls.mono (ofPnew (W := W5) (P := fun t => t.size ≤ 5) h5 (by omega) _ 6 ?_ (by omega) (by omega) ?_) ?_ | refine Calls.mono (ofPnew (W := W5.drew) (P := fun t => t.size ≤ 5) h5 (by omega) _ 6 ?_ (by omega) (by omega) ?_) ?_ | refine Calls.mono (ofPnew (W := W5.drew.drew) (P := fun t => t.size ≤ 5) h5 (by omega) _ 6 ?_ (by omega) (by omega) ?_) ?_); (· rfl); (· (intro v hv; simp at hv; rcases hv with rfl | rfl | rfl | rfl | rfl | rfl <;> exact ⟨_, by decide, rfl⟩)); rintro e W6 ⟨u, hu, rfl, h6, b6⟩; have l1 : k + u.size ≤ 9223372036854775807 := by omega)
        | (go_at_call 79; (first | refine (pick36 (W := W6) h6 (by omega) (by omega) (by omega)).mono ?_ | refine (pick36 (W := W6.drew) h6 (by omega) (by omega) (by omega)).mono ?_); rintro e W7 ⟨z, rfl, z0, z1, h7, g7⟩; obtain ⟨p0, p1, p2, p3, p4, p5⟩ := hbz z z0 z1))
    all_goals go_wp2_with fail
    all_goals
      go_ret
      have hsz : (sb.extract 0 k ++ u ++ sb.extract ((k : Int) + z).toNat sb.size).size ≤ 1048576 := by
        rw [ByteArray.size_append, ByteArray.size_append, ByteArray.size_extract, ByteArray.size_extract]
        have := HL.out.2
        omega
      have hb5 : Below W.heap.size W W6 := by first | exact B5.trans b6 | exact B5.trans ((Below.refl _ _).drew.trans b6) | exact B5.trans ((Below.refl _ _).drew.drew.trans b6)
      have e5 : Below W.heap.size W W7 := by first | exact hb5.trans (below_of_grown g7 (by have := h6.lt; omega)) | exact hb5.drew.trans (below_of_grown g7 (by have : W.heap.size < W6.heap.size := h6.lt; show W.heap.size ≤ W6.heap.size; omega))
      first | exact ⟨_, hsz, rfl, e5⟩ | exact ⟨_, hsz, rfl, e5.drew⟩
/-! ### The law -/
theorem eqSame (b : Int) (p : ByteArray) (x r : Int) (w : World) : (Op.equalIn 10000 24 (.agg #[.int .i64 b, .string p, .int .i64 x, .int .i64 r]) (.agg #[.int .i64 b, .string p, .int .i64 x, .int .i64 r])).run Tryz.prog w = .ok true w := by
  rw [show (10000 : Nat) = 9999 + 1 from rfl, run_equalIn_struct w 9999 24 _ _ (by kernel_rfl) (by kernel_rfl)]
  have hl : (Tryz.prog.fieldsOf 24).toList = [⟨"Before", 3, 0, false, "", "", 0⟩, ⟨"Program", 9, 1, false, "", "", 8⟩, ⟨"Exit", 3, 2, false, "", "", 24⟩, ⟨"Behind", 3, 3, false, "", "", 32⟩] := by kernel_rfl
  have u3 : ∀ (x y : Int) (w : World), (Op.equalIn 9999 3 (.int .i64 x) (.int .i64 y)).run Tryz.prog w = .ok (x == y) w := fun x y w => run_equalIn_int w 9998 3 .i64 .i64 x y Tryz.underlying3
  have u9 : ∀ (x y : ByteArray) (w : World), (Op.equalIn 9999 9 (.string x) (.string y)).run Tryz.prog w = .ok (x.toList == y.toList) w := fun x y w => run_equalIn_string w 9998 9 x y Tryz.underlying9
  have q0 : ∀ (a : Int) (t : ByteArray) (x r : Int) (w : World), (part 3 #[.int .i64 a, .string t, .int .i64 x, .int .i64 r] 0).run Tryz.prog w = .ok (.int .i64 a) w := fun a t x r w => by kernel_rfl
  have q1 : ∀ (a : Int) (t : ByteArray) (x r : Int) (w : World), (part 9 #[.int .i64 a, .string t, .int .i64 x, .int .i64 r] 1).run Tryz.prog w = .ok (.string t) w := fun a t x r w => by kernel_rfl
  have q2 : ∀ (a : Int) (t : ByteArray) (x r : Int) (w : World), (part 3 #[.int .i64 a, .string t, .int .i64 x, .int .i64 r] 2).run Tryz.prog w = .ok (.int .i64 x) w := fun a t x r w => by kernel_rfl
  have q3 : ∀ (a : Int) (t : ByteArray) (x r : Int) (w : World), (part 3 #[.int .i64 a, .string t, .int .i64 x, .int .i64 r] 3).run Tryz.prog w = .ok (.int .i64 r) w := fun a t x r w => by kernel_rfl
  rw [hl]
  have n1 : "Before" ≠ "_" := by decide
  have n2 : "Program" ≠ "_" := by decide
  have n3 : "Exit" ≠ "_" := by decide
  have n4 : "Behind" ≠ "_" := by decide
  simp [Op.eqFields, n1, n2, n3, n4, q0, q1, q2, q3, u3, u9]
set_option maxHeartbeats 8000000 in
theorem text_walk (w : World) (a : Option Addr) (len cap : Nat) (a' : Option Addr) (len' cap' : Nat) (hC : Code w.heap.size w a len cap) (hC' : Code w.heap.size w a' len' cap') (hlen : len ≤ 1048576) (hlen' : len' ≤ 1048576) {N : Nat} (hL : LaidT N w) :
    Calls Tryz.prog 3 #[.slice a len cap, .slice a' len' cap'] w fun e w' => e = .returned (.bool true) ∧ Below w.heap.size w w' := by
  have hli : (len : Int) ≤ 1048576 := by omega
  have hli' : (len' : Int) ≤ 1048576 := by omega
  go_enter Tryz.func3, Tryz.ntmps3
  go_wp2_with fail
  go_at_call 15
  refine (drawF hC (Nat.le_refl _)).mono ?_
  rintro e W1 ⟨b, p, x, r, hp, rfl, hb1⟩
  have hcur := hb1.alloc hb1.size (.cells #[.int .i64 b, .string p, .int .i64 x, .int .i64 r] 24)
  have hT := TripAt.new W1 b p x r
  clear hb1
  have aF := fun (X : World) (hX : Laid3 N X) => pfmt17 b p x r X hX
  have mF := fun X => mfmt16 b p (by omega) x r X
  have aV := fun (X : World) (hX : Laid3 N X) => ptvalid b p x r X hX
  have mV := fun X => mtvalid b p (by omega) x r X
  have hfs : (fmtT b p x r).size ≤ 1048576 := by
    cases hv : validT b p x r with
    | true => rw [fmt_yes hv]; have := (line_size hv).2; omega
    | false => rw [fmt_no hv]; decide
  have aP := fun (X : World) (hX : LaidT N X) => ptry17 (fmtT b p x r) hfs X hX
  rw [ok_fmt] at aP
  go_wp2_with fail
  generalize W1.heap.size = gt at hT ⊢
  generalize W1.alloc (.cells #[.int .i64 b, .string p, .int .i64 x, .int .i64 r] 24) = X1 at hcur hT ⊢
  go_at_call 16
  refine (aF _ (hL.below hcur hL.lt).three).mono ?_
  rintro e W2 ⟨rfl, b2⟩
  replace hT := hT.below b2 hT.lt
  replace hcur := hcur.trans (b2.mono hcur.size)
  clear b2
  obtain ⟨c0, c1, c2, c3⟩ := hT.cells
  go_wp2_with fail
  cases hv : validT b p x r with
  | true =>
    rw [(got_line hv).1, hv] at aP
    unfold tripV at aP
    dsimp only at aP
    rw [hv] at aV mV
    generalize fmtT b p x r = f at aP aF mF ⊢
    clear hfs hv c0 c1 c2 c3
    go_at_call 17
    refine (aP _ (hL.below hcur hL.lt)).mono ?_
    rintro e W3 ⟨rfl, b3⟩
    replace hT := hT.below b3 hT.lt
    replace hcur := hcur.trans (b3.mono hcur.size)
    have hB := TripAt.new W3 b p x r
    replace hcur := hcur.alloc hcur.size (.cells #[.int .i64 b, .string p, .int .i64 x, .int .i64 r] 24)
    replace hT := hT.below ((Below.refl _ W3).alloc (Nat.le_refl _) (.cells #[.int .i64 b, .string p, .int .i64 x, .int .i64 r] 24)) hT.lt
    clear b3 aP aF
    go_wp2_with fail
    generalize W3.heap.size = gb2 at hB ⊢
    generalize W3.alloc (.cells #[.int .i64 b, .string p, .int .i64 x, .int .i64 r] 24) = X3 at hcur hT hB ⊢
    replace hcur := hcur.drew
    replace hT := hT.drewV
    replace hB := hB.drewV
    refine wp_region_held (S := fun w' => TripAt w' gt b p x r ∧ TripAt w' gb2 b p x r) (by kernel_rfl) ?_
    refine wpAnyH_take (i := 0) (v := .string f) rfl (by kernel_rfl) (by kernel_rfl) (by kernel_rfl) (fun _ _ _ h => h) (Or.inl ⟨by rfl, fun w hw => by go_simp⟩) ⟨hT, hB⟩ ?_
    go_simp
    refine wpAnyH_take (i := 1) (v := .agg #[.int .i64 b, .string p, .int .i64 x, .int .i64 r]) rfl (by kernel_rfl) (by kernel_rfl) (by kernel_rfl) (fun _ _ _ h => h) (Or.inl ⟨by rfl, fun w hw => by obtain ⟨c0, c1, c2, c3⟩ := hw.1.cells; first | (go_simp; done) | rfl⟩) ⟨hT, hB⟩ ?_
    go_simp
    refine wpAnyH_ready (rs := [2]) (by kernel_rfl) (by simp) ?_
    refine AllReadyH.cons rfl (fun K hK => ?_) AllReadyH.nil
    go_simp
    go_wp2_with (go_at_call 18; refine (mF _).mono ?_; rintro e Wk ⟨rfl, hb⟩; replace hcur := hcur.trans (hb.mono hcur.size); replace hT := hT.below hb hT.lt; replace hB := hB.below hb hB.lt; clear hb)
    refine hK _ _ (⟨hT, hB⟩) (fun _ => ?_)
    clear hK K
    go_simp
    refine wpAnyH_take (i := 3) (v := .bool false) rfl (by kernel_rfl) (by kernel_rfl) (by kernel_rfl) (fun _ _ _ h => h) (Or.inl ⟨by rfl, fun w hw => by go_simp⟩) ⟨hT, hB⟩ ?_
    go_simp
    refine wpAnyH_take (i := 4) (v := .bool false) rfl (by kernel_rfl) (by kernel_rfl) (by kernel_rfl) (fun _ _ _ h => h) (Or.inl ⟨by rfl, fun w hw => by go_simp⟩) ⟨hT, hB⟩ ?_
    go_simp
    refine wpAnyH_take (i := 5) (v := .agg #[.int .i64 b, .string p, .int .i64 x, .int .i64 r]) rfl (by kernel_rfl) (by kernel_rfl) (by kernel_rfl) (fun _ _ _ h => h) (Or.inl ⟨by rfl, fun w hw => by obtain ⟨c0, c1, c2, c3⟩ := hw.1.cells; first | (go_simp; done) | rfl⟩) ⟨hT, hB⟩ ?_
    go_simp
    refine wpAnyH_take (i := 7) (v := .agg #[.int .i64 b, .string p, .int .i64 x, .int .i64 r]) rfl (by kernel_rfl) (by kernel_rfl) (by kernel_rfl) (fun _ _ _ h => h) (Or.inl ⟨by rfl, fun w hw => by obtain ⟨c0, c1, c2, c3⟩ := hw.1.cells; first | (go_simp; done) | rfl⟩) ⟨hT, hB⟩ ?_
    go_simp
    refine wpAnyH_ready (rs := [6]) (by kernel_rfl) (by simp) ?_
    refine AllReadyH.cons rfl (fun K hK => ?_) AllReadyH.nil
    go_simp
    go_wp2_with (go_at_call 19; refine (aV _ (hL.below hcur hL.lt).three).mono ?_; rintro e Wk ⟨rfl, hb⟩; replace hcur := hcur.trans (hb.mono hcur.size); replace hT := hT.below hb hT.lt; replace hB := hB.below hb hB.lt; clear hb)
    refine hK _ _ (⟨hT, hB⟩) (fun _ => ?_)
    clear hK K
    go_simp
    refine wpAnyH_ready (rs := [8]) (by kernel_rfl) (by simp) ?_
    refine AllReadyH.cons rfl (fun K hK => ?_) AllReadyH.nil
    go_simp
    go_wp2_with (go_at_call 20; refine (mV _).mono ?_; rintro e Wk ⟨rfl, hb⟩; replace hcur := hcur.trans (hb.mono hcur.size); replace hT := hT.below hb hT.lt; replace hB := hB.below hb hB.lt; clear hb)
    refine hK _ _ (⟨hT, hB⟩) (fun _ => ?_)
    clear hK K
    go_simp
    refine wpAnyH_take (i := 9) (v := .bool false) rfl (by kernel_rfl) (by kernel_rfl) (by kernel_rfl) (fun _ _ _ h => h) (Or.inl ⟨by rfl, fun w hw => by go_simp⟩) ⟨hT, hB⟩ ?_
    go_simp
    refine wpAnyH_take (i := 10) (v := .bool false) rfl (by kernel_rfl) (by kernel_rfl) (by kernel_rfl) (fun _ _ _ h => h) (Or.inl ⟨by rfl, fun w hw => by go_simp⟩) ⟨hT, hB⟩ ?_
    go_simp
    refine wpAnyH_take (i := 11) (v := .bool false) rfl (by kernel_rfl) (by kernel_rfl) (by kernel_rfl) (fun _ _ _ h => h) (Or.inl ⟨by rfl, fun w hw => by go_simp⟩) ⟨hT, hB⟩ ?_
    go_simp
    refine wpAnyH_take (i := 12) (v := .bool true) rfl (by kernel_rfl) (by kernel_rfl) (by kernel_rfl) (fun _ _ _ h => h) (Or.inl ⟨by rfl, fun w hw => by go_simp⟩) ⟨hT, hB⟩ ?_
    go_simp
    refine wpAnyH_take (i := 13) (v := .agg #[.int .i64 b, .string p, .int .i64 x, .int .i64 r]) rfl (by kernel_rfl) (by kernel_rfl) (by kernel_rfl) (fun _ _ _ h => h) (Or.inl ⟨by rfl, fun w hw => by obtain ⟨c0, c1, c2, c3⟩ := hw.1.cells; first | (go_simp; done) | rfl⟩) ⟨hT, hB⟩ ?_
    go_simp
    refine wpAnyH_ready (rs := [14]) (by kernel_rfl) (by simp) ?_
    refine AllReadyH.cons rfl (fun K hK => ?_) AllReadyH.nil
    go_simp
    go_wp2_with (go_at_call 19; refine (aV _ (hL.below hcur hL.lt).three).mono ?_; rintro e Wk ⟨rfl, hb⟩; replace hcur := hcur.trans (hb.mono hcur.size); replace hT := hT.below hb hT.lt; replace hB := hB.below hb hB.lt; clear hb)
    refine hK _ _ (⟨hT, hB⟩) (fun _ => ?_)
    clear hK K
    go_simp
    refine wpAnyH_take (i := 15) (v := .bool false) rfl (by kernel_rfl) (by kernel_rfl) (by kernel_rfl) (fun _ _ _ h => h) (Or.inl ⟨by rfl, fun w hw => by go_simp⟩) ⟨hT, hB⟩ ?_
    go_simp
    refine wpAnyH_take (i := 16) (v := .bool false) rfl (by kernel_rfl) (by kernel_rfl) (by kernel_rfl) (fun _ _ _ h => h) (Or.inl ⟨by rfl, fun w hw => by go_simp⟩) ⟨hT, hB⟩ ?_
    go_simp
    refine wpAnyH_take (i := 17) (v := .bool false) rfl (by kernel_rfl) (by kernel_rfl) (by kernel_rfl) (fun _ _ _ h => h) (Or.inl ⟨by rfl, fun w hw => by go_simp⟩) ⟨hT, hB⟩ ?_
    go_simp
    refine wpAnyH_take (i := 18) (v := .bool true) rfl (by kernel_rfl) (by kernel_rfl) (by kernel_rfl) (fun _ _ _ h => h) (Or.inl ⟨by rfl, fun w hw => by go_simp⟩) ⟨hT, hB⟩ ?_
    go_simp
    refine wpAnyH_take (i := 19) (v := .bool true) rfl (by kernel_rfl) (by kernel_rfl) (by kernel_rfl) (fun _ _ _ h => h) (Or.inl ⟨by rfl, fun w hw => by go_simp⟩) ⟨hT, hB⟩ ?_
    go_simp
    refine wpAnyH_take (i := 20) (v := .agg #[.int .i64 b, .string p, .int .i64 x, .int .i64 r]) rfl (by kernel_rfl) (by kernel_rfl) (by kernel_rfl) (fun _ _ _ h => h) (Or.inl ⟨by rfl, fun w hw => by obtain ⟨c0, c1, c2, c3⟩ := hw.2.cells; first | (go_simp; done) | rfl⟩) ⟨hT, hB⟩ ?_
    go_simp
    refine wpAnyH_take (i := 21) (v := .agg #[.int .i64 b, .string p, .int .i64 x, .int .i64 r]) rfl (by kernel_rfl) (by kernel_rfl) (by kernel_rfl) (fun _ _ _ h => h) (Or.inl ⟨by rfl, fun w hw => by obtain ⟨c0, c1, c2, c3⟩ := hw.1.cells; first | (go_simp; done) | rfl⟩) ⟨hT, hB⟩ ?_
    go_simp
    refine wpAnyH_take (i := 22) (v := .bool false) rfl (by kernel_rfl) (by kernel_rfl) (by kernel_rfl) (fun _ _ _ h => h) (Or.inl ⟨by rfl, fun w hw => by have hq := eqSame b p x r w; go_simp⟩) ⟨hT, hB⟩ ?_
    go_simp
    refine wpAnyH_take (i := 23) (v := .bool false) rfl (by kernel_rfl) (by kernel_rfl) (by kernel_rfl) (fun _ _ _ h => h) (Or.inl ⟨by rfl, fun w hw => by go_simp⟩) ⟨hT, hB⟩ ?_
    go_simp
    refine wpAnyH_take (i := 24) (v := .bool false) rfl (by kernel_rfl) (by kernel_rfl) (by kernel_rfl) (fun _ _ _ h => h) (Or.inl ⟨by rfl, fun w hw => by go_simp⟩) ⟨hT, hB⟩ ?_
    go_simp
    refine wpAnyH_done (by kernel_rfl) ?_ _
    go_wp2_with fail
    go_at_call 21
    refine (drawQ (hC'.below hcur) hcur.size).mono ?_
    rintro e W5 ⟨s, hs, rfl, b5⟩
    replace hcur := hcur.trans (b5.mono hcur.size)
    have aP := fun (X : World) (hX : LaidT N X) => ptry17 s hs X hX
    have mP := fun X => mtry22 s hs X
    have hfg := fun h => (fmt_got (t := s) h)
    generalize okT s = fine at aP mP hfg
    generalize gotT s = G at aP mP hfg
    obtain ⟨gb, gp, gx, gr⟩ := G
    unfold tripV at aP mP
    dsimp only at aP mP hfg
    have HG := Lib.hid hfg
    clear hfg b5 hT hB aV mV mF
    go_wp2_with fail
    go_at_call 17
    refine (aP _ (hL.below hcur hL.lt)).mono ?_
    rintro e W6 ⟨rfl, b6⟩
    have hG := TripAt.new W6 gb gp gx gr
    have hc6 := (hcur.trans (b6.mono hcur.size))
    have hc7 := hc6.alloc hc6.size (.cells #[.int .i64 gb, .string gp, .int .i64 gx, .int .i64 gr] 24)
    clear hcur b6 hc6 aP
    go_wp2_with fail
    go_at_call 22
    refine (mP _).mono ?_
    rintro e W8 ⟨rfl, b8⟩
    have hG8 := hG.below b8 hG.lt
    have hc8 := hc7.trans (b8.mono hc7.size)
    have hc9 := hc8.alloc hc8.size (.cells #[.int .i64 gb, .string gp, .int .i64 gx, .int .i64 gr] 24)
    have hV9 := TripAt.new W8 gb gp gx gr
    have hG9 := hG8.below ((Below.refl _ W8).alloc (Nat.le_refl _) (.cells #[.int .i64 gb, .string gp, .int .i64 gx, .int .i64 gr] 24)) hG8.lt
    obtain ⟨v0, v1, v2, v3⟩ := hV9.cells
    obtain ⟨g0, g1, g2, g3⟩ := hG8.cells
    obtain ⟨h0, h1, h2, h3⟩ := hG9.cells
    have hq := fun w => eqSame gb gp gx gr w
    clear hG hG8 b8 hc7 hc8 mP
    cases fine with
    | false =>
      go_wp2_with fail
      go_ret
      first | exact ⟨rfl, hc9⟩ | exact ⟨rfl, hc9.drew⟩
    | true =>
      obtain ⟨hv, hfm⟩ := HG.out rfl
      have aF := fun (X : World) (hX : Laid3 N X) => pfmt17 gb gp gx gr X hX
      rw [hfm] at aF
      clear hfm HG
      go_wp2_with (go_at_call 16; refine (aF _ (hL.below (by first | exact hc9 | exact hc9.drew) hL.lt).three).mono ?_; rintro e Wk ⟨rfl, hb⟩)
      go_ret
      first | exact ⟨rfl, hc9.trans (hb.mono hc9.size)⟩ | exact ⟨rfl, hc9.drew.trans (hb.mono hc9.size)⟩ | exact ⟨rfl, (hc9.trans (hb.mono hc9.size)).drew⟩
  | false =>
    rw [got_none (t := fmtT b p x r) (by rw [ok_fmt]; exact hv), hv] at aP
    unfold tripV zeroT at aP
    dsimp only at aP
    rw [hv] at aV mV
    generalize fmtT b p x r = f at aP aF mF ⊢
    clear hfs hv c0 c1 c2 c3
    go_at_call 17
    refine (aP _ (hL.below hcur hL.lt)).mono ?_
    rintro e W3 ⟨rfl, b3⟩
    replace hT := hT.below b3 hT.lt
    replace hcur := hcur.trans (b3.mono hcur.size)
    have hB := TripAt.new W3 0 ⟨#[]⟩ 0 0
    replace hcur := hcur.alloc hcur.size (.cells #[.int .i64 0, .string ⟨#[]⟩, .int .i64 0, .int .i64 0] 24)
    replace hT := hT.below ((Below.refl _ W3).alloc (Nat.le_refl _) (.cells #[.int .i64 0, .string ⟨#[]⟩, .int .i64 0, .int .i64 0] 24)) hT.lt
    clear b3 aP aF
    go_wp2_with fail
    generalize W3.heap.size = gb2 at hB ⊢
    generalize W3.alloc (.cells #[.int .i64 0, .string ⟨#[]⟩, .int .i64 0, .int .i64 0] 24) = X3 at hcur hT hB ⊢
    replace hcur := hcur.drew
    replace hT := hT.drewV
    replace hB := hB.drewV
    refine wp_region_held (S := fun w' => TripAt w' gt b p x r ∧ TripAt w' gb2 0 ⟨#[]⟩ 0 0) (by kernel_rfl) ?_
    refine wpAnyH_take (i := 0) (v := .string f) rfl (by kernel_rfl) (by kernel_rfl) (by kernel_rfl) (fun _ _ _ h => h) (Or.inl ⟨by rfl, fun w hw => by go_simp⟩) ⟨hT, hB⟩ ?_
    go_simp
    refine wpAnyH_take (i := 1) (v := .agg #[.int .i64 b, .string p, .int .i64 x, .int .i64 r]) rfl (by kernel_rfl) (by kernel_rfl) (by kernel_rfl) (fun _ _ _ h => h) (Or.inl ⟨by rfl, fun w hw => by obtain ⟨c0, c1, c2, c3⟩ := hw.1.cells; first | (go_simp; done) | rfl⟩) ⟨hT, hB⟩ ?_
    go_simp
    refine wpAnyH_ready (rs := [2]) (by kernel_rfl) (by simp) ?_
    refine AllReadyH.cons rfl (fun K hK => ?_) AllReadyH.nil
    go_simp
    go_wp2_with (go_at_call 18; refine (mF _).mono ?_; rintro e Wk ⟨rfl, hb⟩; replace hcur := hcur.trans (hb.mono hcur.size); replace hT := hT.below hb hT.lt; replace hB := hB.below hb hB.lt; clear hb)
    refine hK _ _ (⟨hT, hB⟩) (fun _ => ?_)
    clear hK K
    go_simp
    refine wpAnyH_take (i := 3) (v := .bool false) rfl (by kernel_rfl) (by kernel_rfl) (by kernel_rfl) (fun _ _ _ h => h) (Or.inl ⟨by rfl, fun w hw => by go_simp⟩) ⟨hT, hB⟩ ?_
    go_simp
    refine wpAnyH_take (i := 4) (v := .bool false) rfl (by kernel_rfl) (by kernel_rfl) (by kernel_rfl) (fun _ _ _ h => h) (Or.inl ⟨by rfl, fun w hw => by go_simp⟩) ⟨hT, hB⟩ ?_
    go_simp
    refine wpAnyH_take (i := 5) (v := .agg #[.int .i64 b, .string p, .int .i64 x, .int .i64 r]) rfl (by kernel_rfl) (by kernel_rfl) (by kernel_rfl) (fun _ _ _ h => h) (Or.inl ⟨by rfl, fun w hw => by obtain ⟨c0, c1, c2, c3⟩ := hw.1.cells; first | (go_simp; done) | rfl⟩) ⟨hT, hB⟩ ?_
    go_simp
    refine wpAnyH_take (i := 7) (v := .agg #[.int .i64 b, .string p, .int .i64 x, .int .i64 r]) rfl (by kernel_rfl) (by kernel_rfl) (by kernel_rfl) (fun _ _ _ h => h) (Or.inl ⟨by rfl, fun w hw => by obtain ⟨c0, c1, c2, c3⟩ := hw.1.cells; first | (go_simp; done) | rfl⟩) ⟨hT, hB⟩ ?_
    go_simp
    refine wpAnyH_ready (rs := [6]) (by kernel_rfl) (by simp) ?_
    refine AllReadyH.cons rfl (fun K hK => ?_) AllReadyH.nil
    go_simp
    go_wp2_with (go_at_call 19; refine (aV _ (hL.below hcur hL.lt).three).mono ?_; rintro e Wk ⟨rfl, hb⟩; replace hcur := hcur.trans (hb.mono hcur.size); replace hT := hT.below hb hT.lt; replace hB := hB.below hb hB.lt; clear hb)
    refine hK _ _ (⟨hT, hB⟩) (fun _ => ?_)
    clear hK K
    go_simp
    refine wpAnyH_ready (rs := [8]) (by kernel_rfl) (by simp) ?_
    refine AllReadyH.cons rfl (fun K hK => ?_) AllReadyH.nil
    go_simp
    go_wp2_with (go_at_call 20; refine (mV _).mono ?_; rintro e Wk ⟨rfl, hb⟩; replace hcur := hcur.trans (hb.mono hcur.size); replace hT := hT.below hb hT.lt; replace hB := hB.below hb hB.lt; clear hb)
    refine hK _ _ (⟨hT, hB⟩) (fun _ => ?_)
    clear hK K
    go_simp
    refine wpAnyH_take (i := 9) (v := .bool false) rfl (by kernel_rfl) (by kernel_rfl) (by kernel_rfl) (fun _ _ _ h => h) (Or.inl ⟨by rfl, fun w hw => by go_simp⟩) ⟨hT, hB⟩ ?_
    go_simp
    refine wpAnyH_take (i := 10) (v := .bool false) rfl (by kernel_rfl) (by kernel_rfl) (by kernel_rfl) (fun _ _ _ h => h) (Or.inl ⟨by rfl, fun w hw => by go_simp⟩) ⟨hT, hB⟩ ?_
    go_simp
    refine wpAnyH_take (i := 11) (v := .bool false) rfl (by kernel_rfl) (by kernel_rfl) (by kernel_rfl) (fun _ _ _ h => h) (Or.inl ⟨by rfl, fun w hw => by go_simp⟩) ⟨hT, hB⟩ ?_
    go_simp
    refine wpAnyH_take (i := 12) (v := .bool false) rfl (by kernel_rfl) (by kernel_rfl) (by kernel_rfl) (fun _ _ _ h => h) (Or.inl ⟨by rfl, fun w hw => by go_simp⟩) ⟨hT, hB⟩ ?_
    go_simp
    refine wpAnyH_take (i := 13) (v := .agg #[.int .i64 b, .string p, .int .i64 x, .int .i64 r]) rfl (by kernel_rfl) (by kernel_rfl) (by kernel_rfl) (fun _ _ _ h => h) (Or.inl ⟨by rfl, fun w hw => by obtain ⟨c0, c1, c2, c3⟩ := hw.1.cells; first | (go_simp; done) | rfl⟩) ⟨hT, hB⟩ ?_
    go_simp
    refine wpAnyH_ready (rs := [14]) (by kernel_rfl) (by simp) ?_
    refine AllReadyH.cons rfl (fun K hK => ?_) AllReadyH.nil
    go_simp
    go_wp2_with (go_at_call 19; refine (aV _ (hL.below hcur hL.lt).three).mono ?_; rintro e Wk ⟨rfl, hb⟩; replace hcur := hcur.trans (hb.mono hcur.size); replace hT := hT.below hb hT.lt; replace hB := hB.below hb hB.lt; clear hb)
    refine hK _ _ (⟨hT, hB⟩) (fun _ => ?_)
    clear hK K
    go_simp
    refine wpAnyH_take (i := 15) (v := .bool false) rfl (by kernel_rfl) (by kernel_rfl) (by kernel_rfl) (fun _ _ _ h => h) (Or.inl ⟨by rfl, fun w hw => by go_simp⟩) ⟨hT, hB⟩ ?_
    go_simp
    refine wpAnyH_take (i := 16) (v := .bool false) rfl (by kernel_rfl) (by kernel_rfl) (by kernel_rfl) (fun _ _ _ h => h) (Or.inl ⟨by rfl, fun w hw => by go_simp⟩) ⟨hT, hB⟩ ?_
    go_simp
    refine wpAnyH_take (i := 17) (v := .bool false) rfl (by kernel_rfl) (by kernel_rfl) (by kernel_rfl) (fun _ _ _ h => h) (Or.inl ⟨by rfl, fun w hw => by go_simp⟩) ⟨hT, hB⟩ ?_
    go_simp
    refine wpAnyH_take (i := 18) (v := .bool false) rfl (by kernel_rfl) (by kernel_rfl) (by kernel_rfl) (fun _ _ _ h => h) (Or.inl ⟨by rfl, fun w hw => by go_simp⟩) ⟨hT, hB⟩ ?_
    go_simp
    refine wpAnyH_take (i := 19) (v := .bool false) rfl (by kernel_rfl) (by kernel_rfl) (by kernel_rfl) (fun _ _ _ h => h) (Or.inl ⟨by rfl, fun w hw => by go_simp⟩) ⟨hT, hB⟩ ?_
    go_simp
    refine wpAnyH_take (i := 20) (v := undef) rfl (by kernel_rfl) (by kernel_rfl) (by kernel_rfl) (fun _ _ _ h => h) (Or.inr ⟨by rfl, rfl⟩) ⟨hT, hB⟩ ?_
    go_simp
    refine wpAnyH_take (i := 21) (v := undef) rfl (by kernel_rfl) (by kernel_rfl) (by kernel_rfl) (fun _ _ _ h => h) (Or.inr ⟨by rfl, rfl⟩) ⟨hT, hB⟩ ?_
    go_simp
    refine wpAnyH_take (i := 22) (v := undef) rfl (by kernel_rfl) (by kernel_rfl) (by kernel_rfl) (fun _ _ _ h => h) (Or.inr ⟨by rfl, rfl⟩) ⟨hT, hB⟩ ?_
    go_simp
    refine wpAnyH_take (i := 23) (v := .bool false) rfl (by kernel_rfl) (by kernel_rfl) (by kernel_rfl) (fun _ _ _ h => h) (Or.inl ⟨by rfl, fun w hw => by go_simp⟩) ⟨hT, hB⟩ ?_
    go_simp
    refine wpAnyH_take (i := 24) (v := .bool false) rfl (by kernel_rfl) (by kernel_rfl) (by kernel_rfl) (fun _ _ _ h => h) (Or.inl ⟨by rfl, fun w hw => by go_simp⟩) ⟨hT, hB⟩ ?_
    go_simp
    refine wpAnyH_done (by kernel_rfl) ?_ _
    go_wp2_with fail
    go_at_call 21
    refine (drawQ (hC'.below hcur) hcur.size).mono ?_
    rintro e W5 ⟨s, hs, rfl, b5⟩
    replace hcur := hcur.trans (b5.mono hcur.size)
    have aP := fun (X : World) (hX : LaidT N X) => ptry17 s hs X hX
    have mP := fun X => mtry22 s hs X
    have hfg := fun h => (fmt_got (t := s) h)
    generalize okT s = fine at aP mP hfg
    generalize gotT s = G at aP mP hfg
    obtain ⟨gb, gp, gx, gr⟩ := G
    unfold tripV at aP mP
    dsimp only at aP mP hfg
    have HG := Lib.hid hfg
    clear hfg b5 hT hB aV mV mF
    go_wp2_with fail
    go_at_call 17
    refine (aP _ (hL.below hcur hL.lt)).mono ?_
    rintro e W6 ⟨rfl, b6⟩
    have hG := TripAt.new W6 gb gp gx gr
    have hc6 := (hcur.trans (b6.mono hcur.size))
    have hc7 := hc6.alloc hc6.size (.cells #[.int .i64 gb, .string gp, .int .i64 gx, .int .i64 gr] 24)
    clear hcur b6 hc6 aP
    go_wp2_with fail
    go_at_call 22
    refine (mP _).mono ?_
    rintro e W8 ⟨rfl, b8⟩
    have hG8 := hG.below b8 hG.lt
    have hc8 := hc7.trans (b8.mono hc7.size)
    have hc9 := hc8.alloc hc8.size (.cells #[.int .i64 gb, .string gp, .int .i64 gx, .int .i64 gr] 24)
    have hV9 := TripAt.new W8 gb gp gx gr
    have hG9 := hG8.below ((Below.refl _ W8).alloc (Nat.le_refl _) (.cells #[.int .i64 gb, .string gp, .int .i64 gx, .int .i64 gr] 24)) hG8.lt
    obtain ⟨v0, v1, v2, v3⟩ := hV9.cells
    obtain ⟨g0, g1, g2, g3⟩ := hG8.cells
    obtain ⟨h0, h1, h2, h3⟩ := hG9.cells
    have hq := fun w => eqSame gb gp gx gr w
    clear hG hG8 b8 hc7 hc8 mP
    cases fine with
    | false =>
      go_wp2_with fail
      go_ret
      first | exact ⟨rfl, hc9⟩ | exact ⟨rfl, hc9.drew⟩
    | true =>
      obtain ⟨hv, hfm⟩ := HG.out rfl
      have aF := fun (X : World) (hX : Laid3 N X) => pfmt17 gb gp gx gr X hX
      rw [hfm] at aF
      clear hfm HG
      go_wp2_with (go_at_call 16; refine (aF _ (hL.below (by first | exact hc9 | exact hc9.drew) hL.lt).three).mono ?_; rintro e Wk ⟨rfl, hb⟩)
      go_ret
      first | exact ⟨rfl, hc9.trans (hb.mono hc9.size)⟩ | exact ⟨rfl, hc9.drew.trans (hb.mono hc9.size)⟩ | exact ⟨rfl, (hc9.trans (hb.mono hc9.size)).drew⟩
set_option maxHeartbeats 1000000 in
theorem text_long (w : World) (a : Option Addr) (len cap : Nat) (a' : Option Addr) (len' cap' : Nat) (hlen : 1048576 < len ∨ 1048576 < len') :
    Calls Tryz.prog 3 #[.slice a len cap, .slice a' len' cap'] w fun e w' => e = .returned (.bool true) ∧ Below w.heap.size w w' := by
  by_cases h1 : 1048576 < len
  · have hli : (1048576 : Int) < (len : Int) := by omega
    go_enter Tryz.func3, Tryz.ntmps3
    go_wp2
    go_ret
    exact ⟨rfl, Below.refl _ _⟩
  · have hli : (len : Int) ≤ 1048576 := by omega
    have hli' : (1048576 : Int) < (len' : Int) := by omega
    go_enter Tryz.func3, Tryz.ntmps3
    go_wp2
    go_ret
    exact ⟨rfl, Below.refl _ _⟩
theorem walkTripleText (a : Option Addr) (len cap : Nat) (zs : List Int) (a' : Option Addr) (len' cap' : Nat) (zs' : List Int) (w : World) (hR : IsRow .u8 w a len cap zs) (hR' : IsRow .u8 w a' len' cap' zs') (hL : LaidT w.heap.size w) :
    Calls Tryz.prog 3 #[.slice a len cap, .slice a' len' cap'] w fun e w' => e = .returned (.bool true) ∧ Below w.heap.size w w' := by
  by_cases h : len ≤ 1048576 ∧ len' ≤ 1048576
  · exact text_walk w a len cap a' len' cap' (Code.ofRow hR) (Code.ofRow hR') h.1 h.2 hL
  · exact text_long w a len cap a' len' cap' (by omega)
end Go.Proofs.YtcppphjdgpkhcaaGreatDoor

