/- Chapter 8: two programs one behind the other fail from no states but those stepped back to. Chapter 8: what is drawn for the law on sequences stepped back. Chapter 8: the walk of the law on sequences stepped back. -/
import Derived.Test.YtngcdgnijfiocaaGreatDoorBC
import Derived.Test.YtngcdgnijfiocaaGreatDoorZa
import Derived.Test.YtngcdgnijfiocaaGreatDoorND
import Derived.Test.YtngcdgnijfiocaaGreatDoorDG
import Derived.Test.YtngcdgnijfiocaaGreatDoorSA
import Derived.Test.YtngcdgnijfiocaaGreatDoorZb
import Derived.Test.YtngcdgnijfiocaaGreatDoorE4
namespace Go.Proofs.YtngcdgnijfiocaaGreatDoor
open Go.ChangeShapes Go.WideShapes Go.ChangeAt Go.RowKit Go.Shelf
set_option maxRecDepth 100000

theorem and511s : ∀ z : Fin 512, z.val &&& 511 = z.val := by decide +kernel
theorem and_all8 {z : Nat} (h : z < 512) : z &&& 511 = z := and511s ⟨z, h⟩
theorem fail_in {Q : Node} (hok : Q.ok) {o D : Nat} (ho : o < 512) (hD : canN Q 1 511 ||| D = D) (h : (runR Q o).2 ≠ 0) : o &&& D ≠ 0 := by
  rw [run_states Q ho] at h
  change overL (fun s => (runR Q (2 ^ s)).2) (upTo (o : Int) 9) ≠ 0 at h
  obtain ⟨y, hy, hne⟩ := (overL_pos _).1 h
  have h1 := mem_up _ y 9 hy
  rw [hasB_bit ho y.isLt] at h1
  have h2 : (canN Q 1 511).testBit y.val = true := by
    rw [can_bit Q 1 511 y.isLt, show exitN 1 (runR Q (2 ^ y.val)) = (runR Q (2 ^ y.val)).2 from if_pos rfl, and_all8 (run_lt Q hok _ (pow9 y.isLt)).2]
    exact bne_iff_ne.2 hne
  have h3 : D.testBit y.val = true := by rw [← hD, Nat.testBit_or, h2]; rfl
  intro e
  have h4 := congrArg (fun q => q.testBit y.val) e
  simp [Nat.testBit_and, h1, h3] at h4
theorem seq_fail {P Q : Node} (hP : P.ok) (hQ : Q.ok) {D : Nat} (hD : canN Q 1 511 ||| D = D) :
    canN (.pair 59 P Q) 1 511 ||| (canN P 1 511 ||| canN P 0 D) = (canN P 1 511 ||| canN P 0 D) := by
  apply Nat.eq_of_testBit_eq
  intro i
  rw [Nat.testBit_or]
  by_cases h9 : i < 9
  · cases hb : (canN (.pair 59 P Q) 1 511).testBit i with
    | false => simp
    | true =>
      rw [can_bit _ 1 511 h9] at hb
      have hr := run_lt P hP _ (pow9 h9)
      rw [Nat.testBit_or, can_bit P 1 511 h9, can_bit P 0 D h9]
      have e1 : exitN 1 (runR P (2 ^ i)) = (runR P (2 ^ i)).2 := if_pos rfl
      have e0 : exitN 0 (runR P (2 ^ i)) = (runR P (2 ^ i)).1 := if_neg (by decide)
      have ep : exitN 1 (runR (.pair 59 P Q) (2 ^ i)) = (runR P (2 ^ i)).2 ||| (runR Q (runR P (2 ^ i)).1).2 := by unfold exitN; rw [if_pos rfl, run_seq]
      rw [ep] at hb
      rw [e1, e0, and_all8 hr.2]
      by_cases z : (runR P (2 ^ i)).2 = 0
      · have h2 : (runR Q (runR P (2 ^ i)).1).2 ≠ 0 := by
          intro z2
          rw [z, z2] at hb
          exact absurd hb (by decide)
        rw [bne_iff_ne.2 (fail_in hQ hr.1 hD h2)]
        simp
      · rw [bne_iff_ne.2 z]
        simp
  · rw [high_bit (canN_lt _ _ _) (by omega), Bool.false_or]
theorem seq_read {p q : ByteArray} {P Q : Node} (hP : readP p.toList = some P) (hQ : readP q.toList = some Q) (h : isP (pairTx 59 p q).toList = true) : readP (pairTx 59 p q).toList = some (.pair 59 P Q) := by
  obtain ⟨okP, tP, _, _⟩ := readP_iff.1 hP
  obtain ⟨okQ, tQ, _, _⟩ := readP_iff.1 hQ
  have e : (pairTx 59 p q).toList = (Node.pair 59 P Q).text := by rw [pair_list, tP, tQ]; rfl
  have hok : (Node.pair 59 P Q).ok := ⟨.inl rfl, okP, okQ⟩
  rw [e] at h ⊢
  obtain ⟨h1, h2⟩ := (isP_text hok).1 h
  exact readP_iff.2 ⟨hok, rfl, h1, h2⟩
end Go.Proofs.YtngcdgnijfiocaaGreatDoor

namespace Go.Proofs.YtngcdgnijfiocaaGreatDoor
open Go.ChangeShapes Go.WideShapes Go.ChangeAt Go.RowKit Go.Shelf
set_option maxRecDepth 100000
attribute [local go_sem] Oper.semAt_some

theorem num26Q (Q : Int → Prop) {B : Nat} {W : World} {rb k g m : Nat} (h : Rd B W rb k) (hk : k ≤ 1000000) (m1 : 0 < m) (m2 : m ≤ 1000) (hg : g ≠ rb)
    (hc : ∀ i, i < m → ∃ z : Int, Q z ∧ W.cell? ⟨g, i, none⟩ = some (.int .i64 z)) :
    Calls Tryz.prog 58 #[.pointer (some ⟨rb, 0, none⟩), .slice (some ⟨g, 0, none⟩) m m] W fun e W' => ∃ z : Int, Q z ∧ e = .returned (.int .i64 z) ∧ Rd B W' rb (k + 1) ∧ W.grownBy W' (some rb) := by
  have HC := Lib.hid hc
  have m3 : (1 : Int) ≤ (m : Int) := by omega
  have m4 : (m : Int) ≤ 1000 := by omega
  clear hc
  go_enter Tryz.func58, Tryz.ntmps58
  go_wp2_with fail
  go_at_call 34
  refine (pick36 h hk m3 m4).mono ?_
  rintro e W1 ⟨r, rfl, r0, r1, h1, g1⟩
  obtain ⟨q, rfl⟩ : ∃ q : Nat, r = (q : Int) := ⟨r.toNat, by omega⟩
  have hq : q < m := by omega
  obtain ⟨z, hQ, hz⟩ := HC.out q hq
  have HQ := Lib.hid hQ
  have hz1 := g1.cell hz (by simpa using hg)
  clear hz hQ
  go_wp2
  go_ret
  exact ⟨z, HQ.out, rfl, h1, g1⟩
theorem num26new (Q : Int → Prop) {B : Nat} {W : World} {rb k : Nat} (h : Rd B W rb k) (hk : k ≤ 1000000) (cs : Array Value) (m : Nat) (hm : cs.size = m) (m1 : 0 < m) (m2 : m ≤ 1000) (hc : ∀ v ∈ cs.toList, ∃ z : Int, Q z ∧ v = .int .i64 z) :
    Calls Tryz.prog 58 #[.pointer (some ⟨rb, 0, none⟩), .slice (some ⟨W.heap.size, 0, none⟩) m m] (W.alloc (.cells cs 3)) fun e W' => ∃ z : Int, Q z ∧ e = .returned (.int .i64 z) ∧ Rd B W' rb (k + 1) ∧ W.grownBy W' (some rb) := by
  subst hm
  have hlt := h.lt
  refine (num26Q Q (h.below ((Below.refl _ _).alloc (Nat.le_refl _) _)) hk m1 m2 (by omega) (fun i hi => ?_)).mono ?_
  · obtain ⟨z, hQ, hz⟩ := hc cs[i] (by simp)
    refine ⟨z, hQ, ?_⟩
    rw [cell_of_row _ W.heap.size i cs 3 (0, 0) (heap_alloc_new W _), ← hz]
    simp [hi]
  · rintro e W' ⟨z, hQ, he, hr, hg⟩
    exact ⟨z, hQ, he, hr, grown_trans (World.grownBy_alloc W _ (some rb)) hg⟩

theorem rd_low {B : Nat} {W W' : World} {rb k : Nat} (h : Rd B W rb k) (hb : Below (rb + 1) W W') : Rd B W' rb k := by
  have hge := h.ge
  obtain ⟨a, len, cap, h1, h2, h3, h4⟩ := h
  refine ⟨a, len, cap, (hb.block rb (by omega)).trans h1, h2, h3, fun hl => ?_⟩
  obtain ⟨b, off, e1, e2, e3⟩ := h4 hl
  exact ⟨b, off, e1, e2, fun i hi => by
    obtain ⟨u, hu, hr⟩ := e3 i hi
    exact ⟨u, (hb.cell (p := ⟨b, off + i, none⟩) (by show b < rb + 1; omega)).trans hu, hr⟩⟩
theorem trow_rd {W W' : World} {rb : Nat} {v : Value} {ws : List (List UInt8)} (h : TRow W (rb + 1) v ws) (hg : W.grownBy W' (some rb)) : TRow W' (rb + 1) v ws := by
  refine h.kept hg ?_
  cases ho : v.ownBlock with
  | none => exact .inl rfl
  | some g =>
    refine .inr (fun e => ?_)
    have hg2 : g = rb := Option.some.inj e
    have := (World.ownsRow.lt h g ho).1
    omega
theorem trow_some {W : World} {B : Nat} {v : Value} {ws : List (List UInt8)} (h : TRow W B v ws) (hne : ws ≠ []) : ∃ g cap, v = .slice (some ⟨g, 0, none⟩) ws.length cap := by
  rcases h.cases with ⟨_, h0⟩ | ⟨g, cap, rfl, _⟩
  · exact absurd h0 hne
  · exact ⟨g, cap, rfl⟩
set_option maxHeartbeats 2000000 in
theorem drawS8 {B : Nat} {W : World} {a : Option Addr} {len cap : Nat} (h : Code B W a len cap) (hB : B ≤ W.heap.size) :
    Calls Tryz.prog 24 #[.slice a len cap] W fun e W' => ∃ (g cap : Nat) (ws : List (List UInt8)), ws.length ≤ 10 ∧ (∀ b ∈ ws, b.length ≤ 60) ∧ TRow W' (W.heap.size + 1) (.slice (some ⟨g, 0, none⟩) ws.length cap) ws ∧ e = .returned (.slice (some ⟨g, 0, none⟩) ws.length cap) ∧ Below W.heap.size W W' := by
  go_enter Tryz.func24, Tryz.ntmps24
  go_wp2_with fail
  go_at_call 31
  refine (open33 h hB).mono ?_
  rintro e W1 ⟨rfl, h1, b1, hsz⟩
  have hT0 : TRow (W1.alloc (.cells #[] 9)) (W.heap.size + 1) (.slice (some ⟨W1.heap.size, 0, none⟩) 0 0) [] := World.ownsRow_lit (base := W.heap.size + 1) (e := 9) (size := 1) W1 #[] 0 (by omega) (by decide) rfl
  clear hsz
  have bA : Below W1.heap.size W1 (W1.alloc (.cells #[] 9)) := (Below.refl _ _).alloc (Nat.le_refl _) _
  have HN := num26new (fun z => 0 ≤ z ∧ z ≤ 9) (h1.below bA) (by omega) #[.int .i64 2, .int .i64 3, .int .i64 1, .int .i64 0, .int .i64 8, .int .i64 9] 6 rfl (by omega) (by omega) (by
    intro v hv
    simp only [List.mem_cons, List.not_mem_nil, or_false] at hv
    rcases hv with rfl | rfl | rfl | rfl | rfl | rfl <;> exact ⟨_, by decide, rfl⟩)
  rw [World.size_alloc] at HN
  have bA2 : Below W.heap.size W (W1.alloc (.cells #[] 9)) := b1.trans (bA.mono b1.size)
  go_wp2_with fail
  go_at_call 58
  refine HN.mono ?_
  rintro e W2 ⟨z, ⟨hz0, hz9⟩, rfl, h2, g2⟩
  have hT2 := trow_rd hT0 g2
  have hB2 : Below W.heap.size W W2 := bA2.grown g2 bA2.size (fun k e => by cases e; exact Nat.le_refl _)
  obtain ⟨n, rfl⟩ : ∃ n : Nat, z = (n : Int) := ⟨z.toNat, by omega⟩
  have hn9 : n ≤ 9 := by omega
  clear HN hT0 bA bA2 g2 b1 h1
  obtain ⟨i0, hi, hq0, hq1, hq2⟩ := info_parts Tryz.info9
  go_wp2_with fail
  go_loopw [4, 11] (fun o i wr => ∃ (k j : Nat) (ws : List (List UInt8)), k ≤ n ∧ i = .int .i64 (k : Int) ∧ ws.length = k ∧ (∀ b ∈ ws, b.length ≤ 60) ∧ TRow wr (W.heap.size + 1) o ws ∧ j ≤ k * 301 + 1 ∧ Rd B wr W.heap.size j ∧ Below W.heap.size W wr ∧ (ws = [] → o = .slice (some ⟨W1.heap.size, 0, none⟩) 0 0)) (fun _ i _ => n - (intOf i).toNat)
  case atStart => exact ⟨0, 1, [], by omega, rfl, rfl, by simp, hT2, by omega, h2, hB2, fun _ => rfl⟩
  case round =>
    clear hT2 h2 hB2
    obtain ⟨k, j, ws, hk, rfl, hlen, hws, hrow, hj, hrd, hcur, hz⟩ := hrel
    by_cases hlt : k < n
    · clear hz
      have hki : (k : Int) < (n : Int) := by omega
      have HW := Lib.hid hws
      clear hws
      go_wp2_with fail
      go_at_call 60
      refine (good55g hrd (by omega)).mono ?_
      rintro e W3 ⟨t, ht, rfl, ⟨j3, hj3, h3⟩, g3⟩
      have ht60 := ht.2.2
      have hrow3 := trow_rd hrow g3
      have hcur3 : Below W.heap.size W W3 := hcur.grown g3 hcur.size (fun k e => by cases e; exact Nat.le_refl _)
      have HO := ofPg (P := fun t => t.size ≤ 60) h3 (by omega) #[.string ⟨#[120, 43]⟩, .string ⟨#[91, 120, 60, 121, 93]⟩, .string ⟨#[40, 46, 124, 33, 41]⟩, .string ⟨#[40, 91, 120, 61, 50, 93, 59, 33, 41]⟩, .string ⟨#[121, 43]⟩, .string t] 6 rfl (by omega) (by omega) (by
        intro v hv
        simp only [List.mem_cons, List.not_mem_nil, or_false] at hv
        rcases hv with rfl | rfl | rfl | rfl | rfl | rfl
        · exact ⟨_, by decide, rfl⟩
        · exact ⟨_, by decide, rfl⟩
        · exact ⟨_, by decide, rfl⟩
        · exact ⟨_, by decide, rfl⟩
        · exact ⟨_, by decide, rfl⟩
        · exact ⟨_, ht60, rfl⟩)
      clear ht hrd hrow hcur g3
      go_wp2_with fail
      go_at_call 59
      refine HO.mono ?_
      rintro e W4 ⟨u, hu, rfl, h4, g4⟩
      have hrow4 := trow_rd hrow3 g4
      have hcur4 : Below W.heap.size W W4 := hcur3.grown g4 hcur3.size (fun k e => by cases e; exact Nat.le_refl _)
      have hown := hrow4
      unfold TRow at hown
      clear HO hrow3 hcur3 h3 g4 hrow4
      have bW : Below W4.heap.size W4 (W4.alloc (.cells #[.string u] 9)) := (Below.refl _ _).alloc (Nat.le_refl _) _
      have h5 := h4.below bW
      have hcur5 := hcur4.alloc hcur4.size (.cells #[.string u] 9)
      have hlt4 := h4.lt
      clear h4 bW
      go_wp2_with (at_builtin; refine wpList_append_own _ rfl _ _ 29 rfl (W.heap.size + 1) 9 i0 (.string ⟨#[]⟩) 1 16 Tryz.underlying29 hi hq0 hq1 hq2 rfl (by decide) _ _ _ rfl (hown.alloc _) ⟨W4.heap.size, 0, none⟩ 1 1 [.string u] rfl (by rfl) (cell_one_new _ _ _) (by simp [Value.oneCell']) (by unfold maxLen; omega) (by omega) (by simp; omega) ?_; intro v' w1 hown' hgrow _; have h6 := rd_low h5 ((Below.refl (W.heap.size + 1) _).grown hgrow (by simp; omega) (fun i e => (World.ownsRow.lt hown i e).1)); have hcur6 := hcur5.grown hgrow hcur5.size (fun i e => by have := (World.ownsRow.lt hown i e).1; omega); clear hgrow h5 hcur5)
      go_roundw
      case rel =>
        refine ⟨k + 1, j3 + 1, ws ++ [u.data.toList], by omega, by go_num, by rw [List.length_append, hlen]; rfl, ?_, ?_, by omega, h6, hcur6, fun h => absurd h (by simp)⟩
        · intro b hb
          rw [List.mem_append, List.mem_singleton] at hb
          rcases hb with hb | rfl
          · exact HW.out b hb
          · exact hu
        · unfold TRow
          rw [texts_snoc, List.length_append]
          exact hown'
      case measure => (simp [intOf] <;> omega)
    · obtain rfl : k = n := by omega
      go_wp2_with fail
      go_at_call 34
      refine (pick36 hrd (by omega) (by omega) (by omega)).mono ?_
      rintro e W4 ⟨x1, rfl, a1, e1, h4, g4⟩
      have hrow4 := trow_rd hrow g4
      have hcur4 : Below W.heap.size W W4 := hcur.grown g4 hcur.size (fun k e => by cases e; exact Nat.le_refl _)
      have hown := hrow4
      unfold TRow at hown
      have HW := Lib.hid hws
      clear hrow hcur hrd g4 h4 hws
      by_cases hx1 : x1 = 0
      · subst hx1
        have hcur5 := hcur4.alloc hcur4.size (.cells #[.string ⟨#[113]⟩] 9)
        have hle := hcur4.size
        clear hrow4 hz
        go_wp2_with (at_builtin; refine wpList_append_own _ rfl _ _ 29 rfl (W.heap.size + 1) 9 i0 (.string ⟨#[]⟩) 1 16 Tryz.underlying29 hi hq0 hq1 hq2 rfl (by decide) _ _ _ rfl (hown.alloc _) ⟨W4.heap.size, 0, none⟩ 1 1 [.string ⟨#[113]⟩] rfl (by rfl) (cell_one_new _ _ _) (by simp [Value.oneCell']) (by unfold maxLen; omega) (by omega) (by simp; omega) ?_; intro v' w1 hown' hgrow _; have hcur6 := hcur5.grown hgrow hcur5.size (fun i e => by have := (World.ownsRow.lt hown i e).1; omega); clear hgrow hcur5)
        have hrow6 : TRow w1 (W.heap.size + 1) v' (ws ++ [[113]]) := by
          unfold TRow
          rw [texts_snoc, List.length_append]
          exact hown'
        obtain ⟨g, c, rfl⟩ := trow_some hrow6 (by simp)
        refine bodyPost_ret (v := .slice (some ⟨g, 0, none⟩) (ws ++ [[113]]).length c) (by simp [results, Tryz.results24, go_sem, hlen]) rfl ?_
        refine ⟨g, c, ws ++ [[113]], by rw [List.length_append, hlen]; show k + 1 ≤ 10; omega, ?_, hrow6, rfl, hcur6⟩
        intro b hb
        rw [List.mem_append, List.mem_singleton] at hb
        rcases hb with hb | rfl
        · exact HW.out b hb
        · decide
      · clear hown
        have hv : ∃ g c, u4 = .slice (some ⟨g, 0, none⟩) ws.length c := by
          by_cases hne : ws = []
          · rw [hz hne, hne]
            exact ⟨_, _, rfl⟩
          · exact trow_some hrow4 hne
        clear hz
        obtain ⟨g, c, rfl⟩ := hv
        go_wp2_with fail
        refine bodyPost_ret (v := .slice (some ⟨g, 0, none⟩) ws.length c) (by simp [results, Tryz.results24, go_sem, hlen]) rfl ?_
        exact ⟨g, c, ws, by omega, HW.out, hrow4, rfl, hcur4⟩
end Go.Proofs.YtngcdgnijfiocaaGreatDoor

namespace Go.Proofs.YtngcdgnijfiocaaGreatDoor
open Go.ChangeShapes Go.WideShapes Go.ChangeAt Go.RowKit Go.Shelf
attribute [local go_sem] Oper.semAt_some
set_option maxRecDepth 100000

theorem same8nil (W : World) (a b : Option Addr) (c d : Nat) :
    Calls Tryz.prog 27 #[.slice a 0 c, .slice b 0 d] W fun e w' => e = .returned (.bool true) ∧ Below W.heap.size W w' := by
  go_enter Tryz.func27, Tryz.ntmps27
  go_wp2
  go_loop [11] (fun i => i = .int .i64 0) (fun _ => 0)
  case atStart => rfl
  case round =>
    obtain rfl := hrel
    go_wp2
    go_ret
    exact ⟨rfl, Below.refl _ _⟩

set_option maxHeartbeats 1000000 in
theorem same8row (W : World) (g h c d : Nat) (zs : List Int) (hm : zs.length ≤ maxLen)
    (hx : ∀ i, i < zs.length → W.cell? ⟨g, i, none⟩ = some (.int .i64 (zs[i]?.getD 0))) (hy : ∀ i, i < zs.length → W.cell? ⟨h, i, none⟩ = some (.int .i64 (zs[i]?.getD 0))) :
    Calls Tryz.prog 27 #[.slice (some ⟨g, 0, none⟩) zs.length c, .slice (some ⟨h, 0, none⟩) zs.length d] W fun e w' => e = .returned (.bool true) ∧ Below W.heap.size W w' := by
  unfold maxLen at hm
  have HX := Lib.hid hx
  have HY := Lib.hid hy
  clear hx hy
  go_enter Tryz.func27, Tryz.ntmps27
  go_wp2
  go_loopw [11] (fun i wr => ∃ k : Nat, k ≤ zs.length ∧ i = .int .i64 k ∧ Below W.heap.size W wr ∧ ∀ a, wr.cell? a = W.cell? a) (fun i _ => zs.length - (intOf i).toNat)
  case atStart => exact ⟨0, by omega, rfl, Below.refl _ _, fun _ => rfl⟩
  case round =>
    obtain ⟨k, hk, rfl, hB, hs⟩ := hrel
    by_cases hlt : k < zs.length
    · have c1 : wr.cell? ⟨g, k, none⟩ = some (.int .i64 (zs[k]?.getD 0)) := (hs _).trans (HX.out k hlt)
      have c2 : wr.cell? ⟨h, k, none⟩ = some (.int .i64 (zs[k]?.getD 0)) := (hs _).trans (HY.out k hlt)
      have HS := Lib.hid hs
      clear hs
      go_wp2
      go_quiet (fail)
      go_wp2
      go_roundw
      case rel => exact ⟨k + 1, by omega, by go_num, below_drewN hB _, fun a => HS.out a⟩
      case measure => simp [intOf]; omega
    · have e : k = zs.length := by omega
      clear hlt hk
      subst e
      go_wp2
      go_ret
      exact ⟨rfl, hB⟩
theorem same8 {W : World} {B1 B2 : Nat} {v1 v2 : Value} {zs : List Int} (h1 : IRow W B1 v1 zs) (h2 : IRow W B2 v2 zs) :
    Calls Tryz.prog 27 #[v1, v2] W fun e w' => e = .returned (.bool true) ∧ Below W.heap.size W w' := by
  rcases h1.cases with ⟨rfl, h0⟩ | ⟨g, cap, rfl, _, _, hm⟩
  · subst h0
    rcases h2.cases with ⟨rfl, _⟩ | ⟨g', cap', rfl, _, _, hm⟩
    · exact same8nil W _ _ _ _
    · exact same8nil W _ _ _ _
  · rcases h2.cases with ⟨rfl, h0⟩ | ⟨g', cap', rfl, _, _, _⟩
    · subst h0
      exact same8nil W _ _ _ _
    · exact same8row W g g' cap cap' zs hm h1.cell h2.cell

theorem addr_add (g j : Nat) : (⟨g, 0, none⟩ : Addr).add j = ⟨g, j, none⟩ := by
  unfold Addr.add
  by_cases h : j = 0
  · subst h; simp
  · simp [h]
/-- The program's answer at a list that was drawn. -/
theorem pstepD {W : World} {B g c : Nat} {ws : List (List UInt8)} (h : TRow W B (.slice (some ⟨g, 0, none⟩) ws.length c) ws) (hn : ws.length ≤ 1048576) {N : Nat} (hL : Laid3 N W) (hE : NoExit N W) :
    Calls Tryz.prog 25 #[.slice (some ⟨g, 0, none⟩) ws.length c] W fun e W' => ∃ r0, e = .returned (.tuple #[r0, .bool (okS ws)]) ∧ IRow W' W.heap.size r0 (resS ws) ∧ Below W.heap.size W W' := by
  have hg : g < W.heap.size := by
    rcases h.cases with ⟨he, _⟩ | ⟨g', c', he, hb, hl, _⟩
    · cases he
    · have := congrArg Value.ownBlock he
      simp [Value.ownBlock] at this
      omega
  refine pstep8 hn hg (fun j b hj => ?_) hL hE
  have hl := (List.getElem?_eq_some_iff.1 hj).1
  have := h.cell rfl j hl
  rw [hj] at this
  rw [addr_add]
  exact this

theorem okS_at {ws : List (List UInt8)} (h : okS ws = true) {k : Nat} {b : List UInt8} (hb : ws[k]? = some b) : ∃ nd, readP b = some nd := by
  unfold okS at h
  rw [Bool.and_eq_true, List.all_eq_true] at h
  have h1 := h.1 b (List.mem_of_getElem? hb)
  unfold okP at h1
  exact Option.isSome_iff_exists.1 h1
theorem backS_at (ws : List (List UInt8)) : ∀ k, k < ws.length → (backS ws)[k]? = some (headS ws k) := by
  induction ws with
  | nil => intro k hk; simp at hk
  | cons b bs ih =>
    intro k hk
    cases k with
    | zero => rfl
    | succ k =>
      rw [backS, List.getElem?_cons_succ, ih k (by simp at hk; omega)]
      rfl
theorem resS_at {ws : List (List UInt8)} (h : okS ws = true) {k : Nat} (hk : k < ws.length) : (resS ws)[k]? = some ((headS ws k : Nat) : Int) := by
  rw [resS_yes h, List.getElem?_map, backS_at ws k hk]
  rfl

/-- What a round reads: the program, the one behind it, and what is stepped back to. -/
def Rd4 (X : World) (g g1 k : Nat) (t t' : ByteArray) (z z' : Int) : Prop := X.cell? ⟨g, k, none⟩ = some (.string t) ∧ X.cell? ⟨g, k + 1, none⟩ = some (.string t') ∧ X.cell? ⟨g1, k, none⟩ = some (.int .i64 z) ∧ X.cell? ⟨g1, k + 1, none⟩ = some (.int .i64 z')
theorem Rd4.below {X Y : World} {g g1 k : Nat} {t t' : ByteArray} {z z' : Int} (h : Rd4 X g g1 k t t' z z') (hb : Below X.heap.size X Y) : Rd4 Y g g1 k t t' z z' :=
  ⟨(hb.cell (lt_cell h.1)).trans h.1, (hb.cell (lt_cell h.2.1)).trans h.2.1, (hb.cell (lt_cell h.2.2.1)).trans h.2.2.1, (hb.cell (lt_cell h.2.2.2)).trans h.2.2.2⟩
def Rd2 (X : World) (g g1 k : Nat) (t : ByteArray) (z : Int) : Prop := X.cell? ⟨g, k, none⟩ = some (.string t) ∧ X.cell? ⟨g1, k, none⟩ = some (.int .i64 z)
theorem Rd2.below {X Y : World} {g g1 k : Nat} {t : ByteArray} {z : Int} (h : Rd2 X g g1 k t z) (hb : Below X.heap.size X Y) : Rd2 Y g g1 k t z :=
  ⟨(hb.cell (lt_cell h.1)).trans h.1, (hb.cell (lt_cell h.2)).trans h.2⟩

set_option maxHeartbeats 4000000 in
theorem stepback_walk (w : World) (a : Option Addr) (len cap : Nat) (hc : Code w.heap.size w a len cap) (hl : len ≤ 1048576) {N : Nat} (hL : Laid3 N w) (hE : NoExit N w) :
    Calls Tryz.prog 5 #[.slice a len cap] w fun e w' => e = .returned (.bool true) ∧ Below w.heap.size w w' := by
  have l1 : (len : Int) ≤ 1048576 := by omega
  have HC := Lib.hid hc
  clear hc
  go_enter Tryz.func5, Tryz.ntmps5
  go_wp2_with fail
  go_at_call 24
  refine (drawS8 HC.out (Nat.le_refl _)).mono ?_
  rintro e W0 ⟨g, c, ws, hws, hbs, hrow, rfl, hcur⟩
  have hn : ws.length ≤ 1048576 := by omega
  have hP := pstepD hrow hn (hL.below hcur hL.lt) (hE.below hcur hL.lt)
  have HB := Lib.hid hbs
  clear hbs
  go_wp2_with fail
  go_at_call 25
  refine hP.mono ?_
  rintro e W1 ⟨r1, rfl, i1, hb⟩
  replace hrow := hrow.below hb
  replace hcur := hcur.trans (hb.mono hcur.size)
  clear hP hb
  have hM := mstep8 hrow.texts hn (fun b hb => by have := HB.out b hb; omega)
  go_wp2_with fail
  go_at_call 26
  refine hM.mono ?_
  rintro e W2 ⟨r0, rfl, i0, hb⟩
  replace hrow := hrow.below hb
  replace hcur := hcur.trans (hb.mono hcur.size)
  replace i1 := i1.below hb
  clear hM hb
  cases ho : okS ws with
  | false =>
    clear ho
    go_wp2_with (go_at_call 27; refine (same8 i1 i0).mono ?_; rintro e Wk ⟨rfl, hb⟩; replace i1 := i1.below hb; replace i0 := i0.below hb; replace hcur := hcur.trans (hb.mono hcur.size); clear hb)
    go_ret
    exact ⟨rfl, hcur⟩
  | true =>
    have HO := Lib.hid ho
    clear ho
    go_wp2_with (go_at_call 27; refine (same8 i1 i0).mono ?_; rintro e Wk ⟨rfl, hb⟩; replace i1 := i1.below hb; replace hrow := hrow.below hb; replace hcur := hcur.trans (hb.mono hcur.size); clear hb)
    have hRL : (resS ws).length = ws.length := by rw [resS_yes HO.out, List.length_map, backS_len]
    rcases i1.cases with ⟨rfl, h0⟩ | ⟨g1, c1, rfl, _, _, _⟩
    · obtain rfl : ws = [] := List.length_eq_zero_iff.1 (by rw [← hRL, h0]; rfl)
      clear i1 hrow hRL h0
      go_loopw [57] (fun i wr => i = .int .i64 0 ∧ Below w.heap.size w wr) (fun _ _ => 0)
      case atStart => exact ⟨rfl, hcur⟩
      case round =>
        obtain ⟨rfl, hcur2⟩ := hrel
        go_wp2_with fail
        go_ret
        exact ⟨rfl, hcur2⟩
    · have hT : ∀ j b, ws[j]? = some b → Wk.cell? ⟨g, j, none⟩ = some (.string ⟨b.toArray⟩) := fun j b hj => by
        have hl := (List.getElem?_eq_some_iff.1 hj).1
        have := hrow.cell rfl j hl
        rw [hj] at this
        exact this
      have hI : ∀ j, j < ws.length → Wk.cell? ⟨g1, j, none⟩ = some (.int .i64 ((headS ws j : Nat) : Int)) := fun j hj => by
        have := i1.cell j (by rw [hRL]; exact hj)
        rw [resS_at HO.out hj] at this
        exact this
      have HT := Lib.hid hT
      have HI := Lib.hid hI
      rw [hRL]
      clear hT hI i1 hrow
      have hkeep := Below.refl Wk.heap.size Wk
      generalize hm : ws.length = m at *
      have mi : (m : Int) ≤ 10 := by omega
      go_loopw [57] (fun i wr => ∃ k : Nat, k ≤ m ∧ i = .int .i64 (k : Int) ∧ Below Wk.heap.size Wk wr) (fun i _ => m - (intOf i).toNat)
      case atStart => exact ⟨0, by omega, rfl, hkeep⟩
      case round =>
        clear hkeep
        obtain ⟨k, hk, rfl, hkp⟩ := hrel
        by_cases hlt : k < m
        · have hcur2 := hcur.trans (hkp.mono hcur.size)
          obtain ⟨b, hb⟩ : ∃ b, ws[k]? = some b := ⟨_, List.getElem?_eq_getElem (by omega)⟩
          obtain ⟨P, hP⟩ := okS_at HO.out hb
          have q0 := HT.out k b hb
          have z0 := HI.out k hlt
          have hst := headS_step hb
          have hDl := headS_lt ws (k + 1)
          have hki : (k : Int) < (m : Int) := by omega
          by_cases hlt2 : k + 1 < m
          · obtain ⟨b', hb'⟩ : ∃ b', ws[k + 1]? = some b' := ⟨_, List.getElem?_eq_getElem (by omega)⟩
            obtain ⟨Q, hQ⟩ := okS_at HO.out hb'
            have q1 := HT.out (k + 1) b' hb'
            have z1 := HI.out (k + 1) hlt2
            have hki2 : (k : Int) + 1 < (m : Int) := by omega
            have hD2 : canN Q 1 511 ||| headS ws (k + 1) = headS ws (k + 1) := by
              rw [headS_step hb']
              unfold stepN
              rw [hQ]
              dsimp only
              rw [← Nat.or_assoc, Nat.or_self]
            have hst2 : headS ws k = canN P 1 511 ||| canN P 0 (headS ws (k + 1)) := by
              rw [hst]
              unfold stepN
              rw [hP]
            have hR : Rd4 wr g g1 k ⟨b.toArray⟩ ⟨b'.toArray⟩ ((headS ws k : Nat) : Int) ((headS ws (k + 1) : Nat) : Int) := ⟨(hkp.cell (lt_cell q0)).trans q0, (hkp.cell (lt_cell q1)).trans q1, (hkp.cell (lt_cell z0)).trans z0, (hkp.cell (lt_cell z1)).trans z1⟩
            have hPt : readP (⟨b.toArray⟩ : ByteArray).toList = some P := by rw [Lib.toList_data]; exact hP
            have hQt : readP (⟨b'.toArray⟩ : ByteArray).toList = some Q := by rw [Lib.toList_data]; exact hQ
            obtain ⟨okP0, _⟩ := readP_iff.1 hP
            obtain ⟨okQ0, _⟩ := readP_iff.1 hQ
            have hzl := headS_lt ws k
            have hseq := seq_fail okP0 okQ0 hD2
            rw [← hst2] at hseq
            clear q0 q1 z0 z1 hP hQ hst hb hb' hD2
            generalize (⟨b.toArray⟩ : ByteArray) = t at hR hPt
            generalize (⟨b'.toArray⟩ : ByteArray) = t' at hR hQt
            generalize headS ws (k + 1) = D at hR hDl hst2
            generalize headS ws k = z at hR hst2 hseq hzl
            have hor := or_nat (canN P 1 511) (canN P 0 D) (by have := canN_lt P 1 511; omega) (by have := canN_lt P 0 D; omega)
            rw [← hst2] at hor
            clear hst2
            have cF := fun (X : World) (hX : Below w.heap.size w X) => pfails t X (hL.below hX hL.lt) (hE.below hX hL.lt)
            have cC := fun (X : World) (hX : Below w.heap.size w X) => pcan t (D : Int) 0 X (hL.below hX hL.lt) (hE.below hX hL.lt)
            have cS := fun (X : World) (hX : Below w.heap.size w X) => pseq26 t t' X (hL.below hX hL.lt)
            have eF : canZ t 511 1 = ((canN P 1 511 : Nat) : Int) := canZ_ok hPt (m := 511) (by omega) (.inr rfl)
            have eC : canZ t (D : Int) 0 = ((canN P 0 D : Nat) : Int) := canZ_ok hPt hDl (.inl rfl)
            simp only [eF] at cF
            simp only [eC] at cC
            unfold madeV at cS
            cases hok : madeOk (pairTx 59 t t') [t, t'] with
            | true =>
              have hip : isP (pairTx 59 t t').toList = true := by
                rw [madeOk_two, Bool.and_eq_true] at hok
                exact hok.2
              have hPair := seq_read hPt hQt hip
              simp only [hok, if_true] at cS
              have cG := fun (X : World) (hX : Below w.heap.size w X) => pfails (pairTx 59 t t') X (hL.below hX hL.lt) (hE.below hX hL.lt)
              have eG : canZ (pairTx 59 t t') 511 1 = ((canN (.pair 59 P Q) 1 511 : Nat) : Int) := canZ_ok hPair (m := 511) (by omega) (.inr rfl)
              simp only [eG] at cG
              have hwi := fun X => wi21 ((canN (.pair 59 P Q) 1 511 : Nat) : Int) (z : Int) X
              rw [within_or (canN_lt _ _ _) hzl hseq] at hwi
              clear hok hip hPair eF eC eG hseq hPt hQt okP0 okQ0
              generalize reachB (pairTx 59 t t') 511 1 = rb2 at cG
              generalize pairTx 59 t t' = s at cS cG
              generalize canN (.pair 59 P Q) 1 511 = G at cG hwi
              generalize reachB t 511 1 = rb0 at cF
              generalize reachB t (D : Int) 0 = rb1 at cC
              generalize canN P 1 511 = F at cF hor
              generalize canN P 0 D = C at cC hor
              have hR2 := hR
              obtain ⟨r0, r1, r2, r3⟩ := hR2
              go_wp2_with (first
              | (go_at_call_of 28 (Value.string t); refine (cF _ hcur2).mono ?_; rintro e X1 ⟨rfl, hb⟩; replace hcur2 := hcur2.trans (hb.mono hcur2.size); replace hkp := hkp.trans (hb.mono hkp.size); replace hR := hR.below hb; have hR2 := hR; obtain ⟨r0, r1, r2, r3⟩ := hR2; clear hb)
              | (go_at_call 29; refine (cC _ hcur2).mono ?_; rintro e X1 ⟨rfl, hb⟩; replace hcur2 := hcur2.trans (hb.mono hcur2.size); replace hkp := hkp.trans (hb.mono hkp.size); replace hR := hR.below hb; have hR2 := hR; obtain ⟨r0, r1, r2, r3⟩ := hR2; clear hb)
              | (go_at_call 30; refine (cS _ hcur2).mono ?_; rintro e X1 ⟨rfl, hb⟩; replace hcur2 := hcur2.trans (hb.mono hcur2.size); replace hkp := hkp.trans (hb.mono hkp.size); replace hR := hR.below hb; have hR2 := hR; obtain ⟨r0, r1, r2, r3⟩ := hR2; clear hb)
              | (go_at_call 28; refine (cG _ hcur2).mono ?_; rintro e X1 ⟨rfl, hb⟩; replace hcur2 := hcur2.trans (hb.mono hcur2.size); replace hkp := hkp.trans (hb.mono hkp.size); replace hR := hR.below hb; have hR2 := hR; obtain ⟨r0, r1, r2, r3⟩ := hR2; clear hb)
              | (go_at_call 22; refine (hwi _).mono ?_; rintro e X1 ⟨rfl, rfl⟩))
              go_roundw
              case rel => exact ⟨k + 1, by omega, by go_num, hkp⟩
              case measure => (simp [intOf] <;> omega)
            | false =>
              simp only [hok, if_neg Bool.false_ne_true] at cS
              have cG := fun (X : World) (hX : Below w.heap.size w X) => pfails ⟨#[]⟩ X (hL.below hX hL.lt) (hE.below hX hL.lt)
              clear hok eF eC hseq okP0 okQ0 hPt hQt
              generalize reachB ⟨#[]⟩ 511 1 = rb2 at cG
              generalize canZ ⟨#[]⟩ 511 1 = G at cG
              have hwi := fun X => wi21 G (z : Int) X
              generalize reachB t 511 1 = rb0 at cF
              generalize reachB t (D : Int) 0 = rb1 at cC
              generalize canN P 1 511 = F at cF hor
              generalize canN P 0 D = C at cC hor
              have hR2 := hR
              obtain ⟨r0, r1, r2, r3⟩ := hR2
              go_wp2_with (first
              | (go_at_call_of 28 (Value.string t); refine (cF _ hcur2).mono ?_; rintro e X1 ⟨rfl, hb⟩; replace hcur2 := hcur2.trans (hb.mono hcur2.size); replace hkp := hkp.trans (hb.mono hkp.size); replace hR := hR.below hb; have hR2 := hR; obtain ⟨r0, r1, r2, r3⟩ := hR2; clear hb)
              | (go_at_call 29; refine (cC _ hcur2).mono ?_; rintro e X1 ⟨rfl, hb⟩; replace hcur2 := hcur2.trans (hb.mono hcur2.size); replace hkp := hkp.trans (hb.mono hkp.size); replace hR := hR.below hb; have hR2 := hR; obtain ⟨r0, r1, r2, r3⟩ := hR2; clear hb)
              | (go_at_call 30; refine (cS _ hcur2).mono ?_; rintro e X1 ⟨rfl, hb⟩; replace hcur2 := hcur2.trans (hb.mono hcur2.size); replace hkp := hkp.trans (hb.mono hkp.size); replace hR := hR.below hb; have hR2 := hR; obtain ⟨r0, r1, r2, r3⟩ := hR2; clear hb)
              | (go_at_call 28; refine (cG _ hcur2).mono ?_; rintro e X1 ⟨rfl, hb⟩; replace hcur2 := hcur2.trans (hb.mono hcur2.size); replace hkp := hkp.trans (hb.mono hkp.size); replace hR := hR.below hb; have hR2 := hR; obtain ⟨r0, r1, r2, r3⟩ := hR2; clear hb)
              | (go_at_call 22; refine (hwi _).mono ?_; rintro e X1 ⟨rfl, rfl⟩))
              go_roundw
              case rel => exact ⟨k + 1, by omega, by go_num, hkp⟩
              case measure => (simp [intOf] <;> omega)
          · have hki2 : ¬ ((k : Int) + 1 < (m : Int)) := by omega
            have hD0 : headS ws (k + 1) = 0 := by rw [show k + 1 = ws.length by omega]; exact headS_full ws
            have hst2 : headS ws k = canN P 1 511 ||| canN P 0 0 := by
              rw [hst, hD0]
              unfold stepN
              rw [hP]
            have hR : Rd2 wr g g1 k ⟨b.toArray⟩ ((headS ws k : Nat) : Int) := ⟨(hkp.cell (lt_cell q0)).trans q0, (hkp.cell (lt_cell z0)).trans z0⟩
            have hPt : readP (⟨b.toArray⟩ : ByteArray).toList = some P := by rw [Lib.toList_data]; exact hP
            clear q0 z0 hP hst hb hD0 hDl
            generalize (⟨b.toArray⟩ : ByteArray) = t at hR hPt
            generalize headS ws k = z at hR hst2
            have hor := or_nat (canN P 1 511) (canN P 0 0) (by have := canN_lt P 1 511; omega) (by have := canN_lt P 0 0; omega)
            rw [← hst2] at hor
            clear hst2
            have cF := fun (X : World) (hX : Below w.heap.size w X) => pfails t X (hL.below hX hL.lt) (hE.below hX hL.lt)
            have cC := fun (X : World) (hX : Below w.heap.size w X) => pcan t 0 0 X (hL.below hX hL.lt) (hE.below hX hL.lt)
            have eF : canZ t 511 1 = ((canN P 1 511 : Nat) : Int) := canZ_ok hPt (m := 511) (by omega) (.inr rfl)
            have eC : canZ t 0 0 = ((canN P 0 0 : Nat) : Int) := canZ_ok hPt (m := 0) (by omega) (.inl rfl)
            simp only [eF] at cF
            simp only [eC] at cC
            clear eF eC hPt
            generalize reachB t 511 1 = rb0 at cF
            generalize reachB t 0 0 = rb1 at cC
            generalize canN P 1 511 = F at cF hor
            generalize canN P 0 0 = C at cC hor
            have hR2 := hR
            obtain ⟨r0, r2⟩ := hR2
            go_wp2_with (first
              | (go_at_call_of 28 (Value.string t); refine (cF _ hcur2).mono ?_; rintro e X1 ⟨rfl, hb⟩; replace hcur2 := hcur2.trans (hb.mono hcur2.size); replace hkp := hkp.trans (hb.mono hkp.size); replace hR := hR.below hb; have hR2 := hR; obtain ⟨r0, r2⟩ := hR2; clear hb)
              | (go_at_call 29; refine (cC _ hcur2).mono ?_; rintro e X1 ⟨rfl, hb⟩; replace hcur2 := hcur2.trans (hb.mono hcur2.size); replace hkp := hkp.trans (hb.mono hkp.size); replace hR := hR.below hb; have hR2 := hR; obtain ⟨r0, r2⟩ := hR2; clear hb))
            go_roundw
            case rel => exact ⟨k + 1, by omega, by go_num, hkp⟩
            case measure => (simp [intOf] <;> omega)
        · obtain rfl : k = m := by omega
          have hcur2 := hcur.trans (hkp.mono hcur.size)
          go_wp2_with fail
          go_ret
          exact ⟨rfl, hcur2⟩
theorem long_FnStepBack (w : World) (a : Option Addr) (len cap : Nat) (h : 1048576 < len) :
    Calls Tryz.prog 5 #[.slice a len cap] w fun e w' => e = .returned (.bool true) ∧ Below w.heap.size w w' := by
  have h1 : (1048576 : Int) < (len : Int) := by omega
  go_enter Tryz.func5, Tryz.ntmps5
  go_wp2
  go_ret
  exact ⟨rfl, Below.refl _ _⟩
theorem walkFnStepBack (a0 : Option Addr) (len0 cap0 : Nat) (z0 : List Int) (w : World) (w0 : IsRow .u8 w a0 len0 cap0 z0) {N : Nat} (hL : Laid3 N w) (hE : NoExit N w) :
    Calls Tryz.prog 5 #[.slice a0 len0 cap0] w fun e w' => e = .returned (.bool true) ∧ Below w.heap.size w w' := by
  by_cases h : len0 ≤ 1048576
  · exact stepback_walk w a0 len0 cap0 (Code.ofRow w0) h hL hE
  · exact long_FnStepBack w a0 len0 cap0 (by omega)
end Go.Proofs.YtngcdgnijfiocaaGreatDoor
