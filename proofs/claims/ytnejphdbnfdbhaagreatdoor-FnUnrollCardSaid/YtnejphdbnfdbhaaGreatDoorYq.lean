/- Chapter 9: what is drawn for the laws. Chapter 9, plain words: when all is reached, what more times reach, what unrolled programs are. Chapter 9: the walk of the law on programs unrolled. A tied card whose call can start goroutines somewhere among what it might reach: the cell 'goes' set. -/
import Derived.Test.YtnejphdbnfdbhaaGreatDoorDR
import Derived.Test.YtnejphdbnfdbhaaGreatDoorYf
import Derived.Test.YtnejphdbnfdbhaaGreatDoorYh
import Derived.Test.YtnejphdbnfdbhaaGreatDoorYc
import Derived.Test.YtnejphdbnfdbhaaGreatDoorNC
import Derived.Test.YtnejphdbnfdbhaaGreatDoorTree
import Derived.SevenTiedAt
import Derived.Conc.Holds
import Derived.Leaving
namespace Go.Proofs.YtnejphdbnfdbhaaGreatDoor
open Go.ChangeShapes Go.WideShapes Go.ChangeAt Go.RowKit Go.Shelf
set_option maxRecDepth 100000
attribute [local go_sem] Oper.semAt_some

theorem times24 {B : Nat} {W : World} {rb k : Nat} (h : Rd B W rb k) (hk : k ≤ 900000) :
    Calls Tryz.prog 36 #[.pointer (some ⟨rb, 0, none⟩)] W (Ran B rb (k + 1) W) := by
  go_enter Tryz.func36, Tryz.ntmps36
  go_wp2_with fail
  go_at_call 68
  refine Calls.mono (num38new h (by omega) _ 9 ?_ (by omega) (by omega) ?_) ?_
  · rfl
  · intro v hv
    simp only [List.mem_cons, List.not_mem_nil, or_false] at hv
    rcases hv with rfl | rfl | rfl | rfl | rfl | rfl | rfl | rfl | rfl <;> exact ⟨_, rfl⟩
  rintro e W7 ⟨z, rfl, h7, g7⟩
  go_wp2
  go_ret
  exact ⟨z, rfl, ⟨_, by omega, h7⟩, g7⟩
theorem drawRI {B : Nat} {W : World} {a : Option Addr} {len cap : Nat} (h : Code B W a len cap) (hB : B ≤ W.heap.size) :
    Calls Tryz.prog 7 #[.slice a len cap] W fun e W' => ∃ (p : ByteArray) (s x k : Int), p.size ≤ 130 ∧ e = .returned (.tuple #[.string p, .int .i64 s, .int .i64 x, .int .i64 k]) ∧ Below W.heap.size W W' := by
  go_enter Tryz.func7, Tryz.ntmps7
  go_wp2_with fail
  go_at_call 32
  refine (open33 h hB).mono ?_
  rintro e W1 ⟨rfl, h1, b1, _⟩
  go_wp2_with fail
  go_at_call 33
  refine (any38 h1 (by omega)).mono ?_
  rintro e W2 ⟨p, hp, rfl, ⟨j, hj, h2⟩, g2⟩
  go_wp2_with fail
  go_at_call 34
  refine (draw32 h2 (by omega)).mono ?_
  rintro e W3 ⟨s, rfl, ⟨j3, hj3, h3⟩, g3⟩
  go_wp2_with fail
  go_at_call 35
  refine (exit24 h3 (by omega)).mono ?_
  rintro e W4 ⟨x, rfl, ⟨j4, hj4, h4⟩, g4⟩
  go_wp2_with fail
  go_at_call 36
  refine (times24 h4 (by omega)).mono ?_
  rintro e W5 ⟨k, rfl, _, g5⟩
  go_wp2_with fail
  refine bodyPost_ret (v := .tuple #[.string p, .int .i64 s, .int .i64 x, .int .i64 k]) (by simp [results, Tryz.results7, go_sem]) rfl ?_
  exact ⟨p, s, x, k, hp.2, rfl, (((b1.trans g2).trans g3).trans g4).trans g5⟩
theorem drawUn {B : Nat} {W : World} {a : Option Addr} {len cap : Nat} (h : Code B W a len cap) (hB : B ≤ W.heap.size) :
    Calls Tryz.prog 14 #[.slice a len cap] W fun e W' => ∃ (p : ByteArray) (k : Int), p.size ≤ 130 ∧ e = .returned (.tuple #[.string p, .int .i64 k]) ∧ Below W.heap.size W W' := by
  go_enter Tryz.func14, Tryz.ntmps14
  go_wp2_with fail
  go_at_call 32
  refine (open33 h hB).mono ?_
  rintro e W1 ⟨rfl, h1, b1, _⟩
  go_wp2_with fail
  go_at_call 33
  refine (any38 h1 (by omega)).mono ?_
  rintro e W2 ⟨p, hp, rfl, ⟨j, hj, h2⟩, g2⟩
  go_wp2_with fail
  go_at_call 36
  refine (times24 h2 (by omega)).mono ?_
  rintro e W3 ⟨k, rfl, _, g3⟩
  go_wp2_with fail
  refine bodyPost_ret (v := .tuple #[.string p, .int .i64 k]) (by simp [results, Tryz.results14, go_sem]) rfl ?_
  exact ⟨p, k, hp.2, rfl, (b1.trans g2).trans g3⟩
end Go.Proofs.YtnejphdbnfdbhaaGreatDoor

namespace Go.Proofs.YtnejphdbnfdbhaaGreatDoor
open Go.ChangeShapes Go.WideShapes Go.ChangeAt Go.RowKit Go.Shelf
set_option maxRecDepth 100000

theorem least_is {f : Nat → Bool} : ∀ (n s t : Nat), s ≤ t → t ≤ s + n → f t = true → f (leastT f n s) = true ∧ leastT f n s ≤ t ∧ ∀ j, s ≤ j → j < leastT f n s → f j = false
  | 0, s, t, h1, h2, h3 => by
    obtain rfl : s = t := by omega
    exact ⟨h3, Nat.le_refl _, fun j ha hb => absurd hb (by show ¬ j < s; omega)⟩
  | n + 1, s, t, h1, h2, h3 => by
    unfold leastT
    by_cases e : f s = true
    · rw [if_pos e]
      exact ⟨e, h1, fun j ha hb => absurd hb (by omega)⟩
    · rw [if_neg e]
      have hne : s ≠ t := fun h => e (by rw [h]; exact h3)
      obtain ⟨k1, k2, k3⟩ := least_is n (s + 1) t (by omega) (by omega) h3
      refine ⟨k1, k2, fun j ha hb => ?_⟩
      by_cases hj : j = s
      · rw [hj]; exact Bool.eq_false_iff.2 e
      · exact k3 j (by omega) hb
theorem exitT_lt {nd : Node} (hok : nd.ok) {m : Nat} (hm : m < 512) (x : Int) (T : Nat) : exitN x (runT T nd m) < 512 := by
  unfold exitN; split <;> first | exact (runT_lt T nd hok m hm).2 | exact (runT_lt T nd hok m hm).1
theorem exitR_lt {nd : Node} (hok : nd.ok) {m : Nat} (hm : m < 512) (x : Int) : exitN x (runR nd m) < 512 := by
  unfold exitN; split <;> first | exact (run_lt nd hok m hm).2 | exact (run_lt nd hok m hm).1
/-- All is reached from so many times on, and not before. -/
theorem all_from {nd : Node} (hok : nd.ok) {m : Nat} (hm : m < 512) (x : Int) (T : Nat) : exitN x (runT T nd m) = exitN x (runR nd m) ↔ forN nd x m ≤ T := by
  obtain ⟨h1, h2, h3⟩ := least_is (f := allAt nd x m) 12 0 12 (Nat.zero_le _) (by omega) (all_twelve hok x hm)
  change allAt nd x m (forN nd x m) = true at h1
  change ∀ j, 0 ≤ j → j < forN nd x m → allAt nd x m j = false at h3
  constructor
  · intro h
    rcases Nat.lt_or_ge T (forN nd x m) with hlt | hge
    · have := h3 T (Nat.zero_le _) hlt
      rw [show allAt nd x m T = true from decide_eq_true h] at this
      cases this
    · exact hge
  · intro h
    obtain ⟨d, rfl⟩ : ∃ d, T = forN nd x m + d := ⟨T - forN nd x m, by omega⟩
    have e1 : exitN x (runT (forN nd x m) nd m) = exitN x (runR nd m) := of_decide_eq_true h1
    have a1 := exit_in (runT_more (forN nd x m) d nd m) x
    have a2 := exit_in (runT_within (forN nd x m + d) hok hm) x
    rw [e1] at a1
    rw [Nat.or_comm] at a1
    exact a1.symm.trans a2
theorem isP_unr {nd : Node} (h : nd.ok) (k : Nat) (hl : (unrN k nd).text.length ≤ 60) : isP (unrN k nd).text = true ∧ loopsP (unrN k nd).text = 0 := by
  have hr := unr_read h k hl
  unfold isP loopsP
  rw [hr]
  refine ⟨rfl, ?_⟩
  dsimp only
  rw [unr_loops]
  rfl
theorem unroll_yes {t : ByteArray} {k : Int} (h : unrollOk t k = true) : ∃ nd T, readP t.toList = some nd ∧ T ≤ 12 ∧ k = ((T : Nat) : Int) ∧ (unrN T nd).text.length ≤ 60 ∧ unrollT t k = (unrN T nd).text := by
  cases hP : readP t.toList with
  | none => rw [unroll_bad (.inl hP)] at h; cases h
  | some nd =>
    cases hK : isK k with
    | false => rw [unroll_bad (.inr hK)] at h; cases h
    | true =>
      have hb := of_decide_eq_true hK
      have e : k = ((k.toNat : Nat) : Int) := by omega
      have h2 : (unrN k.toNat nd).text.length ≤ 60 := by
        unfold unrollOk at h
        rw [hP, hK] at h
        exact of_decide_eq_true h
      refine ⟨nd, k.toNat, rfl, by omega, e, h2, ?_⟩
      unfold unrollT
      rw [hP, hK]
      dsimp only
      rw [decide_eq_true h2]
      rfl
end Go.Proofs.YtnejphdbnfdbhaaGreatDoor

namespace Go.Proofs.YtnejphdbnfdbhaaGreatDoor
open Go.ChangeShapes Go.WideShapes Go.ChangeAt Go.RowKit Go.Shelf
attribute [local go_sem] Oper.semAt_some
set_option maxRecDepth 100000

set_option maxHeartbeats 4000000 in
theorem unroll_walk (w : World) (a : Option Addr) (len cap : Nat) (hc : Code w.heap.size w a len cap) (hl : len ≤ 1048576) {N : Nat} (hL : Laid3 N w) :
    Calls Tryz.prog 4 #[.slice a len cap] w fun e w' => e = .returned (.bool true) ∧ Below w.heap.size w w' := by
  have l1 : (len : Int) ≤ 1048576 := by omega
  have HC := Lib.hid hc
  clear hc
  go_enter Tryz.func4, Tryz.ntmps4
  go_wp2_with fail
  go_at_call 14
  refine (drawUn HC.out (Nat.le_refl _)).mono ?_
  rintro e W0 ⟨t, k, ht, rfl, hcur⟩
  have cU := fun (X : World) (hX : Below w.heap.size w X) => punroll t k X (hL.below hX hL.lt)
  have cC := fun (X : World) (hX : Below w.heap.size w X) => pcut t X (hL.below hX hL.lt)
  have mU := fun (X : World) => munroll' t (by omega) k X
  have mC := fun (X : World) => mcut t (by omega) X
  have cL := fun (u : ByteArray) (X : World) (hX : Below w.heap.size w X) => ploops24 u X (hL.below hX hL.lt)
  have cV := fun (u : ByteArray) (X : World) (hX : Below w.heap.size w X) => pvalid20 u X (hL.below hX hL.lt)
  have cLc : unrollOk t 0 = true → ∀ X, Below w.heap.size w X → Calls Tryz.prog 19 #[.string ⟨(unrollT t 0).toArray⟩] X fun e w' => e = .returned (.int .i64 0) ∧ Below X.heap.size X w' := fun h X hX => by
    obtain ⟨nd, T, hP, hT, hk, hl60, htx⟩ := unroll_yes h
    have := cL ⟨(unrollT t 0).toArray⟩ X hX
    rw [Lib.toList_data, htx, (isP_unr (readP_iff.1 hP).1 T hl60).2] at this
    rw [htx]
    exact this
  generalize unrollOk t 0 = fine at cC mC cLc
  generalize (⟨(unrollT t 0).toArray⟩ : ByteArray) = cut at cC mC cLc
  cases hb : unrollOk t k with
  | false =>
    simp only [hb, unroll_no hb] at cU mU
    clear hb
    cases fine with
    | false =>
      go_wp2_with (first
        | (go_at_call 15; refine (cU _ hcur).mono ?_; rintro e Wk ⟨rfl, hb⟩; replace hcur := hcur.trans (hb.mono hcur.size); clear hb)
        | (go_at_call 16; refine (mU _).mono ?_; rintro e Wk ⟨rfl, hb⟩; replace hcur := hcur.trans (hb.mono hcur.size); clear hb)
        | (go_at_call 17; refine (cC _ hcur).mono ?_; rintro e Wk ⟨rfl, hb⟩; replace hcur := hcur.trans (hb.mono hcur.size); clear hb)
        | (go_at_call 18; refine (mC _).mono ?_; rintro e Wk ⟨rfl, hb⟩; replace hcur := hcur.trans (hb.mono hcur.size); clear hb))
      go_ret
      exact ⟨rfl, hcur⟩
    | true =>
      have cL0 := cLc rfl
      go_wp2_with (first
        | (go_at_call 15; refine (cU _ hcur).mono ?_; rintro e Wk ⟨rfl, hb⟩; replace hcur := hcur.trans (hb.mono hcur.size); clear hb)
        | (go_at_call 16; refine (mU _).mono ?_; rintro e Wk ⟨rfl, hb⟩; replace hcur := hcur.trans (hb.mono hcur.size); clear hb)
        | (go_at_call 17; refine (cC _ hcur).mono ?_; rintro e Wk ⟨rfl, hb⟩; replace hcur := hcur.trans (hb.mono hcur.size); clear hb)
        | (go_at_call 18; refine (mC _).mono ?_; rintro e Wk ⟨rfl, hb⟩; replace hcur := hcur.trans (hb.mono hcur.size); clear hb)
        | (go_at_call 19; refine (cL0 _ hcur).mono ?_; rintro e Wk ⟨rfl, hb⟩; replace hcur := hcur.trans (hb.mono hcur.size); clear hb))
      go_ret
      exact ⟨rfl, hcur⟩
  | true =>
    obtain ⟨nd, T, hP, hT, rfl, hl60, htx⟩ := unroll_yes hb
    simp only [hb, htx] at cU mU
    obtain ⟨hok, _⟩ := readP_iff.1 hP
    have hrq : readP (⟨(unrN T nd).text.toArray⟩ : ByteArray).toList = some (unrN T nd) := by rw [Lib.toList_data]; exact unr_read hok T hl60
    have hpq := isP_unr hok T hl60
    have cLq : ∀ X, Below w.heap.size w X → Calls Tryz.prog 19 #[.string ⟨(unrN T nd).text.toArray⟩] X fun e w' => e = .returned (.int .i64 0) ∧ Below X.heap.size X w' := fun X hX => by
      have := cL ⟨(unrN T nd).text.toArray⟩ X hX
      rwa [Lib.toList_data, hpq.2] at this
    have cVq : ∀ X, Below w.heap.size w X → Calls Tryz.prog 20 #[.string ⟨(unrN T nd).text.toArray⟩] X fun e w' => e = .returned (.bool true) ∧ Below X.heap.size X w' := fun X hX => by
      have := cV ⟨(unrN T nd).text.toArray⟩ X hX
      rwa [Lib.toList_data, hpq.1] at this
    have cQ : ∀ s, s < 9 → ∀ x : Int, (x = 0 ∨ x = 1) → ∀ X, Below w.heap.size w X → Calls Tryz.prog 12 #[.string ⟨(unrN T nd).text.toArray⟩, .int .i64 ((2 ^ s : Nat) : Int), .int .i64 x] X fun e w' => e = .returned (.tuple #[.int .i64 ((exitN x (runT T nd (2 ^ s)) : Nat) : Int), .bool true]) ∧ Below X.heap.size X w' := fun s hs x hx X hX => by
      have := preach10 ⟨(unrN T nd).text.toArray⟩ ((2 ^ s : Nat) : Int) x X (hL.below hX hL.lt)
      rwa [(reach_ok hrq (pow9 hs) hx).1, (reach_ok hrq (pow9 hs) hx).2, unr_run] at this
    have cI : ∀ s, s < 9 → ∀ x : Int, (x = 0 ∨ x = 1) → ∀ X, Below w.heap.size w X → Calls Tryz.prog 8 #[.string t, .int .i64 ((2 ^ s : Nat) : Int), .int .i64 x, .int .i64 (T : Int)] X fun e w' => e = .returned (.tuple #[.int .i64 ((exitN x (runT T nd (2 ^ s)) : Nat) : Int), .bool true]) ∧ Below X.heap.size X w' := fun s hs x hx X hX => by
      have := pin t ((2 ^ s : Nat) : Int) x (T : Int) X (hL.below hX hL.lt)
      rwa [(min_yes hP (pow9 hs) hx hT).1, (min_yes hP (pow9 hs) hx hT).2] at this
    have hT0 : (0 : Int) ≤ (T : Int) := by omega
    have hT12 : (T : Int) ≤ 12 := by omega
    clear hrq hpq cL cV hP hb htx hl60
    generalize (⟨(unrN T nd).text.toArray⟩ : ByteArray) = q at cU mU cLq cVq cQ
    cases fine with
    | false =>
      go_wp2_with (first
        | (go_at_call 15; refine (cU _ hcur).mono ?_; rintro e Wk ⟨rfl, hb⟩; replace hcur := hcur.trans (hb.mono hcur.size); clear hb)
        | (go_at_call 16; refine (mU _).mono ?_; rintro e Wk ⟨rfl, hb⟩; replace hcur := hcur.trans (hb.mono hcur.size); clear hb)
        | (go_at_call 17; refine (cC _ hcur).mono ?_; rintro e Wk ⟨rfl, hb⟩; replace hcur := hcur.trans (hb.mono hcur.size); clear hb)
        | (go_at_call 18; refine (mC _).mono ?_; rintro e Wk ⟨rfl, hb⟩; replace hcur := hcur.trans (hb.mono hcur.size); clear hb))
      go_loopw [77] (fun i wr => ∃ x : Nat, x ≤ 2 ∧ i = .int .i64 (x : Int) ∧ Below w.heap.size w wr) (fun i _ => 2 - (intOf i).toNat)
      case atStart => exact ⟨0, by omega, rfl, hcur⟩
      case round =>
        obtain ⟨x, hx2, rfl, hcurO⟩ := hrel
        by_cases hxl : x < 2
        · have hx2i : (x : Int) < 2 := by omega
          have hx01 : (x : Int) = 0 ∨ (x : Int) = 1 := by omega
          go_wp2_with fail
          go_loopw [80] (fun i wr => ∃ s : Nat, s ≤ 9 ∧ i = .int .i64 (s : Int) ∧ Below w.heap.size w wr) (fun i _ => 9 - (intOf i).toNat)
          case atStart => exact ⟨0, by omega, rfl, hcurO⟩
          case round =>
            obtain ⟨s, hs9, rfl, hcurI⟩ := hrel
            by_cases hsl : s < 9
            · have hs8 : (s : Int) < 9 := by omega
              have hs0 : (0 : Int) ≤ (s : Int) := by omega
              have hsh := shl_state (n := s) (by omega)
              have c1 := cQ s hsl (x : Int) hx01
              have c2 := cI s hsl (x : Int) hx01
              generalize exitN (x : Int) (runT T nd (2 ^ s)) = z at c1 c2
              generalize (2 : Nat) ^ s = pw at hsh c1 c2
              go_wp2_with (first
                | (go_at_call 12; refine (c1 _ hcurI).mono ?_; rintro e Wk ⟨rfl, hb⟩; replace hcurI := hcurI.trans (hb.mono hcurI.size); clear hb)
                | (go_at_call 8; refine (c2 _ hcurI).mono ?_; rintro e Wk ⟨rfl, hb⟩; replace hcurI := hcurI.trans (hb.mono hcurI.size); clear hb))
              go_roundw
              case rel => exact ⟨s + 1, by omega, by go_num, hcurI⟩
              case measure => (simp [intOf] <;> omega)
            · obtain rfl : s = 9 := by omega
              go_wp2_with fail
              go_roundw
              case rel => exact ⟨x + 1, by omega, by go_num, hcurI⟩
              case measure => (simp [intOf] <;> omega)
        · obtain rfl : x = 2 := by omega
          go_wp2_with (first
            | (go_at_call 19; refine (cLq _ hcurO).mono ?_; rintro e Wk ⟨rfl, hb⟩; replace hcurO := hcurO.trans (hb.mono hcurO.size); clear hb)
            | (go_at_call 20; refine (cVq _ hcurO).mono ?_; rintro e Wk ⟨rfl, hb⟩; replace hcurO := hcurO.trans (hb.mono hcurO.size); clear hb))
          go_ret
          exact ⟨rfl, hcurO⟩
    | true =>
      have cL0 := cLc rfl
      go_wp2_with (first
        | (go_at_call 15; refine (cU _ hcur).mono ?_; rintro e Wk ⟨rfl, hb⟩; replace hcur := hcur.trans (hb.mono hcur.size); clear hb)
        | (go_at_call 16; refine (mU _).mono ?_; rintro e Wk ⟨rfl, hb⟩; replace hcur := hcur.trans (hb.mono hcur.size); clear hb)
        | (go_at_call 17; refine (cC _ hcur).mono ?_; rintro e Wk ⟨rfl, hb⟩; replace hcur := hcur.trans (hb.mono hcur.size); clear hb)
        | (go_at_call 18; refine (mC _).mono ?_; rintro e Wk ⟨rfl, hb⟩; replace hcur := hcur.trans (hb.mono hcur.size); clear hb)
        | (go_at_call 19; refine (cL0 _ hcur).mono ?_; rintro e Wk ⟨rfl, hb⟩; replace hcur := hcur.trans (hb.mono hcur.size); clear hb))
      go_loopw [77] (fun i wr => ∃ x : Nat, x ≤ 2 ∧ i = .int .i64 (x : Int) ∧ Below w.heap.size w wr) (fun i _ => 2 - (intOf i).toNat)
      case atStart => exact ⟨0, by omega, rfl, hcur⟩
      case round =>
        obtain ⟨x, hx2, rfl, hcurO⟩ := hrel
        by_cases hxl : x < 2
        · have hx2i : (x : Int) < 2 := by omega
          have hx01 : (x : Int) = 0 ∨ (x : Int) = 1 := by omega
          go_wp2_with fail
          go_loopw [80] (fun i wr => ∃ s : Nat, s ≤ 9 ∧ i = .int .i64 (s : Int) ∧ Below w.heap.size w wr) (fun i _ => 9 - (intOf i).toNat)
          case atStart => exact ⟨0, by omega, rfl, hcurO⟩
          case round =>
            obtain ⟨s, hs9, rfl, hcurI⟩ := hrel
            by_cases hsl : s < 9
            · have hs8 : (s : Int) < 9 := by omega
              have hs0 : (0 : Int) ≤ (s : Int) := by omega
              have hsh := shl_state (n := s) (by omega)
              have c1 := cQ s hsl (x : Int) hx01
              have c2 := cI s hsl (x : Int) hx01
              generalize exitN (x : Int) (runT T nd (2 ^ s)) = z at c1 c2
              generalize (2 : Nat) ^ s = pw at hsh c1 c2
              go_wp2_with (first
                | (go_at_call 12; refine (c1 _ hcurI).mono ?_; rintro e Wk ⟨rfl, hb⟩; replace hcurI := hcurI.trans (hb.mono hcurI.size); clear hb)
                | (go_at_call 8; refine (c2 _ hcurI).mono ?_; rintro e Wk ⟨rfl, hb⟩; replace hcurI := hcurI.trans (hb.mono hcurI.size); clear hb))
              go_roundw
              case rel => exact ⟨s + 1, by omega, by go_num, hcurI⟩
              case measure => (simp [intOf] <;> omega)
            · obtain rfl : s = 9 := by omega
              go_wp2_with fail
              go_roundw
              case rel => exact ⟨x + 1, by omega, by go_num, hcurI⟩
              case measure => (simp [intOf] <;> omega)
        · obtain rfl : x = 2 := by omega
          go_wp2_with (first
            | (go_at_call 19; refine (cLq _ hcurO).mono ?_; rintro e Wk ⟨rfl, hb⟩; replace hcurO := hcurO.trans (hb.mono hcurO.size); clear hb)
            | (go_at_call 20; refine (cVq _ hcurO).mono ?_; rintro e Wk ⟨rfl, hb⟩; replace hcurO := hcurO.trans (hb.mono hcurO.size); clear hb))
          go_ret
          exact ⟨rfl, hcurO⟩
theorem long_FnUnroll (w : World) (a : Option Addr) (len cap : Nat) (h : 1048576 < len) :
    Calls Tryz.prog 4 #[.slice a len cap] w fun e w' => e = .returned (.bool true) ∧ Below w.heap.size w w' := by
  have h1 : (1048576 : Int) < (len : Int) := by omega
  go_enter Tryz.func4, Tryz.ntmps4
  go_wp2
  go_ret
  exact ⟨rfl, Below.refl _ _⟩
theorem walkFnUnroll (a0 : Option Addr) (len0 cap0 : Nat) (z0 : List Int) (w : World) (w0 : IsRow .u8 w a0 len0 cap0 z0) {N : Nat} (hL : Laid3 N w) :
    Calls Tryz.prog 4 #[.slice a0 len0 cap0] w fun e w' => e = .returned (.bool true) ∧ Below w.heap.size w w' := by
  by_cases h : len0 ≤ 1048576
  · exact unroll_walk w a0 len0 cap0 (Code.ofRow w0) h hL
  · exact long_FnUnroll w a0 len0 cap0 (by omega)
end Go.Proofs.YtnejphdbnfdbhaaGreatDoor

namespace Go.Proofs.YtnejphdbnfdbhaaGreatDoor
open Go Go.Conc

theorem tied_goes {p : Pinned} {s : OpenSpec} {c : OpenClaim} (kinds : List LaidKind) (hash : String) (g : Bool) (h0 : c.holds p s) (h1 : c.wfByText s = true) (h2 : c.laidByTextAt .later p kinds true)
    (h3 : c.start = .entering) (h4 : c.noBlocks = false ∧ c.again = false) (h5 : p.checked.prog.mainIs = some (true, hash.toList))
    (h6 : ∀ f fn, p.checked.prog.funcNamed c.func = some f → p.checked.prog.funcs[f]? = some fn → true = p.checked.prog.looks [] ∧ ∀ (j : Nat) t, fn.params[j]? = some t → p.checked.prog.wantsStandIn t = false)
    (h7 : g = c.goesBy p.checked.prog) :
    Claim7.holds p (.plain s) { stood := { row := c, standIns := [], harness := (true, hash), looks := true }, kinds := [], alts := [], goes := g, laidByText := true, laidKinds := kinds, laidTests := true, laidLooks := .later } := by
  have hsix : Claim7.isSixth { stood := { row := c, standIns := [], harness := (true, hash), looks := true }, kinds := [] } = false := by simp [Claim7.isSixth]
  have hnew := Claim7.tied_new_at .later kinds true (Claim7.new_of_sixth h0 (true, hash) true h3 h4 h5 hsix h6) h1
  exact ⟨hnew, (fun D hD => by cases hD), h2, (fun h => by cases h), h7⟩
/-- Who is alone at the return leaves nobody behind. -/
theorem leaving_of_alone {a : Assume} {C : Checked} {os : Os} {f : FuncId} {r : Reach} {Pre : World → Array Value → Prop} {Post : World → Array Value → Value → World → Prop} (h : ReturnsInHanded a C os f r Pre Post) : ReturnsInLeavingWide a C os f r Pre Post := fun enter => by
  obtain ⟨e1, e2, e3, e4, hh⟩ := h enter
  refine ⟨e1, e2, e3, e4, fun w tape i hf => ?_⟩
  obtain ⟨n, v, w', r1, c, ro, po, ⟨j, last, l1, l2, q, ho, eh⟩, al⟩ := hh w tape i hf
  exact ⟨n, v, w', r1, c, ro, po, ⟨j, last, l1, l2, ho, onlyLeaving_of_quiet q, eh⟩, al⟩
end Go.Proofs.YtnejphdbnfdbhaaGreatDoor
