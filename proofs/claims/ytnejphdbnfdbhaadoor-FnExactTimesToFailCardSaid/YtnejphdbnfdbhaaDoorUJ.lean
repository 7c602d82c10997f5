/- The model: what is reached with so many times; how many times are needed. -/
import Derived.Test.YtnejphdbnfdbhaaDoorUB2
import Derived.Test.YtnejphdbnfdbhaaDoorM7
import Derived.Test.YtnejphdbnfdbhaaDoorUA
namespace Go.Proofs.YtnejphdbnfdbhaaDoor
open Go.ChangeShapes Go.WideShapes Go.ChangeAt Go.RowKit Go.Shelf
attribute [local go_sem] Oper.semAt_some
set_option maxRecDepth 100000

theorem min_no {t : ByteArray} {s x k : Int} (h : inOk t s x k = false) : inN t s x k = 0 := by
  unfold inOk at h
  unfold inN
  split
  · rw [h]; rfl
  · rfl
theorem min_yes {t : ByteArray} {nd : Node} (hP : readP t.toList = some nd) {m : Nat} (hm : m < 512) {x : Int} (hx : x = 0 ∨ x = 1) {T : Nat} (hT : T ≤ 12) : inN t (m : Int) x (T : Int) = ((exitN x (runT T nd m) : Nat) : Int) ∧ inOk t (m : Int) x (T : Int) = true := by
  have hK : isK (T : Int) = true := inB_yes (by omega)
  unfold inN inOk
  rw [hP, (reach_ok hP hm hx).2, hK]
  exact ⟨rfl, rfl⟩
set_option maxHeartbeats 2000000 in
theorem mreachin (t : ByteArray) (ht : t.size ≤ 9000000) (s x k : Int) (w : World) :
    Calls Tryd.prog 8 #[.string t, .int .i64 s, .int .i64 x, .int .i64 k] w fun e w' => e = .returned (.tuple #[.int .i64 (inN t s x k), .bool (inOk t s x k)]) ∧ Below w.heap.size w w' := by
  have hask := masked21 t ht s x
  cases hb : reachB t s x with
  | false =>
    have h0 : inOk t s x k = false := by unfold inOk; rw [hb]; rfl
    rw [min_no h0, h0]
    rw [hb] at hask
    clear hb h0
    go_enter Tryd.func8, Tryd.ntmps8
    go_wp2_with (go_at_call 18; refine (hask _).mono ?_; rintro e W1 ⟨hb1, kk, s1, ad, n, cap, rfl, hnd⟩)
    go_ret2
    exact ⟨rfl, hb1.alloc hb1.size _⟩
  | true =>
    cases hK : isK k with
    | false =>
      have h0 : inOk t s x k = false := by unfold inOk; rw [hK, Bool.and_false]
      rw [min_no h0, h0]
      rw [hb] at hask
      have HK := Lib.hid hK
      clear hb h0 hK
      go_enter Tryd.func8, Tryd.ntmps8
      go_wp2_with (first
        | (go_at_call 18; refine (hask _).mono ?_; rintro e W1 ⟨hb1, kk, s1, ad, n, cap, rfl, hnd⟩)
        | (go_at_call 19; refine (inB40 _ _ _ _).mono ?_; rintro e w' ⟨rfl, rfl⟩; rw [show inB k 0 12 = false from HK.out]))
      go_ret2
      exact ⟨rfl, hb1.alloc hb1.size _⟩
    | true =>
      obtain ⟨nd, m, hP, hm, rfl, hx, hn⟩ := reach_true hb
      obtain ⟨T, hT, rfl⟩ : ∃ T : Nat, T ≤ 12 ∧ k = (T : Int) := by
        have := of_decide_eq_true hK
        exact ⟨k.toNat, by omega, by omega⟩
      rw [(min_yes hP hm hx hT).1, (min_yes hP hm hx hT).2]
      rw [hb] at hask
      obtain ⟨hok, _⟩ := readP_iff.1 hP
      have hrun := fun W lo hi k s ad n cap h h2 => nrun21 T hT nd hok W lo hi k s ad n cap m h h2 hm
      have hex := fun w => mexit22 (runT T nd m).1 (runT T nd m).2 x hx w
      have HP := Lib.hid hP
      have HK := Lib.hid hK
      clear hb hn hP hK
      generalize runT T nd m = o at hrun hex ⊢
      go_enter Tryd.func8, Tryd.ntmps8
      go_wp2_with (first
        | (go_at_call 18; refine (hask _).mono ?_; rintro e W1 ⟨hb1, k, s1, ad, n, cap, rfl, hnd⟩)
        | (go_at_call 19; refine (inB40 _ _ _ _).mono ?_; rintro e w' ⟨rfl, rfl⟩; rw [show inB (T : Int) 0 12 = true from HK.out]))
      have hN := (hnd nd HP.out).below ((Below.refl _ W1).alloc (Nat.le_refl _) (.cells #[.int .u8 k, .string s1, .slice ad n cap] 35)) (Nat.le_refl _)
      have H2 := hrun _ _ _ k s1 ad n cap hN (by simp)
      go_wp2_with (first
        | (go_at_call 21; refine H2.mono ?_; rintro e W2 ⟨rfl, hb2⟩)
        | (go_at_call 20; refine (hex _).mono ?_; rintro e W3 ⟨rfl, hb3⟩))
      go_ret2
      have h1 := hb1.alloc hb1.size (.cells #[.int .u8 k, .string s1, .slice ad n cap] 35)
      have h2 := h1.trans (hb2.mono h1.size)
      exact ⟨rfl, h2.trans (hb3.mono h2.size)⟩
end Go.Proofs.YtnejphdbnfdbhaaDoor

