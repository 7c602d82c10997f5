/- Chapter 7, the model: LoopTimes, whole. -/
import Derived.Test.YtngcdgnijfiocaaGreatDoorPB2
namespace Go.Proofs.YtngcdgnijfiocaaGreatDoor
open Go.ChangeShapes Go.WideShapes Go.ChangeAt Go.RowKit Go.Shelf
attribute [local go_sem] Oper.semAt_some
set_option maxRecDepth 100000

theorem timesZ_bad {t : ByteArray} {s x : Int} (h : reachB t s x = false) : timesZ t s x = -1 := by
  unfold timesZ reachB at *
  cases hP : readP t.toList with
  | none => rfl
  | some nd =>
    rw [hP] at h
    have h2 : (isSet s && inB x 0 1) = false := by simpa using h
    cases nd with
    | loop p => dsimp only; rw [h2]; rfl
    | atom a => rfl
    | pair k p q => rfl
theorem timesZ_loop {t : ByteArray} {p : Node} (hP : readP t.toList = some (.loop p)) {m : Nat} (hm : m < 512) {x : Int} (hx : x = 0 ∨ x = 1) : timesZ t (m : Int) x = ((timesN p x m : Nat) : Int) := by
  unfold timesZ
  rw [hP]
  have h1 : isSet (m : Int) = true := decide_eq_true (by omega)
  have h2 : inB x 0 1 = true := inB_yes (by omega)
  dsimp only
  rw [h1, h2, Int.toNat_natCast]
  rfl
theorem timesZ_atom {t : ByteArray} {a : List UInt8} (hP : readP t.toList = some (.atom a)) (s x : Int) : timesZ t s x = -1 := by unfold timesZ; rw [hP]
theorem timesZ_pair {t : ByteArray} {k : UInt8} {p q : Node} (hP : readP t.toList = some (.pair k p q)) (s x : Int) : timesZ t s x = -1 := by unfold timesZ; rw [hP]
set_option maxHeartbeats 4000000 in
theorem mlt27 (t : ByteArray) (ht : t.size ≤ 9000000) (s x : Int) (w : World) :
    Calls Tryz.prog 8 #[.string t, .int .i64 s, .int .i64 x] w fun e w' => e = .returned (.int .i64 (timesZ t s x)) ∧ Below w.heap.size w w' := by
  have hask := masked21 t ht s x
  cases hb : reachB t s x with
  | false =>
    rw [timesZ_bad hb]
    rw [hb] at hask
    clear hb
    go_enter Tryz.func8, Tryz.ntmps8
    go_wp2_with (go_at_call 41; refine (hask _).mono ?_; rintro e W1 ⟨hb1, k, s1, ad, n, cap, rfl, hnd⟩)
    go_ret
    exact ⟨rfl, hb1.alloc hb1.size _⟩
  | true =>
    obtain ⟨nd, m, hP, hm, rfl, hx, _⟩ := reach_true hb
    rw [hb] at hask
    obtain ⟨hok, _⟩ := readP_iff.1 hP
    have HP := Lib.hid hP
    clear hb
    cases nd with
    | atom a =>
      rw [timesZ_atom hP]
      clear hP
      go_enter Tryz.func8, Tryz.ntmps8
      go_wp2_with (go_at_call 41; refine (hask _).mono ?_; rintro e W1 ⟨hb1, k, s1, ad, n, cap, rfl, hnd⟩; obtain ⟨rfl, rfl, rfl⟩ := hnd _ HP.out; obtain ⟨x0, x1, x2, _⟩ := (Var.new W1 97 ⟨a.toArray⟩ ad 0 cap).cells)
      go_ret
      exact ⟨rfl, hb1.alloc hb1.size _⟩
    | pair k0 p q =>
      rw [timesZ_pair hP]
      clear hP
      obtain ⟨hk, _, _⟩ := hok
      rcases hk with rfl | rfl
      · go_enter Tryz.func8, Tryz.ntmps8
        go_wp2_with (go_at_call 41; refine (hask _).mono ?_; rintro e W1 ⟨hb1, k, s1, ad, n, cap, rfl, hnd⟩; obtain ⟨rfl, rfl, rfl, _⟩ := hnd _ HP.out; obtain ⟨x0, x1, x2, _⟩ := (Var.new W1 59 ⟨#[]⟩ ad 2 cap).cells)
        go_ret
        exact ⟨rfl, hb1.alloc hb1.size _⟩
      · go_enter Tryz.func8, Tryz.ntmps8
        go_wp2_with (go_at_call 41; refine (hask _).mono ?_; rintro e W1 ⟨hb1, k, s1, ad, n, cap, rfl, hnd⟩; obtain ⟨rfl, rfl, rfl, _⟩ := hnd _ HP.out; obtain ⟨x0, x1, x2, _⟩ := (Var.new W1 124 ⟨#[]⟩ ad 2 cap).cells)
        go_ret
        exact ⟨rfl, hb1.alloc hb1.size _⟩
    | loop p =>
      rw [timesZ_loop hP hm hx]
      clear hP
      have HT := fun W lo hi k s ad n cap h h2 => mtimes41 p hok W lo hi k s ad n cap h h2 m hm x hx
      generalize timesN p x m = res at HT ⊢
      go_enter Tryz.func8, Tryz.ntmps8
      go_wp2_with (go_at_call 41; refine (hask _).mono ?_; rintro e W1 ⟨hb1, k, s1, ad, n, cap, rfl, hnd⟩; have hN0 := hnd _ HP.out; have hN := hN0.below ((Below.refl _ W1).alloc (Nat.le_refl _) (.cells #[.int .u8 k, .string s1, .slice ad n cap] 72)) (Nat.le_refl _); obtain ⟨rfl, rfl, rfl, _⟩ := hN0; obtain ⟨x0, x1, x2, _⟩ := (Var.new W1 123 ⟨#[]⟩ ad 1 cap).cells)
      go_at_call 42
      refine (HT _ _ _ _ _ _ _ _ hN (by simp)).mono ?_
      rintro e W2 ⟨rfl, b2⟩
      go_wp2_with fail
      go_ret
      exact ⟨rfl, (hb1.alloc hb1.size _).trans (b2.mono (hb1.alloc hb1.size _).size)⟩
end Go.Proofs.YtngcdgnijfiocaaGreatDoor

