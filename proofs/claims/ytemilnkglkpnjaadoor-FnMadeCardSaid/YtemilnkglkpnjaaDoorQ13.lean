/- The model's answers on one text: is it a program, its kind, its size, its loops. -/
import Derived.Test.YtemilnkglkpnjaaDoorQ12
import Derived.Laws.BytesArg
namespace Go.Proofs.YtemilnkglkpnjaaDoor
open Go.ChangeShapes Go.WideShapes Go.ChangeAt Go.RowKit Go.Shelf
attribute [local go_sem] Oper.semAt_some
set_option maxRecDepth 100000

theorem valid21 (t : ByteArray) (ht : t.size ≤ 9000000) (W : World) :
    Calls Tryd.prog 21 #[.string t] W fun e W' => e = .returned (.bool (isP t.toList)) ∧ Below W.heap.size W W' := by
  cases hP : readP t.toList with
  | none =>
    have HP := Lib.hid hP
    have hi : isP t.toList = false := by unfold isP; rw [hP]; rfl
    rw [hi]
    clear hP hi
    go_enter Tryd.func21, Tryd.ntmps21
    go_wp2_with (go_at_call 42; refine (read42 t ht _).mono ?_; rintro e W1 ⟨hb, hm⟩; rw [HP.out] at hm; obtain rfl := hm)
    go_ret
    exact ⟨rfl, hb.alloc hb.size _⟩
  | some nd =>
    have HP := Lib.hid hP
    have hi : isP t.toList = true := by unfold isP; rw [hP]; rfl
    rw [hi]
    clear hP hi
    go_enter Tryd.func21, Tryd.ntmps21
    go_wp2_with (go_at_call 42; refine (read42 t ht _).mono ?_; rintro e W1 ⟨hb, hm⟩; rw [HP.out] at hm; obtain ⟨k, s, ad, m, cap, rfl, hN⟩ := hm)
    go_ret
    exact ⟨rfl, hb.alloc hb.size _⟩

theorem size23 (t : ByteArray) (ht : t.size ≤ 9000000) (W : World) :
    Calls Tryd.prog 23 #[.string t] W fun e W' => e = .returned (.int .i64 (sizeP t.toList)) ∧ Below W.heap.size W W' := by
  cases hP : readP t.toList with
  | none =>
    have HP := Lib.hid hP
    have hi : sizeP t.toList = -1 := by unfold sizeP; rw [hP]
    rw [hi]
    clear hP hi
    go_enter Tryd.func23, Tryd.ntmps23
    go_wp2_with (go_at_call 42; refine (read42 t ht _).mono ?_; rintro e W1 ⟨hb, hm⟩; rw [HP.out] at hm; obtain rfl := hm)
    go_ret
    exact ⟨rfl, hb.alloc hb.size _⟩
  | some nd =>
    have HP := Lib.hid hP
    have hi : sizeP t.toList = (nd.size : Int) := by unfold sizeP; rw [hP]
    rw [hi]
    obtain ⟨hok, htx, h60, h6⟩ := readP_iff.1 hP
    have hs : nd.size ≤ 9000000 := by have := size_le_text nd hok; rw [htx] at h60; omega
    clear hP hi
    go_enter Tryd.func23, Tryd.ntmps23
    go_wp2_with (go_at_call 42; refine (read42 t ht _).mono ?_; rintro e W1 ⟨hb, hm⟩; rw [HP.out] at hm; obtain ⟨k, s, ad, m, cap, rfl, hN⟩ := hm; obtain ⟨p0, p1, p2, _⟩ := (Var.new W1 k s ad m cap).cells)
    go_at_call 45
    refine (size45 nd _ _ _ k s ad m cap (hN.below ((Below.refl _ _).alloc (Nat.le_refl _) _) (Nat.le_refl _)) (by simp) hok hs).mono ?_
    rintro e W2 ⟨rfl, hb2⟩
    go_wp2
    go_ret
    exact ⟨rfl, (hb.alloc hb.size _).trans (hb2.mono (by have := hb.size; simp; omega))⟩

theorem loops25 (t : ByteArray) (ht : t.size ≤ 9000000) (W : World) :
    Calls Tryd.prog 25 #[.string t] W fun e W' => e = .returned (.int .i64 (loopsP t.toList)) ∧ Below W.heap.size W W' := by
  cases hP : readP t.toList with
  | none =>
    have HP := Lib.hid hP
    have hi : loopsP t.toList = -1 := by unfold loopsP; rw [hP]
    rw [hi]
    clear hP hi
    go_enter Tryd.func25, Tryd.ntmps25
    go_wp2_with (go_at_call 42; refine (read42 t ht _).mono ?_; rintro e W1 ⟨hb, hm⟩; rw [HP.out] at hm; obtain rfl := hm)
    go_ret
    exact ⟨rfl, hb.alloc hb.size _⟩
  | some nd =>
    have HP := Lib.hid hP
    have hi : loopsP t.toList = (nd.loops : Int) := by unfold loopsP; rw [hP]
    rw [hi]
    obtain ⟨hok, htx, h60, h6⟩ := readP_iff.1 hP
    have hs : nd.loops ≤ 9000000 := by omega
    clear hP hi
    go_enter Tryd.func25, Tryd.ntmps25
    go_wp2_with (go_at_call 42; refine (read42 t ht _).mono ?_; rintro e W1 ⟨hb, hm⟩; rw [HP.out] at hm; obtain ⟨k, s, ad, m, cap, rfl, hN⟩ := hm; obtain ⟨p0, p1, p2, _⟩ := (Var.new W1 k s ad m cap).cells)
    go_at_call 47
    refine (loops47 nd _ _ _ k s ad m cap (hN.below ((Below.refl _ _).alloc (Nat.le_refl _) _) (Nat.le_refl _)) (by simp) hok hs).mono ?_
    rintro e W2 ⟨rfl, hb2⟩
    go_wp2
    go_ret
    exact ⟨rfl, (hb.alloc hb.size _).trans (hb2.mono (by have := hb.size; simp; omega))⟩

theorem conv_one (X : World) (p : Int) (g : Nat) (hg : g = X.heap.size) :
    (convert 22 9 (.slice (some ⟨g, 0, none⟩) 1 1)).run Tryd.prog (X.alloc (.cells #[.int .u8 p] 5)) = .ok (.string (strOfNums [p])) (X.alloc (.cells #[.int .u8 p] 5)) := by
  subst hg
  refine run_convert_bytes_arg _ 22 5 Tryd.underlying22 Tryd.underlying5 X.heap.size 0 1 1 [p] rfl (fun i hi => ?_) 9 Tryd.underlying9
  match i, hi with
  | 0, _ => simp
theorem one_byte (k : UInt8) : strOfNums [(k.toNat : Int)] = ⟨#[k]⟩ := by
  unfold strOfNums
  simp

set_option maxHeartbeats 1000000 in
theorem kind19 (t : ByteArray) (ht : t.size ≤ 9000000) (W : World) :
    Calls Tryd.prog 19 #[.string t] W fun e W' => e = .returned (.string ⟨(kindP t.toList).toArray⟩) ∧ Below W.heap.size W W' := by
  cases hP : readP t.toList with
  | none =>
    have HP := Lib.hid hP
    have hi : kindP t.toList = [] := by unfold kindP; rw [hP]
    rw [hi]
    clear hP hi
    go_enter Tryd.func19, Tryd.ntmps19
    go_wp2_with (go_at_call 42; refine (read42 t ht _).mono ?_; rintro e W1 ⟨hb, hm⟩; rw [HP.out] at hm; obtain rfl := hm)
    go_ret
    exact ⟨rfl, hb.alloc hb.size _⟩
  | some nd =>
    have HP := Lib.hid hP
    cases nd with
    | atom a =>
      have hi : kindP t.toList = a := by unfold kindP; rw [hP]
      rw [hi]
      clear hP hi
      go_enter Tryd.func19, Tryd.ntmps19
      go_wp2_with (go_at_call 42; refine (read42 t ht _).mono ?_; rintro e W1 ⟨hb, hm⟩; rw [HP.out] at hm; obtain ⟨k, s, ad, m, cap, rfl, rfl, rfl, rfl⟩ := hm; obtain ⟨p0, p1, p2, _⟩ := (Var.new W1 97 ⟨a.toArray⟩ ad 0 cap).cells)
      go_ret
      exact ⟨rfl, hb.alloc hb.size _⟩
    | loop p =>
      have hi : kindP t.toList = [123] := by unfold kindP; rw [hP]
      rw [hi]
      clear hP hi
      go_enter Tryd.func19, Tryd.ntmps19
      go_wp2_with (go_at_call 42; refine (read42 t ht _).mono ?_; rintro e W1 ⟨hb, hm⟩; rw [HP.out] at hm; obtain ⟨k, s, ad, m, cap, rfl, rfl, rfl, rfl, hN⟩ := hm; obtain ⟨p0, p1, p2, _⟩ := (Var.new W1 123 ⟨#[]⟩ ad 1 cap).cells; have hk := conv_one (W1.alloc (.cells #[.int .u8 123, .string ⟨#[]⟩, .slice ad 1 cap] 55)) 123 _ rfl; rw [World.size_alloc] at hk)
      go_ret
      exact ⟨rfl, (hb.alloc hb.size _).alloc (by have := hb.size; simp; omega) _⟩
    | pair k0 p q =>
      obtain ⟨hok, _⟩ := readP_iff.1 hP
      have hi : kindP t.toList = [k0] := by unfold kindP; rw [hP]
      have hne : ((k0.toNat : Int) == 97) = false := by rcases hok.1 with rfl | rfl <;> decide
      have hk0 : (0 : Int) ≤ (k0.toNat : Int) := by omega
      rw [hi]
      clear hP hi
      go_enter Tryd.func19, Tryd.ntmps19
      go_wp2_with (go_at_call 42; refine (read42 t ht _).mono ?_; rintro e W1 ⟨hb, hm⟩; rw [HP.out] at hm; obtain ⟨k, s, ad, m, cap, rfl, rfl, rfl, rfl, hN⟩ := hm; obtain ⟨p0, p1, p2, _⟩ := (Var.new W1 (k0.toNat : Int) ⟨#[]⟩ ad 2 cap).cells; have hk := conv_one (W1.alloc (.cells #[.int .u8 (k0.toNat : Int), .string ⟨#[]⟩, .slice ad 2 cap] 55)) (k0.toNat : Int) _ rfl; rw [World.size_alloc] at hk)
      go_ret
      exact ⟨by first | rfl | (rw [one_byte k0]; rfl) | rw [one_byte k0], (hb.alloc hb.size _).alloc (by have := hb.size; simp; omega) _⟩
end Go.Proofs.YtemilnkglkpnjaaDoor

