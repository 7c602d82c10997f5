/- Reading a word and reading a set, in the program. -/
import Derived.Test.YtopibdhfkemnmaaDoorSplit
namespace Go.Proofs.YtopibdhfkemnmaaDoor
open Go.ChangeShapes Go.WideShapes Go.ChangeAt Go.RowKit Go.Shelf

theorem maker29 (n : Nat) (t : ByteArray) (w : World) :
    CallsIn Fence.wide n Tryd.prog 29 #[.string t, .string ⟨#[44]⟩] w fun e w' => e = .returned (.func (.func 41) #[] #[.pointer (some ⟨w.heap.size + 1, 0, none⟩), .pointer (some ⟨w.heap.size, 0, none⟩), .pointer (some ⟨w.heap.size + 2, 0, none⟩)]) ∧
      w' = ((w.alloc (.cells #[.string t] 9)).alloc (.cells #[.string ⟨#[44]⟩] 9)).alloc (.cells #[.int .i64 0] 3) := by
  refine callsIn_wide.2 ?_
  go_enter Tryd.func29, Tryd.ntmps29
  go_wp2
  go_ret
  exact ⟨rfl, rfl⟩

theorem mk_of {x : ByteArray} {a b : UInt8} (h : x.data.toList = [a, b]) : x = ⟨#[a, b]⟩ := by
  obtain ⟨⟨l⟩⟩ := x
  simp at h
  subst h
  rfl

set_option maxHeartbeats 1000000 in
theorem rs_two (a b : UInt8) (W : World) (u : TypeId) (v : Value) (hE : W.cell? ⟨1, 0, none⟩ = some (.iface u v)) (hz : 1 < W.heap.size) :
    Calls Tryd.prog 30 #[.string ⟨#[a, b]⟩] W fun e W' => e = .returned (.tuple #[.int .i64 (stateOf ((a.toNat : Int) - 48) ((b.toNat : Int) - 48)), if stateOk ((a.toNat : Int) - 48) ((b.toNat : Int) - 48) = true then .nilIface else .iface u v]) ∧ Below W.heap.size W W' := by
  have a0 : (0 : Int) ≤ (a.toNat : Int) := by omega
  have a1 : (a.toNat : Int) ≤ 255 := by have := a.toNat_lt; omega
  have b0 : (0 : Int) ≤ (b.toNat : Int) := by omega
  have b1 : (b.toNat : Int) ≤ 255 := by have := b.toNat_lt; omega
  have hA : ∀ h : 0 < (⟨#[a, b]⟩ : ByteArray).size, (⟨#[a, b]⟩ : ByteArray)[0]'h = a := fun _ => rfl
  have hB : ∀ h : 1 < (⟨#[a, b]⟩ : ByteArray).size, (⟨#[a, b]⟩ : ByteArray)[1]'h = b := fun _ => rfl
  have HZ := Lib.hid hz
  have hd : W.drew.cell? ⟨1, 0, none⟩ = some (.iface u v) := hE
  cases hok : stateOk ((a.toNat : Int) - 48) ((b.toNat : Int) - 48) with
  | true =>
    go_enter Tryd.func30, Tryd.ntmps30
    go_wp2_with fail
    go_region_with (first | (go_at_call 38; refine (sw39 _ _ _).mono ?_; rintro e W1 ⟨rfl, hb⟩))
    all_goals go_wp2
    all_goals
      go_ret2
      exact ⟨rfl, (Below.refl _ _).drew.trans hb⟩
  | false =>
    have hst : stateOf ((a.toNat : Int) - 48) ((b.toNat : Int) - 48) = 0 := by
      have h := of_decide_eq_false hok
      exact if_neg h
    rw [hst]
    go_enter Tryd.func30, Tryd.ntmps30
    go_wp2_with fail
    go_region_with (first | (go_at_call 38; refine (sw39 _ _ _).mono ?_; rintro e W1 ⟨rfl, hb⟩; have hE1 : W1.cell? ⟨1, 0, none⟩ = some (.iface u v) := (Below.cell hb (p := ⟨1, 0, none⟩) HZ.out).trans hE))
    all_goals go_wp2_with fail
    all_goals go_quiet (fail)
    all_goals go_wp2
    all_goals
      go_ret2
      exact ⟨rfl, below_drewN ((Below.refl _ _).drew.trans hb) _⟩

theorem rs_len (x : ByteArray) (W : World) (u : TypeId) (v : Value) (hE : W.cell? ⟨1, 0, none⟩ = some (.iface u v)) (hx : ¬ x.size = 2) (hx1 : x.size ≤ 1048576) :
    Calls Tryd.prog 30 #[.string x] W fun e W' => e = .returned (.tuple #[.int .i64 0, .iface u v]) ∧ Below W.heap.size W W' := by
  have h1 : ((x.size : Int) == 2) = false := by simp; omega
  have h2 : (x.size : Int) ≤ 1048576 := by omega
  have h3 : ((x.size : Int) != 2) = true := by simp; omega
  go_enter Tryd.func30, Tryd.ntmps30
  go_wp2_with fail
  go_quiet (fail)
  go_wp2
  go_ret2
  exact ⟨rfl, below_drewN (Below.refl _ _) _⟩

theorem rs30some (x : ByteArray) (z : Fin 9) (W : World) (u : TypeId) (v : Value) (hE : W.cell? ⟨1, 0, none⟩ = some (.iface u v)) (hz : 1 < W.heap.size) (h : wordOf x.data.toList = some z) :
    Calls Tryd.prog 30 #[.string x] W fun e W' => e = .returned (.tuple #[.int .i64 (z.val : Int), .nilIface]) ∧ Below W.heap.size W W' := by
  have h2 := two_wordOf h
  obtain rfl := mk_of h2
  have e : ∀ y : Fin 9, stateOf (((UInt8.ofNat (48 + y.val / 3)).toNat : Int) - 48) (((UInt8.ofNat (48 + y.val % 3)).toNat : Int) - 48) = (y.val : Int) ∧ stateOk (((UInt8.ofNat (48 + y.val / 3)).toNat : Int) - 48) (((UInt8.ofNat (48 + y.val % 3)).toNat : Int) - 48) = true := by decide
  refine (rs_two _ _ W u v hE hz).mono fun e' W' ⟨he, hb⟩ => ?_
  rw [(e z).1, if_pos (e z).2] at he
  exact ⟨he, hb⟩
theorem rs30none (x : ByteArray) (W : World) (u : TypeId) (v : Value) (hE : W.cell? ⟨1, 0, none⟩ = some (.iface u v)) (hz : 1 < W.heap.size) (hx1 : x.size ≤ 1048576) (h : wordOf x.data.toList = none) :
    Calls Tryd.prog 30 #[.string x] W fun e W' => e = .returned (.tuple #[.int .i64 0, .iface u v]) ∧ Below W.heap.size W W' := by
  by_cases hx : x.size = 2
  · have hl : x.data.toList.length = 2 := by rw [Array.length_toList]; exact hx
    obtain ⟨a, b, hab⟩ : ∃ a b, x.data.toList = [a, b] := by
      match x.data.toList, hl with
      | [a, b], _ => exact ⟨a, b, rfl⟩
    obtain rfl := mk_of hab
    have hn : ¬ ((48 ≤ a.toNat ∧ a.toNat ≤ 50) ∧ (48 ≤ b.toNat ∧ b.toNat ≤ 50)) := by
      intro hh
      have e : wordOf [a, b] = some ⟨3 * (a.toNat - 48) + (b.toNat - 48), by omega⟩ := dif_pos hh
      rw [show (⟨#[a, b]⟩ : ByteArray).data.toList = [a, b] from rfl, e] at h
      cases h
    have hk : stateOk ((a.toNat : Int) - 48) ((b.toNat : Int) - 48) = false := decide_eq_false (by omega)
    have hst : stateOf ((a.toNat : Int) - 48) ((b.toNat : Int) - 48) = 0 := if_neg (of_decide_eq_false hk)
    refine (rs_two a b W u v hE hz).mono fun e' W' ⟨he, hb⟩ => ?_
    rw [hst, hk] at he
    exact ⟨he, hb⟩
  · exact rs_len x W u v hE hx hx1
end Go.Proofs.YtopibdhfkemnmaaDoor
