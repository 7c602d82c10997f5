/- The law on ParseSet, walked: where the two errors are laid, the program answers as the model. -/
import Derived.Test.YtopibdhfkemnmaaDoorMP
namespace Go.Proofs.YtopibdhfkemnmaaDoor
open Go.ChangeShapes Go.WideShapes Go.ChangeAt Go.RowKit Go.Shelf

theorem mp12 (t : ByteArray) (ht : t.size ≤ 1048576) (w : World) :
    Calls Tryd.prog 12 #[.string t] w fun e W' => e = .returned (.tuple #[.int .i64 (parseN t.data.toList), .bool (parseOk t.data.toList)]) ∧ Below w.heap.size w W' := by
  by_cases h0 : t.data.toList = [45]
  · obtain rfl : t = ⟨#[45]⟩ := by rw [← ba_eq t, h0]
    have hp : parseN [45] = 0 ∧ parseOk [45] = true := by unfold parseN parseOk parseL; rw [if_pos rfl]; exact ⟨rfl, rfl⟩
    have HP := Lib.hid hp
    have hs := setL_zero
    clear ht h0 hp
    go_enter Tryd.func12, Tryd.ntmps12
    go_wp2_with (go_at_call 8; refine (fs26 0 _).mono ?_; rintro e W2 ⟨rfl, hb⟩)
    go_ret2
    exact ⟨by rw [HP.out.1, HP.out.2]; rfl, hb⟩
  · exact mp12_in t ht h0 w

theorem walkParseSet (t : ByteArray) (hm : t.size ≤ maxLen) (w : World) (u0 u1 : TypeId) (v0 v1 : Value)
    (hE0 : w.cell? ⟨0, 0, none⟩ = some (.iface u0 v0)) (hE1 : w.cell? ⟨1, 0, none⟩ = some (.iface u1 v1)) (hz : 1 < w.heap.size) :
    Calls Tryd.prog 4 #[.string t] w fun e w' => e = .returned (.bool true) ∧ Below w.heap.size w w' := by
  unfold maxLen at hm
  by_cases ht : t.size ≤ 1048576
  · have h1 : (t.size : Int) ≤ 1048576 := by omega
    have E0 := Lib.hid hE0
    have E1 := Lib.hid hE1
    have HZ := Lib.hid hz
    clear hE0 hE1 hz hm
    go_enter Tryd.func4, Tryd.ntmps4
    go_wp2_with fail
    go_at_call 12
    refine (mp12 t ht _).mono ?_
    rintro e W1 ⟨rfl, b1⟩
    go_wp2_with fail
    go_at_call 7
    refine (ps7 t ht _ u0 u1 v0 v1 ((b1.cell (p := ⟨0, 0, none⟩) (Nat.lt_of_succ_lt HZ.out)).trans E0.out) ((b1.cell (p := ⟨1, 0, none⟩) HZ.out).trans E1.out) (Nat.lt_of_lt_of_le HZ.out b1.size)).mono ?_
    rintro e W2 ⟨rfl, b2⟩
    go_wp2
    go_ret
    exact ⟨rfl, b1.trans (b2.mono b1.size)⟩
  · have h1 : (1048576 : Int) < (t.size : Int) := by omega
    have h2 : (t.size : Int) ≤ 9223372036854775807 := by omega
    clear hE0 hE1 hz hm
    go_enter Tryd.func4, Tryd.ntmps4
    go_wp2
    go_ret
    exact ⟨rfl, Below.refl _ _⟩
end Go.Proofs.YtopibdhfkemnmaaDoor
