/- ParseSet of the program, and the model's cutting of a text. -/
import Derived.Test.YtopibdhfkemnmaaDoorRSet
namespace Go.Proofs.YtopibdhfkemnmaaDoor
open Go.ChangeShapes Go.WideShapes Go.ChangeAt Go.RowKit Go.Shelf

theorem ba_eq (x : ByteArray) : (⟨x.data.toList.toArray⟩ : ByteArray) = x := rfl

theorem rset16 (t : ByteArray) (ht : t.size ≤ 1048576) (w : World) (u0 u1 : TypeId) (v0 v1 : Value)
    (hE0 : w.cell? ⟨0, 0, none⟩ = some (.iface u0 v0)) (hE1 : w.cell? ⟨1, 0, none⟩ = some (.iface u1 v1)) (hz : 1 < w.heap.size) :
    Calls Tryd.prog 16 #[.string t] w (SetRead t w) := by
  by_cases h0 : t.data.toList = [45]
  · obtain rfl : t = ⟨#[45]⟩ := by rw [← ba_eq t, h0]
    have hp : parseL [45] = some 0 := by unfold parseL; rw [if_pos rfl]
    have HP := Lib.hid hp
    clear hE0 hE1 hz ht h0 hp
    go_enter Tryd.func16, Tryd.ntmps16
    go_wp2
    refine bodyPost_ret (v := .tuple #[.int .i64 0, .nilIface]) (by simp [results, Tryd.results16, go_sem]) rfl ⟨.inl ⟨0, HP.out, rfl⟩, ?_⟩
    exact ((((Below.refl _ _).alloc (Nat.le_refl _) _).alloc (by simp) _))
  · exact callsIn_wide.1 (rset16_in 3 (Nat.le_refl _) t ht h0 w u0 u1 v0 v1 hE0 hE1 hz)

/-- What ParseSet answers. -/
def parseN (t : List UInt8) : Int := ((parseL t).getD 0 : Nat)
def parseOk (t : List UInt8) : Bool := (parseL t).isSome

theorem ps7 (t : ByteArray) (ht : t.size ≤ 1048576) (w : World) (u0 u1 : TypeId) (v0 v1 : Value)
    (hE0 : w.cell? ⟨0, 0, none⟩ = some (.iface u0 v0)) (hE1 : w.cell? ⟨1, 0, none⟩ = some (.iface u1 v1)) (hz : 1 < w.heap.size) :
    Calls Tryd.prog 7 #[.string t] w fun e W' => e = .returned (.tuple #[.int .i64 (parseN t.data.toList), .bool (parseOk t.data.toList)]) ∧ Below w.heap.size w W' := by
  have HC := Lib.hid (rset16 t ht w u0 u1 v0 v1 hE0 hE1 hz)
  clear hE0 hE1 hz
  go_enter Tryd.func7, Tryd.ntmps7
  go_wp2_with fail
  go_at_call 16
  refine HC.out.mono ?_
  rintro e W1 ⟨⟨k, hk, rfl⟩ | ⟨hk, u, v, rfl⟩, hb⟩
  · have HK := Lib.hid hk
    clear hk
    go_wp2_with fail
    go_quiet (fail)
    go_wp2
    go_ret2
    exact ⟨by unfold parseN parseOk; rw [HK.out]; rfl, below_drewN hb _⟩
  · have HK := Lib.hid hk
    clear hk
    go_wp2_with fail
    go_quiet (fail)
    go_wp2
    go_ret2
    exact ⟨by unfold parseN parseOk; rw [HK.out]; rfl, below_drewN hb _⟩
end Go.Proofs.YtopibdhfkemnmaaDoor
