/- A triple that is an argument, opened and shut. -/
import Derived.Test.YtpepaobgngighabGreatDoorL5
import Derived.Lib.SmallJoins
namespace Go.Proofs.YtpepaobgngighabGreatDoor
open Go.ChangeShapes Go.WideShapes Go.ChangeAt Go.RowKit
open Go.ChangeMaps (shut_string)
open Go.Joins (open_agg4 shut_agg4 field_of_Trod)
set_option maxRecDepth 100000

theorem open_trip {H : Type} {enc : TypeId × Value → H} {W : World} {b0 base : Nat} {sp : Nat → Bool} {held : Bool} {rr : Reach} {v : Value} {d : DataW H} {q : List MemPlace} (hv : Value.okWide Tryz.prog W rr b0 23 v) (h : DataW.Trod enc Tryz.prog W base sp held 23 v d q) :
    ∃ (b : Int) (t : ByteArray) (x r : Int), v = .agg #[.int .i64 b, .string t, .int .i64 x, .int .i64 r] ∧ t.size ≤ maxLen ∧ ∀ (W' : World) (base' : Nat) (sp' : Nat → Bool) (held' : Bool), DataW.Trod enc Tryz.prog W' base' sp' held' 23 (.agg #[.int .i64 b, .string t, .int .i64 x, .int .i64 r]) d q := by
  obtain ⟨v0, v1, v2, v3, y0, y1, y2, y3, n, rfl, rfl, rfl, h0, h1, h2, h3⟩ := open_agg4 Tryz.underlying23 (by kernel_rfl) (by kernel_rfl) hv h
  obtain ⟨b, e0, rfl, w0⟩ := DataW.trod_int Tryz.underlying3 h0
  obtain ⟨t, e1, rfl, w1⟩ := DataW.trod_string Tryz.underlying9 h1
  obtain ⟨x, e2, rfl, w2⟩ := DataW.trod_int Tryz.underlying3 h2
  obtain ⟨r, e3, rfl, w3⟩ := DataW.trod_int Tryz.underlying3 h3
  obtain rfl : v0 = .int .i64 b := by simpa using e0
  obtain rfl : v1 = .string t := by simpa using e1
  obtain rfl : v2 = .int .i64 x := by simpa using e2
  obtain rfl : v3 = .int .i64 r := by simpa using e3
  refine ⟨b, t, x, r, rfl, w1, fun W' base' sp' held' => ?_⟩
  exact shut_agg4 Tryz.underlying23 (by kernel_rfl) (by kernel_rfl) (field_of_Trod (shut_int Tryz.underlying3 w0) rfl) (field_of_Trod (shut_string Tryz.underlying9 w1) rfl) (field_of_Trod (shut_int Tryz.underlying3 w2) rfl) (field_of_Trod (shut_int Tryz.underlying3 w3) rfl)
end Go.Proofs.YtpepaobgngighabGreatDoor

