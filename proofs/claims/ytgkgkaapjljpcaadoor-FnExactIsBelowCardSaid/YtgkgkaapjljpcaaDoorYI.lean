/- Chapter 11, the model: IsBelow on every text. -/
import Derived.Test.YtgkgkaapjljpcaaDoorYH
namespace Go.Proofs.YtgkgkaapjljpcaaDoor
open Go.ChangeShapes Go.WideShapes Go.ChangeAt Go.RowKit Go.Shelf
attribute [local go_sem] Oper.semAt_some
set_option maxRecDepth 100000

set_option maxHeartbeats 4000000 in
theorem mbelow_first (p q : ByteArray) (hp : p.size ≤ 9000000) (hq : q.size ≤ 9000000) (w : World) (hP : readP p.toList = none) :
    Calls Tryd.prog 22 #[.string p, .string q] w fun e w' => e = .returned (.bool false) ∧ Below w.heap.size w w' := by
  have hr := fun W => whole_shape (read42 p hp W)
  have hr2 := fun W => whole_shape (read42 q hq W)
  rw [show (readP p.toList).isSome = false by rw [hP]; rfl] at hr
  generalize (readP q.toList).isSome = bq at hr2
  go_enter Tryd.func22, Tryd.ntmps22
  go_wp2_with fail
  go_at_call 42
  refine (hr _).mono ?_
  rintro e W1 ⟨hb1, k1, s1, ad1, n1, cap1, rfl⟩
  go_wp2_with fail
  obtain ⟨V1, hV1⟩ : ∃ V, V = W1.alloc (.cells #[.int .u8 k1, .string s1, .slice ad1 n1 cap1] 52) := ⟨_, rfl⟩
  have B1 : Below w.heap.size w V1 := by rw [hV1]; exact hb1.alloc hb1.size _
  rw [← hV1]
  have HV1 := Lib.hid hV1
  clear hV1
  go_at_call 42
  refine (hr2 _).mono ?_
  rintro e W2 ⟨hb2, k2, s2, ad2, n2, cap2, rfl⟩
  have B2 := B1.trans (hb2.mono B1.size)
  clear hr hr2
  go_wp2_with fail
  go_ret
  exact ⟨rfl, B2.alloc B2.size _⟩

set_option maxHeartbeats 4000000 in
theorem mbelow_second (p q : ByteArray) (hp : p.size ≤ 9000000) (hq : q.size ≤ 9000000) (w : World) {a : Node} (hP : readP p.toList = some a) (hQ : readP q.toList = none) :
    Calls Tryd.prog 22 #[.string p, .string q] w fun e w' => e = .returned (.bool false) ∧ Below w.heap.size w w' := by
  have hr := fun W => whole_shape (read42 p hp W)
  have hr2 := fun W => whole_shape (read42 q hq W)
  rw [show (readP p.toList).isSome = true by rw [hP]; rfl] at hr
  rw [show (readP q.toList).isSome = false by rw [hQ]; rfl] at hr2
  go_enter Tryd.func22, Tryd.ntmps22
  go_wp2_with fail
  go_at_call 42
  refine (hr _).mono ?_
  rintro e W1 ⟨hb1, k1, s1, ad1, n1, cap1, rfl⟩
  go_wp2_with fail
  obtain ⟨V1, hV1⟩ : ∃ V, V = W1.alloc (.cells #[.int .u8 k1, .string s1, .slice ad1 n1 cap1] 52) := ⟨_, rfl⟩
  have B1 : Below w.heap.size w V1 := by rw [hV1]; exact hb1.alloc hb1.size _
  rw [← hV1]
  have HV1 := Lib.hid hV1
  clear hV1
  go_at_call 42
  refine (hr2 _).mono ?_
  rintro e W2 ⟨hb2, k2, s2, ad2, n2, cap2, rfl⟩
  have B2 := B1.trans (hb2.mono B1.size)
  clear hr hr2
  go_wp2_with fail
  go_ret
  exact ⟨rfl, B2.alloc B2.size _⟩

theorem mbelow (p q : ByteArray) (hp : p.size ≤ 9000000) (hq : q.size ≤ 9000000) (w : World) :
    Calls Tryd.prog 22 #[.string p, .string q] w fun e w' => e = .returned (.bool (belowZ p q)) ∧ Below w.heap.size w w' := by
  unfold belowZ
  cases hP : readP p.toList with
  | none => exact mbelow_first p q hp hq w hP
  | some a =>
    cases hQ : readP q.toList with
    | none => exact mbelow_second p q hp hq w hP hQ
    | some b => exact mbelow_some p q hp hq w hP hQ
end Go.Proofs.YtgkgkaapjljpcaaDoor

