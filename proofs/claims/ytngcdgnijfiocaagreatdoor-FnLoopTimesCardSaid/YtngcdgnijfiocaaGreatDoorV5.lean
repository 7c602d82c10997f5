/- The law on what programs reach, made of what their parts reach: its walk. -/
import Derived.Test.YtngcdgnijfiocaaGreatDoorDR
import Derived.Test.YtngcdgnijfiocaaGreatDoorE4
import Derived.Test.YtngcdgnijfiocaaGreatDoorGA
import Derived.Test.YtngcdgnijfiocaaGreatDoorNC
import Derived.Test.YtngcdgnijfiocaaGreatDoorM7
import Derived.Test.YtngcdgnijfiocaaGreatDoorR5
namespace Go.Proofs.YtngcdgnijfiocaaGreatDoor
open Go.ChangeShapes Go.WideShapes Go.ChangeAt Go.RowKit Go.Shelf
attribute [local go_sem] Oper.semAt_some
set_option maxRecDepth 100000

/-- The text of a program as a value's bytes. -/
def bytesOf (p : Node) : ByteArray := ⟨p.text.toArray⟩
theorem bytesOf_list (p : Node) : (bytesOf p).toList = p.text := by unfold bytesOf; rw [Lib.toList_data]
theorem read_bytes {p : Node} (hok : p.ok) (h1 : p.text.length ≤ 60) (h2 : p.loops ≤ 6) : readP (bytesOf p).toList = some p := by
  rw [bytesOf_list]
  exact readP_iff.2 ⟨hok, rfl, h1, h2⟩
theorem read_loop {t : ByteArray} {p : Node} (h : readP t.toList = some (.loop p)) : p.ok ∧ readP (bytesOf p).toList = some p ∧ kindP t.toList = [123] ∧ partsP t.toList = [p.text] := by
  obtain ⟨hok, htx, h60, h6⟩ := readP_iff.1 h
  refine ⟨hok, read_bytes (p := p) hok (by rw [htx] at h60; simp [Node.text] at h60; omega) (by simp [Node.loops] at h6; omega), ?_, ?_⟩
  · unfold kindP; rw [h]
  · unfold partsP; rw [h]
theorem read_pair {t : ByteArray} {k : UInt8} {p q : Node} (h : readP t.toList = some (.pair k p q)) : (k = 59 ∨ k = 124) ∧ p.ok ∧ q.ok ∧ readP (bytesOf p).toList = some p ∧ readP (bytesOf q).toList = some q ∧ kindP t.toList = [k] ∧ partsP t.toList = [p.text, q.text] := by
  obtain ⟨hok, htx, h60, h6⟩ := readP_iff.1 h
  refine ⟨hok.1, hok.2.1, hok.2.2, read_bytes (p := p) hok.2.1 (by rw [htx] at h60; simp [Node.text] at h60; omega) (by simp [Node.loops] at h6; omega), read_bytes (p := q) hok.2.2 (by rw [htx] at h60; simp [Node.text] at h60; omega) (by simp [Node.loops] at h6; omega), ?_, ?_⟩
  · unfold kindP; rw [h]
  · unfold partsP; rw [h]
theorem read_atom {t : ByteArray} {a : List UInt8} (h : readP t.toList = some (.atom a)) : kindP t.toList = a ∧ partsP t.toList = [] ∧ (Node.atom a).ok := by
  obtain ⟨hok, _⟩ := readP_iff.1 h
  exact ⟨by unfold kindP; rw [h], by unfold partsP; rw [h], hok⟩
/-- No atom's text is a sign of its own. -/
theorem atom_signs {a : List UInt8} (h : (Node.atom a).ok) : a ≠ [59] ∧ a ≠ [124] ∧ a ≠ [123] := by
  rcases h with rfl | rfl | h | ⟨t, ht, rfl⟩
  · decide
  · decide
  · obtain ⟨c, d, rfl, _⟩ := twos_shape h
    simp
  · simp

theorem andNot_nat {a b : Nat} (h : a ||| b = b) : bits .andNot .i64 (a : Int) (b : Int) = 0 := by
  have e : (BitVec.ofInt 64 (a : Int) &&& ~~~ BitVec.ofInt 64 (b : Int)) = 0#64 := by
    apply BitVec.eq_of_getLsbD_eq
    intro i hi
    have h1 : (a ||| b).testBit i = b.testBit i := by rw [h]
    rw [Nat.testBit_or] at h1
    rw [BitVec.ofInt_natCast, BitVec.ofInt_natCast]
    simp only [BitVec.getLsbD_and, BitVec.getLsbD_not, BitVec.getLsbD_ofNat, hi, decide_true, Bool.true_and]
    cases ha : a.testBit i <;> cases hb : b.testBit i <;> simp [ha, hb] at h1 ⊢
  show IntKind.i64.wrap ((BitVec.ofInt 64 (a : Int) &&& ~~~ BitVec.ofInt 64 (b : Int)).toNat : Int) = 0
  rw [e]; rfl
theorem isSet_nat {m : Nat} (h : m < 512) : isSet (m : Int) = true := decide_eq_true (by omega)
theorem within_nat {a b : Nat} (ha : a < 512) (hb : b < 512) (h : a ||| b = b) : within (a : Int) (b : Int) = true := by
  unfold within
  rw [isSet_nat ha, isSet_nat hb, andNot_nat h]
  rfl

theorem reach0 {t : ByteArray} {nd : Node} (h : readP t.toList = some nd) {m : Nat} (hm : m < 512) (X : World) {N : Nat} (hL : Laid3 N X) :
    Calls Tryz.prog 9 #[.string t, .int .i64 (m : Int), .int .i64 0] X fun e w' => e = .returned (.tuple #[.int .i64 ((runR nd m).1 : Int), .bool true]) ∧ Below X.heap.size X w' := by
  have := preach10 t m 0 X hL
  rwa [(reach_ok h hm (.inl rfl)).1, (reach_ok h hm (.inl rfl)).2] at this
theorem reach1 {t : ByteArray} {nd : Node} (h : readP t.toList = some nd) {m : Nat} (hm : m < 512) (X : World) {N : Nat} (hL : Laid3 N X) :
    Calls Tryz.prog 9 #[.string t, .int .i64 (m : Int), .int .i64 1] X fun e w' => e = .returned (.tuple #[.int .i64 ((runR nd m).2 : Int), .bool true]) ∧ Below X.heap.size X w' := by
  have := preach10 t m 1 X hL
  rwa [(reach_ok h hm (.inr rfl)).1, (reach_ok h hm (.inr rfl)).2] at this
theorem mreach0 {t : ByteArray} (ht : t.size ≤ 9000000) {nd : Node} (h : readP t.toList = some nd) {m : Nat} (hm : m < 512) (X : World) :
    Calls Tryz.prog 107 #[.string t, .int .i64 (m : Int), .int .i64 0] X fun e w' => e = .returned (.tuple #[.int .i64 ((runR nd m).1 : Int), .bool true]) ∧ Below X.heap.size X w' := by
  have := mreach9 t ht m 0 X
  rwa [(reach_ok h hm (.inl rfl)).1, (reach_ok h hm (.inl rfl)).2] at this
theorem mreach1 {t : ByteArray} (ht : t.size ≤ 9000000) {nd : Node} (h : readP t.toList = some nd) {m : Nat} (hm : m < 512) (X : World) :
    Calls Tryz.prog 107 #[.string t, .int .i64 (m : Int), .int .i64 1] X fun e w' => e = .returned (.tuple #[.int .i64 ((runR nd m).2 : Int), .bool true]) ∧ Below X.heap.size X w' := by
  have := mreach9 t ht m 1 X
  rwa [(reach_ok h hm (.inr rfl)).1, (reach_ok h hm (.inr rfl)).2] at this
/-- Both answer the same at the drawn arguments. -/
theorem both_reach {t : ByteArray} (ht : t.size ≤ 9000000) {nd : Node} (h : readP t.toList = some nd) {m : Nat} (hm : m < 512) {x : Int} (hx : x = 0 ∨ x = 1) {w : World} {N : Nat} (hL : Laid3 N w) :
    (∀ X : World, Below w.heap.size w X → Calls Tryz.prog 9 #[.string t, .int .i64 (m : Int), .int .i64 x] X fun e w' => e = .returned (.tuple #[.int .i64 ((exitN x (runR nd m) : Nat) : Int), .bool true]) ∧ Below X.heap.size X w') ∧
    (∀ X : World, Calls Tryz.prog 107 #[.string t, .int .i64 (m : Int), .int .i64 x] X fun e w' => e = .returned (.tuple #[.int .i64 ((exitN x (runR nd m) : Nat) : Int), .bool true]) ∧ Below X.heap.size X w') := by
  refine ⟨fun X hX => ?_, fun X => ?_⟩
  · have := preach10 t m x X (hL.below hX hL.lt)
    rwa [(reach_ok h hm hx).1, (reach_ok h hm hx).2] at this
  · have := mreach9 t ht m x X
    rwa [(reach_ok h hm hx).1, (reach_ok h hm hx).2] at this

theorem exit_0 (o : Nat × Nat) : exitN 0 o = o.1 := by unfold exitN; rw [if_neg (by decide)]
theorem exit_1 (o : Nat × Nat) : exitN 1 o = o.2 := by unfold exitN; rw [if_pos rfl]
theorem run_choice2 (p q : Node) (m : Nat) : runR (.pair 124 p q) m = ((runR p m).1 ||| (runR q m).1, (runR p m).2 ||| (runR q m).2) := run_choice p q m


end Go.Proofs.YtngcdgnijfiocaaGreatDoor

