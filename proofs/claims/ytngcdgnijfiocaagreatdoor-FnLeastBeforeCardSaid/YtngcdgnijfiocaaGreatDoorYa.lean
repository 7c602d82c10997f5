/- Triples: plain facts (those of texts left out), no program of Go in it. Chapter 5, the program: whether a triple is one, its text, the sure one with most states behind. -/
import Derived.Test.YtngcdgnijfiocaaGreatDoorR5
import Derived.Test.YtngcdgnijfiocaaGreatDoorNB
namespace Go.Proofs.YtngcdgnijfiocaaGreatDoor
open Go.ChangeShapes Go.WideShapes Go.ChangeAt Go.RowKit Go.Shelf
set_option maxRecDepth 100000

/-! ### No blank in the parts -/
theorem isP_len {p : List UInt8} (h : isP p = true) : p.length ≤ 60 := by
  unfold isP at h
  cases hp : readP p with
  | none => rw [hp] at h; cases h
  | some nd => exact (readP_iff.1 hp).2.2.1
theorem exit_two {x : Int} (h : inB x 0 1 = true) : x = 0 ∨ x = 1 := by
  have := of_decide_eq_true h
  omega
/-! ### Triples -/
structure Trip where
  b : Int
  p : ByteArray
  x : Int
  r : Int
def zeroT : Trip := ⟨0, ⟨#[]⟩, 0, 0⟩
/-- Whether a triple is one. -/
def validT (b : Int) (p : ByteArray) (x r : Int) : Bool := isSet b && isP p.toList && inB x 0 1 && isSet r
theorem valid_all {b : Int} {p : ByteArray} {x r : Int} (h : validT b p x r = true) : isSet b = true ∧ isP p.toList = true ∧ (x = 0 ∨ x = 1) ∧ isSet r = true := by
  unfold validT at h
  simp only [Bool.and_eq_true] at h
  exact ⟨h.1.1.1, h.1.1.2, exit_two h.1.2, h.2⟩
/-! ### Sure and always -/
def sureT (b : Int) (p : ByteArray) (x r : Int) : Bool := validT b p x r && (bits .andNot .i64 r (reachN p b x) == 0)
def alwaysT (b : Int) (p : ByteArray) (x r : Int) : Bool := validT b p x r && (bits .andNot .i64 (reachN p b x) r == 0)
def missT (b : Int) (p : ByteArray) (x r : Int) : Int := if validT b p x r = true then bits .andNot .i64 r (reachN p b x) else 0
def surpT (b : Int) (p : ByteArray) (x r : Int) : Int := if validT b p x r = true then bits .andNot .i64 (reachN p b x) r else 0
def mostT (b : Int) (p : ByteArray) (x : Int) : Trip := if reachB p b x = true then ⟨b, p, x, reachN p b x⟩ else zeroT
def refT (b : Int) (p : ByteArray) (x r : Int) (b' : Int) (p' : ByteArray) (x' r' : Int) : Bool :=
  sureT b p x r && validT b' p' x' r' && (p == p') && (x == x') && (bits .andNot .i64 b b' == 0) && (bits .andNot .i64 r r' != 0)
theorem reach_valid {b : Int} {p : ByteArray} {x r : Int} (h : validT b p x r = true) : reachB p b x = true := by
  obtain ⟨h1, h2, h3, h4⟩ := valid_all h
  have h5 : inB x 0 1 = true := inB_yes (by omega)
  unfold reachB
  unfold isP at h2
  rw [h1, h2, h5]
  rfl
end Go.Proofs.YtngcdgnijfiocaaGreatDoor

namespace Go.Proofs.YtngcdgnijfiocaaGreatDoor
open Go.ChangeShapes Go.WideShapes Go.ChangeAt Go.RowKit Go.Shelf
attribute [local go_sem] Oper.semAt_some
set_option maxRecDepth 100000

/-- A triple's four cells in block g. -/
def TripAt (W : World) (g : Nat) (b : Int) (p : ByteArray) (x r : Int) : Prop := W.heap[g]? = some (.cells #[.int .i64 b, .string p, .int .i64 x, .int .i64 r] 33 (0, 0))
theorem TripAt.new (W : World) (b : Int) (p : ByteArray) (x r : Int) : TripAt (W.alloc (.cells #[.int .i64 b, .string p, .int .i64 x, .int .i64 r] 33)) W.heap.size b p x r := heap_alloc_new W _
theorem TripAt.lt {W : World} {g : Nat} {b : Int} {p : ByteArray} {x r : Int} (h : TripAt W g b p x r) : g < W.heap.size := (Array.getElem?_eq_some_iff.1 h).1
theorem TripAt.below {W W' : World} {g : Nat} {b : Int} {p : ByteArray} {x r : Int} (h : TripAt W g b p x r) {n : Nat} (hb : Below n W W') (hn : g < n) : TripAt W' g b p x r := (hb.block g hn).trans h
theorem TripAt.cells {W : World} {g : Nat} {b : Int} {p : ByteArray} {x r : Int} (h : TripAt W g b p x r) :
    W.cell? ⟨g, 0, none⟩ = some (.int .i64 b) ∧ W.cell? ⟨g, 1, none⟩ = some (.string p) ∧ W.cell? ⟨g, 2, none⟩ = some (.int .i64 x) ∧ W.cell? ⟨g, 3, none⟩ = some (.int .i64 r) :=
  ⟨by rw [cell_of_row _ g 0 _ _ (0, 0) h]; rfl, by rw [cell_of_row _ g 1 _ _ (0, 0) h]; rfl, by rw [cell_of_row _ g 2 _ _ (0, 0) h]; rfl, by rw [cell_of_row _ g 3 _ _ (0, 0) h]; rfl⟩

theorem valid_no0 {b : Int} (p : ByteArray) (x r : Int) (h : isSet b = false) : validT b p x r = false := by unfold validT; rw [h]; rfl
theorem valid_no1 (b : Int) {p : ByteArray} (x r : Int) (h : isP p.toList = false) : validT b p x r = false := by unfold validT; rw [h, Bool.and_false]; rfl
theorem valid_no2 (b : Int) (p : ByteArray) {x : Int} (r : Int) (h : inB x 0 1 = false) : validT b p x r = false := by unfold validT; rw [h, Bool.and_false]; rfl
theorem valid_yes3 {b : Int} {p : ByteArray} {x : Int} (r : Int) (h0 : isSet b = true) (h1 : isP p.toList = true) (h2 : inB x 0 1 = true) : validT b p x r = isSet r := by unfold validT; rw [h0, h1, h2]; rfl
theorem name_none {x : Int} (h : inB x 0 1 = false) : nameX x = ⟨#[]⟩ := by
  have := of_decide_eq_false h
  unfold nameX
  rw [if_neg (by omega), if_neg (by omega)]
theorem name_some {x : Int} (h : inB x 0 1 = true) : (nameX x).toList.isEmpty = false := by
  have hx : x = 0 ∨ x = 1 := by have := of_decide_eq_true h; omega
  rcases hx with rfl | rfl <;> (rw [Lib.toList_data]; rfl)

set_option maxHeartbeats 2000000 in
theorem ptvalid (b : Int) (p : ByteArray) (x r : Int) (w : World) {N : Nat} (hE : Laid3 N w) :
    Calls Tryz.prog 19 #[.agg #[.int .i64 b, .string p, .int .i64 x, .int .i64 r]] w fun e w' => e = .returned (.bool (validT b p x r)) ∧ Below w.heap.size w w' := by
  have hE0 := hE.below ((Below.refl _ w).alloc (Nat.le_refl _) (.cells #[.int .i64 b, .string p, .int .i64 x, .int .i64 r] 33)) hE.lt
  have hA : Below w.heap.size w (w.alloc (.cells #[.int .i64 b, .string p, .int .i64 x, .int .i64 r] 33)) := (Below.refl _ w).alloc (Nat.le_refl _) _
  have hT := TripAt.new w b p x r
  have hP := fun (X : World) (hX : Laid3 N X) => pvalid20 p X hX
  cases h0 : isSet b with
  | false =>
    rw [valid_no0 p x r h0]
    have H0 := Lib.hid h0
    clear h0 hP
    go_enter Tryz.func19, Tryz.ntmps19
    go_wp2_with (go_at_call 38; refine (sv24 _ _).mono ?_; rintro e w' ⟨rfl, rfl⟩; rw [H0.out])
    go_ret
    exact ⟨rfl, hA⟩
  | true =>
    cases h1 : isP p.toList with
    | false =>
      rw [valid_no1 b x r h1]
      rw [h1] at hP
      have H0 := Lib.hid h0
      clear h0 h1
      go_enter Tryz.func19, Tryz.ntmps19
      go_wp2_with (first
        | (go_at_call 38; refine (sv24 _ _).mono ?_; rintro e w' ⟨rfl, rfl⟩; rw [H0.out])
        | (go_at_call 54; refine (hP _ hE0).mono ?_; rintro e W1 ⟨rfl, hb⟩))
      go_ret
      exact ⟨rfl, hA.trans (hb.mono hA.size)⟩
    | true =>
      rw [h1] at hP
      cases h2 : inB x 0 1 with
      | false =>
        rw [valid_no2 b p r h2]
        have HN := Lib.hid (name_none h2)
        have H0 := Lib.hid h0
        clear h0 h1 h2
        go_enter Tryz.func19, Tryz.ntmps19
        go_wp2_with (first
          | (go_at_call 38; refine (sv24 _ _).mono ?_; rintro e w' ⟨rfl, rfl⟩; rw [H0.out])
          | (go_at_call 54; refine (hP _ hE0).mono ?_; rintro e W1 ⟨rfl, hb⟩; obtain ⟨c0, c1, c2, c3⟩ := (hT.below hb hT.lt).cells)
          | (go_at_call 39; refine (pname26 _ _).mono ?_; rintro e w' ⟨rfl, rfl⟩; rw [HN.out]))
        go_ret
        exact ⟨rfl, hA.trans (hb.mono hA.size)⟩
      | true =>
        rw [valid_yes3 r h0 h1 h2]
        have HN := Lib.hid (name_some h2)
        have H0 := Lib.hid h0
        clear h0 h1 h2
        go_enter Tryz.func19, Tryz.ntmps19
        go_wp2_with (first
          | (go_at_call_of 38 (Value.int IntKind.i64 b); refine (sv24 b _).mono ?_; rintro e w' ⟨rfl, rfl⟩; rw [H0.out])
          | (go_at_call 54; refine (hP _ hE0).mono ?_; rintro e W1 ⟨rfl, hb⟩; obtain ⟨c0, c1, c2, c3⟩ := (hT.below hb hT.lt).cells)
          | (go_at_call 39; refine (pname26 _ _).mono ?_; rintro e w' ⟨rfl, rfl⟩; have hN := HN.out)
          | (go_at_call 38; refine (sv24 r _).mono ?_; rintro e w' ⟨rfl, rfl⟩))
        go_ret
        exact ⟨rfl, hA.trans (hb.mono hA.size)⟩
end Go.Proofs.YtngcdgnijfiocaaGreatDoor
