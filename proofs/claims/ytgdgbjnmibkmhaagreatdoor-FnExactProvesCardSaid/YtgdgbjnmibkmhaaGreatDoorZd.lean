/- Chapter 6: when a line follows by its rule, in plain words. Chapter 6, the model: whether a line follows by its rule. Chapter 6, the model: whether a triple follows by a rule from none, the atom. Chapter 6, the model: whether a triple follows by a rule from none, from one, from two. Chapter 6, the model: whether a line follows by its rule. Chapter 6, the model: LineHolds. Chapter 6, the model: LineHolds, whole. -/
import Derived.Test.YtgdgbjnmibkmhaaGreatDoorZc
import Derived.Test.YtgdgbjnmibkmhaaGreatDoorE4
import Derived.Test.YtgdgbjnmibkmhaaGreatDoorTM
import Derived.Test.YtgdgbjnmibkmhaaGreatDoorQD
import Derived.Test.YtgdgbjnmibkmhaaGreatDoorZb
import Derived.Lib.SmallJoins
namespace Go.Proofs.YtgdgbjnmibkmhaaGreatDoor
open Go.ChangeShapes Go.WideShapes Go.ChangeAt Go.RowKit Go.Shelf
set_option maxRecDepth 100000

/-- How many triples a rule takes. -/
def takesR (k : Nat) : Nat := [0, 0, 2, 1, 1, 1, 0, 2, 1, 2, 1].getD k 0
/-- A part of a program, by its index. -/
def prt (p : ByteArray) (i : Nat) : ByteArray := ⟨((partsP p.toList)[i]?.getD []).toArray⟩
/-- Two triples of the same program with the same exit. -/
def subT (a T : Trip) : Bool := sameT 0 a.p a.x 0 0 T.p T.x 0
/-- Whether a triple follows by a rule from others, all of them valid. -/
def folR (T : Trip) : Nat → List Trip → Bool
  | 0, [] => ((partsP T.p.toList).length : Int) == 0 && (sureT T.b T.p T.x T.r && alwaysT T.b T.p T.x T.r)
  | 1, [] => T.r == 0
  | 2, [a, c] => [59] == kindP T.p.toList && (sameT a.b a.p a.x a.r T.b (prt T.p 0) 0 a.r && sameT c.b c.p c.x c.r a.r (prt T.p 1) T.x T.r)
  | 3, [a] => [59] == kindP T.p.toList && (T.x == 1 && sameT a.b a.p a.x a.r T.b (prt T.p 0) T.x T.r)
  | 4, [a] => [124] == kindP T.p.toList && sameT a.b a.p a.x a.r T.b (prt T.p 0) T.x T.r
  | 5, [a] => [124] == kindP T.p.toList && sameT a.b a.p a.x a.r T.b (prt T.p 1) T.x T.r
  | 6, [] => [123] == kindP T.p.toList && (T.x == 0 && T.r == T.b)
  | 7, [a, c] => [123] == kindP T.p.toList && (sameT a.b a.p a.x a.r T.b (prt T.p 0) 0 a.r && sameT c.b c.p c.x c.r a.r T.p T.x T.r)
  | 8, [a] => [123] == kindP T.p.toList && (T.x == 1 && sameT a.b a.p a.x a.r T.b (prt T.p 0) T.x T.r)
  | 9, [a, c] => subT a T && (subT c T && (bits .or .i64 a.b c.b == T.b && bits .or .i64 a.r c.r == T.r))
  | 10, [a] => subT a T && (within a.b T.b && within T.r a.r)
  | _, _ => false
/-- Whether a line follows by its rule. -/
def lineH (w : ByteArray) (T : Trip) (fs : List Trip) : Bool := match ixR w.toList with
  | none => false
  | some k => (fs.length == takesR k) && ((okTr T && fs.all okTr) && folR T k fs)
theorem holds_none {w : ByteArray} (T : Trip) (fs : List Trip) (h : ixR w.toList = none) : lineH w T fs = false := by unfold lineH; rw [h]
theorem holds_len {w : ByteArray} {k : Nat} (T : Trip) {fs : List Trip} (h : ixR w.toList = some k) (hl : fs.length ≠ takesR k) : lineH w T fs = false := by
  unfold lineH; rw [h]; dsimp only; rw [beq_eq_false_iff_ne.2 hl]; rfl
theorem holds_bad {w : ByteArray} {k : Nat} {T : Trip} (fs : List Trip) (h : ixR w.toList = some k) (hl : okTr T = false) : lineH w T fs = false := by
  unfold lineH; rw [h, hl]; dsimp only; rw [Bool.false_and, Bool.false_and, Bool.and_false]
theorem holds_from {w : ByteArray} {k : Nat} (T : Trip) {fs : List Trip} (h : ixR w.toList = some k) (hl : fs.all okTr = false) : lineH w T fs = false := by
  unfold lineH; rw [h, hl]; dsimp only; rw [Bool.and_false, Bool.false_and, Bool.and_false]
theorem holds_yes {w : ByteArray} {k : Nat} {T : Trip} {fs : List Trip} (h : ixR w.toList = some k) (hl : fs.length = takesR k) (hT : okTr T = true) (hF : fs.all okTr = true) : lineH w T fs = folR T k fs := by
  unfold lineH; rw [h, hT, hF]; dsimp only; rw [beq_iff_eq.2 hl]; rfl
theorem ntext_ne : ∀ nd : Node, nd.ok → nd.text ≠ []
  | .atom a, h => by
    intro he
    have : ([] : List UInt8) = a := he.symm
    subst this
    revert h
    unfold Node.ok
    decide
  | .loop p, _ => by simp [Node.text]
  | .pair k p q, _ => by simp [Node.text]
theorem parts_pair {l : List UInt8} {k : UInt8} (hk : k = 59 ∨ k = 124) (h : kindP l = [k]) : ∃ p q, partsP l = [p, q] ∧ p ≠ [] ∧ q ≠ [] := by
  unfold kindP at h
  unfold partsP
  cases hP : readP l with
  | none => rw [hP] at h; cases h
  | some nd =>
    obtain ⟨hok, _⟩ := readP_iff.1 hP
    cases nd with
    | atom a =>
      rw [hP] at h
      dsimp only at h
      subst h
      exfalso
      revert hok
      unfold Node.ok
      rcases hk with rfl | rfl <;> decide
    | loop p => rw [hP] at h; rcases hk with rfl | rfl <;> cases h
    | pair k' p q =>
      obtain ⟨_, h1, h2⟩ := hok
      exact ⟨_, _, rfl, ntext_ne p h1, ntext_ne q h2⟩
theorem parts_loop {l : List UInt8} (h : kindP l = [123]) : ∃ p, partsP l = [p] ∧ p ≠ [] := by
  unfold kindP at h
  unfold partsP
  cases hP : readP l with
  | none => rw [hP] at h; cases h
  | some nd =>
    obtain ⟨hok, _⟩ := readP_iff.1 hP
    cases nd with
    | atom a =>
      rw [hP] at h
      dsimp only at h
      subst h
      exfalso
      revert hok
      unfold Node.ok
      decide
    | loop p => exact ⟨_, rfl, ntext_ne p hok⟩
    | pair k' p q =>
      rw [hP] at h
      obtain ⟨h1, _, _⟩ := hok
      rcases h1 with rfl | rfl <;> cases h
theorem prt_at {p : ByteArray} {i : Nat} {q : List UInt8} (h : (partsP p.toList)[i]? = some q) : prt p i = ⟨q.toArray⟩ := by unfold prt; rw [h]; rfl

/-! ### Bits -/
theorem none_iff6 (a b : Int) : (bits .andNot .i64 a b == 0) = true ↔ BitVec.ofInt 64 a &&& ~~~ BitVec.ofInt 64 b = 0#64 := by
  have e : bits .andNot .i64 a b = IntKind.i64.wrap ((BitVec.ofInt 64 a &&& ~~~ BitVec.ofInt 64 b).toNat : Int) := rfl
  rw [e, beq_iff_eq]
  have hlt := (BitVec.ofInt 64 a &&& ~~~ BitVec.ofInt 64 b).isLt
  generalize BitVec.ofInt 64 a &&& ~~~ BitVec.ofInt 64 b = v at hlt
  rw [IntKind.wrap_i64]
  constructor
  · intro h
    apply BitVec.eq_of_toNat_eq
    show v.toNat = 0
    omega
  · intro h
    have h0 : v.toNat = 0 := by rw [h]; rfl
    omega
theorem none_left6 (z : Int) : bits .andNot .i64 z z = 0 := by
  show IntKind.i64.wrap ((BitVec.ofInt 64 z &&& ~~~ BitVec.ofInt 64 z).toNat : Int) = 0
  have : BitVec.ofInt 64 z &&& ~~~ BitVec.ofInt 64 z = 0 := by simp
  rw [this]
  rfl
theorem same_bits6 (r z : Int) (hr : 0 ≤ r ∧ r < 512) (hz : 0 ≤ z ∧ z < 512) : (bits .andNot .i64 r z == 0 && bits .andNot .i64 z r == 0) = (r == z) := by
  rw [Bool.eq_iff_iff, Bool.and_eq_true, beq_iff_eq (a := r)]
  constructor
  · rintro ⟨h1, h2⟩
    have e1 := (none_iff6 _ _).1 h1
    have e2 := (none_iff6 _ _).1 h2
    have hv : BitVec.ofInt 64 r = BitVec.ofInt 64 z := by
      ext i hi
      have f1 := congrArg (fun v => v[i]) e1
      have f2 := congrArg (fun v => v[i]) e2
      simp only [BitVec.getElem_and, BitVec.getElem_not, BitVec.getElem_zero] at f1 f2
      revert f1 f2
      cases (BitVec.ofInt 64 r)[i] <;> cases (BitVec.ofInt 64 z)[i] <;> simp
    have hn := congrArg BitVec.toNat hv
    rw [BitVec.toNat_ofInt, BitVec.toNat_ofInt] at hn
    omega
  · rintro rfl
    rw [none_left6]
    exact ⟨rfl, rfl⟩
theorem reach_set6 {p : ByteArray} {b x : Int} (h : reachB p b x = true) : 0 ≤ reachN p b x ∧ reachN p b x < 512 := by
  obtain ⟨nd, m, hP, hm, rfl, hx, hn⟩ := reach_true h
  rw [hn]
  obtain ⟨hok, _⟩ := readP_iff.1 hP
  have hr := run_lt nd hok m hm
  unfold exitN
  split <;> omega
/-- Sure and always: just what is reached. -/
theorem both_iff {T : Trip} (h : okTr T = true) : (sureT T.b T.p T.x T.r && alwaysT T.b T.p T.x T.r) = (T.r == reachN T.p T.b T.x) := by
  have hv : validT T.b T.p T.x T.r = true := h
  obtain ⟨_, _, _, h4⟩ := valid_all hv
  have h5 := reach_set6 (reach_valid hv)
  unfold sureT alwaysT
  rw [hv, Bool.true_and, Bool.true_and]
  exact same_bits6 _ _ (by have := of_decide_eq_true h4; omega) h5
end Go.Proofs.YtgdgbjnmibkmhaaGreatDoor

namespace Go.Proofs.YtgdgbjnmibkmhaaGreatDoor
open Go.ChangeShapes Go.WideShapes Go.ChangeAt Go.RowKit Go.Shelf
attribute [local go_sem] Oper.semAt_some
set_option maxRecDepth 100000

/-- Two texts of the same bytes. -/
theorem text_eq {a b : ByteArray} (h : a.toList = b.toList) : a = b := by
  rw [Lib.toList_data, Lib.toList_data] at h
  exact ByteArray.ext (Array.toList_inj.1 h)
theorem wi22 (a b : Int) (w : World) :
    Calls Tryz.prog 73 #[.int .i64 a, .int .i64 b] w fun e w' => e = .returned (.bool (within a b)) ∧ w = w' := by
  by_cases h1 : isSet a = true
  · by_cases h2 : isSet b = true
    · by_cases h3 : (bits .andNot .i64 a b == 0) = true
      · have h : within a b = true := by simp [within, h1, h2, h3]
        rw [h]; clear h
        go_enter Tryz.func73, Tryz.ntmps73
        go_wp2_with (go_at_call 65; refine (sv25 _ _).mono ?_; rintro e w' ⟨rfl, rfl⟩)
        go_ret
        exact ⟨rfl, rfl⟩
      · have h : within a b = false := by simp [within, h1, h2, h3]
        rw [h]; clear h
        go_enter Tryz.func73, Tryz.ntmps73
        go_wp2_with (go_at_call 65; refine (sv25 _ _).mono ?_; rintro e w' ⟨rfl, rfl⟩)
        go_ret
        exact ⟨rfl, rfl⟩
    · have h : within a b = false := by simp [within, h2]
      rw [h]; clear h
      go_enter Tryz.func73, Tryz.ntmps73
      go_wp2_with (go_at_call 65; refine (sv25 _ _).mono ?_; rintro e w' ⟨rfl, rfl⟩)
      go_ret
      exact ⟨rfl, rfl⟩
  · have h : within a b = false := by simp [within, h1]
    rw [h]; clear h
    go_enter Tryz.func73, Tryz.ntmps73
    go_wp2_with (go_at_call 65; refine (sv25 _ _).mono ?_; rintro e w' ⟨rfl, rfl⟩)
    go_ret
    exact ⟨rfl, rfl⟩
/-- How many triples a rule takes. -/
theorem mrefs34 (k : Nat) (hk : k < 11) (t : ByteArray) (ht : rulesL[k]? = some t.toList) (W : World) :
    Calls Tryz.prog 39 #[.string t] W fun e W' => e = .returned (.int .i64 (takesR k)) ∧ W = W' := by
  match k, hk with
  | 0, _ =>
    have e : t = ⟨#[97, 116, 111, 109]⟩ := text_eq (by simpa using (Option.some.inj ht).symm)
    subst e
    go_enter Tryz.func39, Tryz.ntmps39
    go_wp2_with fail
    go_ret
    exact ⟨rfl, rfl⟩
  | 1, _ =>
    have e : t = ⟨#[110, 111, 110, 101]⟩ := text_eq (by simpa using (Option.some.inj ht).symm)
    subst e
    go_enter Tryz.func39, Tryz.ntmps39
    go_wp2_with fail
    go_ret
    exact ⟨rfl, rfl⟩
  | 2, _ =>
    have e : t = ⟨#[115, 101, 113]⟩ := text_eq (by simpa using (Option.some.inj ht).symm)
    subst e
    go_enter Tryz.func39, Tryz.ntmps39
    go_wp2_with fail
    go_ret
    exact ⟨rfl, rfl⟩
  | 3, _ =>
    have e : t = ⟨#[115, 116, 111, 112]⟩ := text_eq (by simpa using (Option.some.inj ht).symm)
    subst e
    go_enter Tryz.func39, Tryz.ntmps39
    go_wp2_with fail
    go_ret
    exact ⟨rfl, rfl⟩
  | 4, _ =>
    have e : t = ⟨#[108, 101, 102, 116]⟩ := text_eq (by simpa using (Option.some.inj ht).symm)
    subst e
    go_enter Tryz.func39, Tryz.ntmps39
    go_wp2_with fail
    go_ret
    exact ⟨rfl, rfl⟩
  | 5, _ =>
    have e : t = ⟨#[114, 105, 103, 104, 116]⟩ := text_eq (by simpa using (Option.some.inj ht).symm)
    subst e
    go_enter Tryz.func39, Tryz.ntmps39
    go_wp2_with fail
    go_ret
    exact ⟨rfl, rfl⟩
  | 6, _ =>
    have e : t = ⟨#[122, 101, 114, 111]⟩ := text_eq (by simpa using (Option.some.inj ht).symm)
    subst e
    go_enter Tryz.func39, Tryz.ntmps39
    go_wp2_with fail
    go_ret
    exact ⟨rfl, rfl⟩
  | 7, _ =>
    have e : t = ⟨#[111, 110, 99, 101]⟩ := text_eq (by simpa using (Option.some.inj ht).symm)
    subst e
    go_enter Tryz.func39, Tryz.ntmps39
    go_wp2_with fail
    go_ret
    exact ⟨rfl, rfl⟩
  | 8, _ =>
    have e : t = ⟨#[102, 97, 105, 108]⟩ := text_eq (by simpa using (Option.some.inj ht).symm)
    subst e
    go_enter Tryz.func39, Tryz.ntmps39
    go_wp2_with fail
    go_ret
    exact ⟨rfl, rfl⟩
  | 9, _ =>
    have e : t = ⟨#[98, 111, 116, 104]⟩ := text_eq (by simpa using (Option.some.inj ht).symm)
    subst e
    go_enter Tryz.func39, Tryz.ntmps39
    go_wp2_with fail
    go_ret
    exact ⟨rfl, rfl⟩
  | 10, _ =>
    have e : t = ⟨#[108, 101, 115, 115]⟩ := text_eq (by simpa using (Option.some.inj ht).symm)
    subst e
    go_enter Tryz.func39, Tryz.ntmps39
    go_wp2_with fail
    go_ret
    exact ⟨rfl, rfl⟩
def prtK (p : ByteArray) (kd : ByteArray) (i : Nat) : ByteArray := if kindP p.toList = kd.toList then prt p i else ⟨#[]⟩
set_option maxHeartbeats 1000000 in
theorem mpart36 (p kd : ByteArray) (i : Nat) (hp : p.size ≤ 9000000) (hi : kindP p.toList = kd.toList → ∃ q, (partsP p.toList)[i]? = some q) (W : World) :
    Calls Tryz.prog 72 #[.string p, .string kd, .int .i64 (i : Int)] W fun e W' => e = .returned (.string (prtK p kd i)) ∧ Below W.heap.size W W' := by
  have hK := kind19 p hp W
  obtain ⟨kp, hkp⟩ : ∃ kp : ByteArray, kp = ⟨(kindP p.toList).toArray⟩ := ⟨_, rfl⟩
  have HK := Lib.hid (show kp.toList = kindP p.toList by rw [hkp, Lib.toList_data])
  rw [← hkp] at hK
  clear hkp
  cases q : (kp.toList == kd.toList) with
  | false =>
    have hr : prtK p kd i = ⟨#[]⟩ := if_neg (by rw [← HK.out]; exact fun e => by rw [e] at q; simp at q)
    rw [hr]
    go_enter Tryz.func72, Tryz.ntmps72
    go_wp2_with fail
    go_at_call 70
    refine hK.mono ?_
    rintro e W1 ⟨rfl, b1⟩
    go_wp2_with fail
    go_ret
    exact ⟨rfl, b1⟩
  | true =>
    have he : kindP p.toList = kd.toList := by rw [← HK.out]; exact eq_of_beq q
    have hr : prtK p kd i = prt p i := if_pos he
    rw [hr]
    obtain ⟨t, ht⟩ := hi he
    have hlt : i < (partsP p.toList).length := (List.getElem?_eq_some_iff.1 ht).1
    have hlt2 : (i : Int) < ((partsP p.toList).length : Int) := by omega
    have hsm : (partsP p.toList).length ≤ 1000000 := by have := partsP_len p.toList; omega
    have hne : partsP p.toList ≠ [] := by intro e; rw [e] at hlt; simp at hlt
    have HR := Lib.hid (prt_at ht)
    have HT := Lib.hid ht
    generalize prt p i = res at HR ⊢
    have hP := fun X => mparts18 p hp X
    generalize partsP p.toList = ps at HT hlt hlt2 hsm hP hne
    clear ht he hi hr
    go_enter Tryz.func72, Tryz.ntmps72
    go_wp2_with fail
    go_at_call 70
    refine hK.mono ?_
    rintro e W1 ⟨rfl, b1⟩
    go_wp2_with fail
    go_at_call 68
    refine (hP _).mono ?_
    rintro e W2 ⟨v, rfl, hown, b2⟩
    obtain ⟨g, cap, rfl, hg, hcells⟩ := texts_at (ws := ps) hown hne
    have hc := hcells i t HT.out
    rw [← HR.out] at hc
    clear hcells hown
    go_wp2_with fail
    go_ret
    exact ⟨rfl, b1.trans (b2.mono b1.size)⟩
def isT (a : Trip) (b : Int) (p : ByteArray) (x r : Int) : Bool := !p.toList.isEmpty && sameT a.b a.p a.x a.r b p x r
theorem mis38 (a : Trip) (b : Int) (p : ByteArray) (x r : Int) (W : World) :
    Calls Tryz.prog 71 #[.agg #[.int .i64 a.b, .string a.p, .int .i64 a.x, .int .i64 a.r], .int .i64 b, .string p, .int .i64 x, .int .i64 r] W fun e W' => e = .returned (.bool (!p.toList.isEmpty && sameT a.b a.p a.x a.r b p x r)) ∧ Below W.heap.size W W' := by
  have hA : Below W.heap.size W (W.alloc (.cells #[.int .i64 a.b, .string a.p, .int .i64 a.x, .int .i64 a.r] 31)) := (Below.refl _ W).alloc (Nat.le_refl _) _
  have hT := TripAt.new W a.b a.p a.x a.r
  obtain ⟨c0, c1, c2, c3⟩ := hT.cells
  have he := fun w : World => eqTrip a.b a.p a.x a.r b p x r w
  generalize sameT a.b a.p a.x a.r b p x r = res at he ⊢
  go_enter Tryz.func71, Tryz.ntmps71
  cases q : p.toList with
  | nil =>
    have e : p = ⟨#[]⟩ := text_eq (by simpa using q)
    subst e
    go_wp2_with fail
    go_ret
    exact ⟨rfl, hA⟩
  | cons c0 l =>
    have hne : (p.toList == []) = false := by rw [q]; rfl
    go_wp2_with fail
    go_ret
    exact ⟨rfl, hA⟩
theorem row_slice {W : World} {B n size : Nat} {t : TypeId} {v : Value} {xs : List Value} (h : W.ownsRow B t size v n xs) : ∃ a cap, v = .slice a n cap := by
  rcases Go.Joins.ownsRow_forms h with ⟨rfl, hn⟩ | ⟨g, cap, rfl⟩
  · exact ⟨none, 0, by rw [hn]⟩
  · exact ⟨_, _, rfl⟩
theorem part_in_seq {p : ByteArray} (i : Nat) (hi : i < 2) (h : kindP p.toList = (⟨#[59]⟩ : ByteArray).toList) : ∃ q, (partsP p.toList)[i]? = some q := by
  obtain ⟨a, c, e, _, _⟩ := parts_pair (Or.inl rfl) (h.trans (by rw [Lib.toList_data]))
  rw [e]
  match i, hi with
  | 0, _ => exact ⟨_, rfl⟩
  | 1, _ => exact ⟨_, rfl⟩
theorem part_in_or {p : ByteArray} (i : Nat) (hi : i < 2) (h : kindP p.toList = (⟨#[124]⟩ : ByteArray).toList) : ∃ q, (partsP p.toList)[i]? = some q := by
  obtain ⟨a, c, e, _, _⟩ := parts_pair (Or.inr rfl) (h.trans (by rw [Lib.toList_data]))
  rw [e]
  match i, hi with
  | 0, _ => exact ⟨_, rfl⟩
  | 1, _ => exact ⟨_, rfl⟩
theorem part_in_loop {p : ByteArray} (i : Nat) (hi : i < 1) (h : kindP p.toList = (⟨#[123]⟩ : ByteArray).toList) : ∃ q, (partsP p.toList)[i]? = some q := by
  obtain ⟨a, e, _⟩ := parts_loop (h.trans (by rw [Lib.toList_data]))
  rw [e]
  match i, hi with
  | 0, _ => exact ⟨_, rfl⟩
end Go.Proofs.YtgdgbjnmibkmhaaGreatDoor

namespace Go.Proofs.YtgdgbjnmibkmhaaGreatDoor
open Go.ChangeShapes Go.WideShapes Go.ChangeAt Go.RowKit Go.Shelf
attribute [local go_sem] Oper.semAt_some
set_option maxRecDepth 100000

/-- The cells of a triple. -/
def Held1 (X : World) (gT : Nat) (T : Trip) : Prop := X.cell? ⟨gT, 0, none⟩ = some (.int .i64 T.b) ∧ X.cell? ⟨gT, 1, none⟩ = some (.string T.p) ∧ X.cell? ⟨gT, 2, none⟩ = some (.int .i64 T.x) ∧ X.cell? ⟨gT, 3, none⟩ = some (.int .i64 T.r)
theorem Held1.through {A' X Y : World} {gT : Nat} {T : Trip} {n : Nat} (bk : Below n X Y) (h : Held1 A' gT T) (e : A'.heap = X.heap) (hn : X.heap.size ≤ n) : Held1 Y gT T := by
  have hX : Held1 X gT T := by unfold Held1 World.cell? at *; rw [← e]; exact h
  have bk := bk.mono hn
  obtain ⟨h0, h1, h2, h3⟩ := hX
  exact ⟨cell_below bk h0, cell_below bk h1, cell_below bk h2, cell_below bk h3⟩
set_option maxHeartbeats 2000000 in
theorem mnone0 (T : Trip) (hp : T.p.size ≤ 9000000) (W : World) :
    Calls Tryz.prog 41 #[.agg #[.int .i64 T.b, .string T.p, .int .i64 T.x, .int .i64 T.r], .string ⟨#[97, 116, 111, 109]⟩] W fun e W' => e = .returned (.bool ((((partsP T.p.toList).length : Int) == 0 && T.r == reachN T.p T.b T.x))) ∧ Below W.heap.size W W' := by
  have hP := fun X => mparts18 T.p hp X
  have hR := fun X => mreached5 T.b T.p hp T.x T.r X
  generalize reachN T.p T.b T.x = z at hR ⊢
  have hsm : (partsP T.p.toList).length ≤ 1000000 := by have := partsP_len T.p.toList; omega
  generalize partsP T.p.toList = ps at hP hsm ⊢
  have nT := TripAt.new W T.b T.p T.x T.r
  have hcur : Below W.heap.size W (W.alloc (.cells #[.int .i64 T.b, .string T.p, .int .i64 T.x, .int .i64 T.r] 31)) := (Below.refl _ W).alloc (Nat.le_refl _) _
  have hT := nT
  clear nT
  try simp only [World.size_alloc] at hT
  obtain ⟨t0, t1, t2, t3⟩ := hT.cells
  have hq : Held1 _ W.heap.size T := ⟨t0, t1, t2, t3⟩
  cases q : ((ps.length : Int) == 0) with
  | false =>
    go_enter Tryz.func41, Tryz.ntmps41
    go_wp2_with fail
    refine wp_region_held (S := fun w' => Held1 w' W.heap.size T) (by kernel_rfl) ?_
    refine wpAnyH_take (i := 0) (v := .pointer (some ⟨W.heap.size, 1, none⟩)) rfl (by kernel_rfl) (by kernel_rfl) (by kernel_rfl) (fun _ _ _ h => h) (Or.inl ⟨by rfl, fun w hw => by go_simp⟩) hq ?_
    go_simp
    refine wpAnyH_take (i := 1) (v := .string T.p) rfl (by kernel_rfl) (by kernel_rfl) (by kernel_rfl) (fun _ _ _ h => h) (Or.inl ⟨by rfl, fun w hw => by obtain ⟨l0, l1, l2, l3⟩ := hw; first | (go_simp; done) | rfl⟩) hq ?_
    go_simp
    refine wpAnyH_ready (rs := [2]) (by kernel_rfl) (by simp) ?_
    refine AllReadyH.cons rfl (fun K hK => ?_) AllReadyH.nil
    go_simp
    go_wp2_with (go_at_call 68; refine (hP _).mono ?_; rintro e Wk1 ⟨v, rfl, hown, bk1⟩; obtain ⟨ad, cap, rfl⟩ := row_slice hown; clear hown)
    refine hK _ _ (Held1.through bk1 hq rfl (Nat.le_refl _)) (fun hR1 => ?_)
    clear hK K
    go_simp
    refine wpAnyH_take (i := 3) (v := .int .i64 (ps.length : Int)) rfl (by kernel_rfl) (by kernel_rfl) (by kernel_rfl) (fun _ _ _ h => h) (Or.inl ⟨by rfl, fun w hw => by go_simp⟩) hR1 ?_
    go_simp
    refine wpAnyH_take (i := 4) (v := .bool false) rfl (by kernel_rfl) (by kernel_rfl) (by kernel_rfl) (fun _ _ _ h => h) (Or.inl ⟨by rfl, fun w hw => by go_simp⟩) hR1 ?_
    go_simp
    refine wpAnyH_take (i := 5) (v := .bool false) rfl (by kernel_rfl) (by kernel_rfl) (by kernel_rfl) (fun _ _ _ h => h) (Or.inl ⟨by rfl, fun w hw => by go_simp⟩) hR1 ?_
    go_simp
    refine wpAnyH_take (i := 6) (v := undef) rfl (by kernel_rfl) (by kernel_rfl) (by kernel_rfl) (fun _ _ _ h => h) (Or.inr ⟨by rfl, rfl⟩) hR1 ?_
    go_simp
    refine wpAnyH_take (i := 7) (v := undef) rfl (by kernel_rfl) (by kernel_rfl) (by kernel_rfl) (fun _ _ _ h => h) (Or.inr ⟨by rfl, rfl⟩) hR1 ?_
    go_simp
    refine wpAnyH_take (i := 8) (v := undef) rfl (by kernel_rfl) (by kernel_rfl) (by kernel_rfl) (fun _ _ _ h => h) (Or.inr ⟨by rfl, rfl⟩) hR1 ?_
    go_simp
    refine wpAnyH_take (i := 9) (v := undef) rfl (by kernel_rfl) (by kernel_rfl) (by kernel_rfl) (fun _ _ _ h => h) (Or.inr ⟨by rfl, rfl⟩) hR1 ?_
    go_simp
    refine wpAnyH_take (i := 10) (v := undef) rfl (by kernel_rfl) (by kernel_rfl) (by kernel_rfl) (fun _ _ _ h => h) (Or.inr ⟨by rfl, rfl⟩) hR1 ?_
    go_simp
    refine wpAnyH_take (i := 11) (v := .bool false) rfl (by kernel_rfl) (by kernel_rfl) (by kernel_rfl) (fun _ _ _ h => h) (Or.inl ⟨by rfl, fun w hw => by go_simp⟩) hR1 ?_
    go_simp
    refine wpAnyH_take (i := 12) (v := .bool false) rfl (by kernel_rfl) (by kernel_rfl) (by kernel_rfl) (fun _ _ _ h => h) (Or.inl ⟨by rfl, fun w hw => by go_simp⟩) hR1 ?_
    go_simp
    refine wpAnyH_done (by kernel_rfl) ?_ _
    go_wp2_with fail
    go_ret
    exact ⟨rfl, (hcur.drew).trans (bk1.mono (hcur.drew).size)⟩
  | true =>
    go_enter Tryz.func41, Tryz.ntmps41
    go_wp2_with fail
    refine wp_region_held (S := fun w' => Held1 w' W.heap.size T) (by kernel_rfl) ?_
    refine wpAnyH_take (i := 0) (v := .pointer (some ⟨W.heap.size, 1, none⟩)) rfl (by kernel_rfl) (by kernel_rfl) (by kernel_rfl) (fun _ _ _ h => h) (Or.inl ⟨by rfl, fun w hw => by go_simp⟩) hq ?_
    go_simp
    refine wpAnyH_take (i := 1) (v := .string T.p) rfl (by kernel_rfl) (by kernel_rfl) (by kernel_rfl) (fun _ _ _ h => h) (Or.inl ⟨by rfl, fun w hw => by obtain ⟨l0, l1, l2, l3⟩ := hw; first | (go_simp; done) | rfl⟩) hq ?_
    go_simp
    refine wpAnyH_ready (rs := [2]) (by kernel_rfl) (by simp) ?_
    refine AllReadyH.cons rfl (fun K hK => ?_) AllReadyH.nil
    go_simp
    go_wp2_with (go_at_call 68; refine (hP _).mono ?_; rintro e Wk1 ⟨v, rfl, hown, bk1⟩; obtain ⟨ad, cap, rfl⟩ := row_slice hown; clear hown)
    refine hK _ _ (Held1.through bk1 hq rfl (Nat.le_refl _)) (fun hR1 => ?_)
    clear hK K
    go_simp
    refine wpAnyH_take (i := 3) (v := .int .i64 (ps.length : Int)) rfl (by kernel_rfl) (by kernel_rfl) (by kernel_rfl) (fun _ _ _ h => h) (Or.inl ⟨by rfl, fun w hw => by go_simp⟩) hR1 ?_
    go_simp
    refine wpAnyH_take (i := 4) (v := .bool true) rfl (by kernel_rfl) (by kernel_rfl) (by kernel_rfl) (fun _ _ _ h => h) (Or.inl ⟨by rfl, fun w hw => by go_simp⟩) hR1 ?_
    go_simp
    refine wpAnyH_take (i := 5) (v := .bool true) rfl (by kernel_rfl) (by kernel_rfl) (by kernel_rfl) (fun _ _ _ h => h) (Or.inl ⟨by rfl, fun w hw => by go_simp⟩) hR1 ?_
    go_simp
    refine wpAnyH_take (i := 6) (v := .pointer (some ⟨W.heap.size, 3, none⟩)) rfl (by kernel_rfl) (by kernel_rfl) (by kernel_rfl) (fun _ _ _ h => h) (Or.inl ⟨by rfl, fun w hw => by go_simp⟩) hR1 ?_
    go_simp
    refine wpAnyH_take (i := 7) (v := .int .i64 T.r) rfl (by kernel_rfl) (by kernel_rfl) (by kernel_rfl) (fun _ _ _ h => h) (Or.inl ⟨by rfl, fun w hw => by obtain ⟨l0, l1, l2, l3⟩ := hw; first | (go_simp; done) | rfl⟩) hR1 ?_
    go_simp
    refine wpAnyH_take (i := 8) (v := .agg #[.int .i64 T.b, .string T.p, .int .i64 T.x, .int .i64 T.r]) rfl (by kernel_rfl) (by kernel_rfl) (by kernel_rfl) (fun _ _ _ h => h) (Or.inl ⟨by rfl, fun w hw => by obtain ⟨l0, l1, l2, l3⟩ := hw; first | (go_simp; done) | rfl⟩) hR1 ?_
    go_simp
    refine wpAnyH_ready (rs := [9]) (by kernel_rfl) (by simp) ?_
    refine AllReadyH.cons rfl (fun K hK => ?_) AllReadyH.nil
    go_simp
    go_wp2_with (go_at_call 69; refine (hR _).mono ?_; rintro e Wk2 ⟨rfl, bk2⟩)
    refine hK _ _ (Held1.through bk2 hR1 rfl (Nat.le_refl _)) (fun hR2 => ?_)
    clear hK K
    go_simp
    refine wpAnyH_take (i := 10) (v := .bool (T.r == z)) rfl (by kernel_rfl) (by kernel_rfl) (by kernel_rfl) (fun _ _ _ h => h) (Or.inl ⟨by rfl, fun w hw => by go_simp⟩) hR2 ?_
    go_simp
    refine wpAnyH_take (i := 11) (v := .bool (T.r == z)) rfl (by kernel_rfl) (by kernel_rfl) (by kernel_rfl) (fun _ _ _ h => h) (Or.inl ⟨by rfl, fun w hw => by go_simp⟩) hR2 ?_
    go_simp
    refine wpAnyH_take (i := 12) (v := .bool (T.r == z)) rfl (by kernel_rfl) (by kernel_rfl) (by kernel_rfl) (fun _ _ _ h => h) (Or.inl ⟨by rfl, fun w hw => by go_simp⟩) hR2 ?_
    go_simp
    refine wpAnyH_done (by kernel_rfl) ?_ _
    go_wp2_with fail
    go_ret
    exact ⟨rfl, ((hcur.drew).trans (bk1.mono (hcur.drew).size)).trans (bk2.mono ((hcur.drew).trans (bk1.mono (hcur.drew).size)).size)⟩
end Go.Proofs.YtgdgbjnmibkmhaaGreatDoor

namespace Go.Proofs.YtgdgbjnmibkmhaaGreatDoor
open Go.ChangeShapes Go.WideShapes Go.ChangeAt Go.RowKit Go.Shelf
attribute [local go_sem] Oper.semAt_some
set_option maxRecDepth 100000

/-- The cells of 2 triples. -/
def Held2 (X : World) (gT gA : Nat) (T A : Trip) : Prop := X.cell? ⟨gT, 0, none⟩ = some (.int .i64 T.b) ∧ X.cell? ⟨gT, 1, none⟩ = some (.string T.p) ∧ X.cell? ⟨gT, 2, none⟩ = some (.int .i64 T.x) ∧ X.cell? ⟨gT, 3, none⟩ = some (.int .i64 T.r) ∧ X.cell? ⟨gA, 0, none⟩ = some (.int .i64 A.b) ∧ X.cell? ⟨gA, 1, none⟩ = some (.string A.p) ∧ X.cell? ⟨gA, 2, none⟩ = some (.int .i64 A.x) ∧ X.cell? ⟨gA, 3, none⟩ = some (.int .i64 A.r)
theorem Held2.through {A' X Y : World} {gT gA : Nat} {T A : Trip} {n : Nat} (bk : Below n X Y) (h : Held2 A' gT gA T A) (e : A'.heap = X.heap) (hn : X.heap.size ≤ n) : Held2 Y gT gA T A := by
  have hX : Held2 X gT gA T A := by unfold Held2 World.cell? at *; rw [← e]; exact h
  have bk := bk.mono hn
  obtain ⟨h0, h1, h2, h3, h4, h5, h6, h7⟩ := hX
  exact ⟨cell_below bk h0, cell_below bk h1, cell_below bk h2, cell_below bk h3, cell_below bk h4, cell_below bk h5, cell_below bk h6, cell_below bk h7⟩
/-- The cells of 3 triples. -/
def Held3 (X : World) (gT gA gC : Nat) (T A C : Trip) : Prop := X.cell? ⟨gT, 0, none⟩ = some (.int .i64 T.b) ∧ X.cell? ⟨gT, 1, none⟩ = some (.string T.p) ∧ X.cell? ⟨gT, 2, none⟩ = some (.int .i64 T.x) ∧ X.cell? ⟨gT, 3, none⟩ = some (.int .i64 T.r) ∧ X.cell? ⟨gA, 0, none⟩ = some (.int .i64 A.b) ∧ X.cell? ⟨gA, 1, none⟩ = some (.string A.p) ∧ X.cell? ⟨gA, 2, none⟩ = some (.int .i64 A.x) ∧ X.cell? ⟨gA, 3, none⟩ = some (.int .i64 A.r) ∧ X.cell? ⟨gC, 0, none⟩ = some (.int .i64 C.b) ∧ X.cell? ⟨gC, 1, none⟩ = some (.string C.p) ∧ X.cell? ⟨gC, 2, none⟩ = some (.int .i64 C.x) ∧ X.cell? ⟨gC, 3, none⟩ = some (.int .i64 C.r)
theorem Held3.through {A' X Y : World} {gT gA gC : Nat} {T A C : Trip} {n : Nat} (bk : Below n X Y) (h : Held3 A' gT gA gC T A C) (e : A'.heap = X.heap) (hn : X.heap.size ≤ n) : Held3 Y gT gA gC T A C := by
  have hX : Held3 X gT gA gC T A C := by unfold Held3 World.cell? at *; rw [← e]; exact h
  have bk := bk.mono hn
  obtain ⟨h0, h1, h2, h3, h4, h5, h6, h7, h8, h9, h10, h11⟩ := hX
  exact ⟨cell_below bk h0, cell_below bk h1, cell_below bk h2, cell_below bk h3, cell_below bk h4, cell_below bk h5, cell_below bk h6, cell_below bk h7, cell_below bk h8, cell_below bk h9, cell_below bk h10, cell_below bk h11⟩
set_option maxHeartbeats 2000000 in
theorem mnone1 (T : Trip) (_ : T.p.size ≤ 9000000) (W : World) :
    Calls Tryz.prog 41 #[.agg #[.int .i64 T.b, .string T.p, .int .i64 T.x, .int .i64 T.r], .string ⟨#[110, 111, 110, 101]⟩] W fun e W' => e = .returned (.bool (T.r == 0)) ∧ Below W.heap.size W W' := by
  have nT := TripAt.new W T.b T.p T.x T.r
  have hcur : Below W.heap.size W (W.alloc (.cells #[.int .i64 T.b, .string T.p, .int .i64 T.x, .int .i64 T.r] 31)) := (Below.refl _ W).alloc (Nat.le_refl _) _
  have hT := nT
  clear nT
  try simp only [World.size_alloc] at hT
  obtain ⟨t0, t1, t2, t3⟩ := hT.cells
  go_enter Tryz.func41, Tryz.ntmps41
  go_wp2_with fail
  go_ret
  exact ⟨rfl, hcur⟩
set_option maxHeartbeats 2000000 in
theorem mnone6 (T : Trip) (hp : T.p.size ≤ 9000000) (W : World) :
    Calls Tryz.prog 41 #[.agg #[.int .i64 T.b, .string T.p, .int .i64 T.x, .int .i64 T.r], .string ⟨#[122, 101, 114, 111]⟩] W fun e W' => e = .returned (.bool (kindP T.p.toList == [123] && (T.x == 0 && T.r == T.b))) ∧ Below W.heap.size W W' := by
  have hK := fun X => kind19 T.p hp X
  obtain ⟨kp, hkp⟩ : ∃ kp : ByteArray, kp = ⟨(kindP T.p.toList).toArray⟩ := ⟨_, rfl⟩
  have HK := show kp.toList = kindP T.p.toList by rw [hkp, Lib.toList_data]
  rw [← hkp] at hK
  rw [← HK]
  clear hkp HK
  have nT := TripAt.new W T.b T.p T.x T.r
  have hcur : Below W.heap.size W (W.alloc (.cells #[.int .i64 T.b, .string T.p, .int .i64 T.x, .int .i64 T.r] 31)) := (Below.refl _ W).alloc (Nat.le_refl _) _
  have hT := nT
  clear nT
  try simp only [World.size_alloc] at hT
  obtain ⟨t0, t1, t2, t3⟩ := hT.cells
  cases q : (kp.toList == [123]) with
  | false =>
    go_enter Tryz.func41, Tryz.ntmps41
    go_wp2_with fail
    go_at_call 70
    refine (hK _).mono ?_
    rintro e Wk ⟨rfl, bk⟩
    have hcur := hcur.trans (bk.mono hcur.size)
    have hT := hT.below bk hT.lt
    clear bk
    obtain ⟨t0, t1, t2, t3⟩ := hT.cells
    go_wp2_with fail
    go_ret
    exact ⟨rfl, hcur⟩
  | true =>
    cases q2 : (T.x == 0) with
    | false =>
      go_enter Tryz.func41, Tryz.ntmps41
      go_wp2_with fail
      go_at_call 70
      refine (hK _).mono ?_
      rintro e Wk ⟨rfl, bk⟩
      have hcur := hcur.trans (bk.mono hcur.size)
      have hT := hT.below bk hT.lt
      clear bk
      obtain ⟨t0, t1, t2, t3⟩ := hT.cells
      go_wp2_with fail
      go_ret
      exact ⟨rfl, hcur⟩
    | true =>
      go_enter Tryz.func41, Tryz.ntmps41
      go_wp2_with fail
      go_at_call 70
      refine (hK _).mono ?_
      rintro e Wk ⟨rfl, bk⟩
      have hcur := hcur.trans (bk.mono hcur.size)
      have hT := hT.below bk hT.lt
      clear bk
      obtain ⟨t0, t1, t2, t3⟩ := hT.cells
      go_wp2_with fail
      go_ret
      exact ⟨rfl, hcur⟩
set_option maxHeartbeats 2000000 in
theorem mone3 (T A : Trip) (hp : T.p.size ≤ 9000000) (W : World) :
    Calls Tryz.prog 42 #[.agg #[.int .i64 T.b, .string T.p, .int .i64 T.x, .int .i64 T.r], .string ⟨#[115, 116, 111, 112]⟩, .agg #[.int .i64 A.b, .string A.p, .int .i64 A.x, .int .i64 A.r]] W fun e W' => e = .returned (.bool (T.x == 1 && isT A T.b (prtK T.p ⟨#[59]⟩ 0) T.x T.r)) ∧ Below W.heap.size W W' := by
  have hP0 := fun X => mpart36 T.p ⟨#[59]⟩ 0 hp (part_in_seq 0 (by omega)) X
  generalize prtK T.p ⟨#[59]⟩ 0 = q0 at hP0 ⊢
  have hI := fun X => mis38 A T.b q0 T.x T.r X
  change ∀ X, Calls _ _ _ X fun e W' => e = .returned (.bool (isT A T.b q0 T.x T.r)) ∧ Below X.heap.size X W' at hI
  generalize isT A T.b q0 T.x T.r = res at hI ⊢
  have nT := TripAt.new W T.b T.p T.x T.r
  have nA := TripAt.new (W.alloc (.cells #[.int .i64 T.b, .string T.p, .int .i64 T.x, .int .i64 T.r] 31)) A.b A.p A.x A.r
  have hcur : Below W.heap.size W ((W.alloc (.cells #[.int .i64 T.b, .string T.p, .int .i64 T.x, .int .i64 T.r] 31)).alloc (.cells #[.int .i64 A.b, .string A.p, .int .i64 A.x, .int .i64 A.r] 31)) := ((Below.refl _ W).alloc (Nat.le_refl _) _).alloc (by simp <;> omega) _
  have hT := nT.below ((Below.refl (W.alloc (.cells #[.int .i64 T.b, .string T.p, .int .i64 T.x, .int .i64 T.r] 31)).heap.size (W.alloc (.cells #[.int .i64 T.b, .string T.p, .int .i64 T.x, .int .i64 T.r] 31))).alloc (by simp <;> omega) (.cells #[.int .i64 A.b, .string A.p, .int .i64 A.x, .int .i64 A.r] 31)) nT.lt
  have hA := nA
  clear nT nA
  try simp only [World.size_alloc] at hT hA
  obtain ⟨t0, t1, t2, t3⟩ := hT.cells
  obtain ⟨a0, a1, a2, a3⟩ := hA.cells
  have hq : Held2 _ W.heap.size (W.heap.size + 1) T A := ⟨t0, t1, t2, t3, a0, a1, a2, a3⟩
  cases q : (T.x == 1) with
  | false =>
    go_enter Tryz.func42, Tryz.ntmps42
    go_wp2_with fail
    refine wp_region_held (S := fun w' => Held2 w' W.heap.size (W.heap.size + 1) T A) (by kernel_rfl) ?_
    refine wpAnyH_take (i := 0) (v := .pointer (some ⟨W.heap.size, 2, none⟩)) rfl (by kernel_rfl) (by kernel_rfl) (by kernel_rfl) (fun _ _ _ h => h) (Or.inl ⟨by rfl, fun w hw => by go_simp⟩) hq ?_
    go_simp
    refine wpAnyH_take (i := 1) (v := .int .i64 T.x) rfl (by kernel_rfl) (by kernel_rfl) (by kernel_rfl) (fun _ _ _ h => h) (Or.inl ⟨by rfl, fun w hw => by obtain ⟨l0, l1, l2, l3, l4, l5, l6, l7⟩ := hw; first | (go_simp; done) | rfl⟩) hq ?_
    go_simp
    refine wpAnyH_take (i := 2) (v := .bool false) rfl (by kernel_rfl) (by kernel_rfl) (by kernel_rfl) (fun _ _ _ h => h) (Or.inl ⟨by rfl, fun w hw => by go_simp⟩) hq ?_
    go_simp
    refine wpAnyH_take (i := 3) (v := .bool false) rfl (by kernel_rfl) (by kernel_rfl) (by kernel_rfl) (fun _ _ _ h => h) (Or.inl ⟨by rfl, fun w hw => by go_simp⟩) hq ?_
    go_simp
    refine wpAnyH_take (i := 4) (v := undef) rfl (by kernel_rfl) (by kernel_rfl) (by kernel_rfl) (fun _ _ _ h => h) (Or.inr ⟨by rfl, rfl⟩) hq ?_
    go_simp
    refine wpAnyH_take (i := 5) (v := undef) rfl (by kernel_rfl) (by kernel_rfl) (by kernel_rfl) (fun _ _ _ h => h) (Or.inr ⟨by rfl, rfl⟩) hq ?_
    go_simp
    refine wpAnyH_take (i := 6) (v := undef) rfl (by kernel_rfl) (by kernel_rfl) (by kernel_rfl) (fun _ _ _ h => h) (Or.inr ⟨by rfl, rfl⟩) hq ?_
    go_simp
    refine wpAnyH_take (i := 7) (v := undef) rfl (by kernel_rfl) (by kernel_rfl) (by kernel_rfl) (fun _ _ _ h => h) (Or.inr ⟨by rfl, rfl⟩) hq ?_
    go_simp
    refine wpAnyH_take (i := 8) (v := undef) rfl (by kernel_rfl) (by kernel_rfl) (by kernel_rfl) (fun _ _ _ h => h) (Or.inr ⟨by rfl, rfl⟩) hq ?_
    go_simp
    refine wpAnyH_take (i := 9) (v := undef) rfl (by kernel_rfl) (by kernel_rfl) (by kernel_rfl) (fun _ _ _ h => h) (Or.inr ⟨by rfl, rfl⟩) hq ?_
    go_simp
    refine wpAnyH_take (i := 10) (v := undef) rfl (by kernel_rfl) (by kernel_rfl) (by kernel_rfl) (fun _ _ _ h => h) (Or.inr ⟨by rfl, rfl⟩) hq ?_
    go_simp
    refine wpAnyH_take (i := 11) (v := undef) rfl (by kernel_rfl) (by kernel_rfl) (by kernel_rfl) (fun _ _ _ h => h) (Or.inr ⟨by rfl, rfl⟩) hq ?_
    go_simp
    refine wpAnyH_take (i := 12) (v := undef) rfl (by kernel_rfl) (by kernel_rfl) (by kernel_rfl) (fun _ _ _ h => h) (Or.inr ⟨by rfl, rfl⟩) hq ?_
    go_simp
    refine wpAnyH_take (i := 13) (v := undef) rfl (by kernel_rfl) (by kernel_rfl) (by kernel_rfl) (fun _ _ _ h => h) (Or.inr ⟨by rfl, rfl⟩) hq ?_
    go_simp
    refine wpAnyH_take (i := 14) (v := undef) rfl (by kernel_rfl) (by kernel_rfl) (by kernel_rfl) (fun _ _ _ h => h) (Or.inr ⟨by rfl, rfl⟩) hq ?_
    go_simp
    refine wpAnyH_take (i := 15) (v := .bool false) rfl (by kernel_rfl) (by kernel_rfl) (by kernel_rfl) (fun _ _ _ h => h) (Or.inl ⟨by rfl, fun w hw => by go_simp⟩) hq ?_
    go_simp
    refine wpAnyH_take (i := 16) (v := .bool false) rfl (by kernel_rfl) (by kernel_rfl) (by kernel_rfl) (fun _ _ _ h => h) (Or.inl ⟨by rfl, fun w hw => by go_simp⟩) hq ?_
    go_simp
    refine wpAnyH_done (by kernel_rfl) ?_ _
    go_wp2_with fail
    go_ret
    exact ⟨rfl, hcur.drew⟩
  | true =>
    have hx : (T.x == 1) = true := q
    go_enter Tryz.func42, Tryz.ntmps42
    go_wp2_with fail
    refine wp_region_held (S := fun w' => Held2 w' W.heap.size (W.heap.size + 1) T A) (by kernel_rfl) ?_
    refine wpAnyH_take (i := 0) (v := .pointer (some ⟨W.heap.size, 2, none⟩)) rfl (by kernel_rfl) (by kernel_rfl) (by kernel_rfl) (fun _ _ _ h => h) (Or.inl ⟨by rfl, fun w hw => by go_simp⟩) hq ?_
    go_simp
    refine wpAnyH_take (i := 1) (v := .int .i64 T.x) rfl (by kernel_rfl) (by kernel_rfl) (by kernel_rfl) (fun _ _ _ h => h) (Or.inl ⟨by rfl, fun w hw => by obtain ⟨l0, l1, l2, l3, l4, l5, l6, l7⟩ := hw; first | (go_simp; done) | rfl⟩) hq ?_
    go_simp
    refine wpAnyH_take (i := 2) (v := .bool true) rfl (by kernel_rfl) (by kernel_rfl) (by kernel_rfl) (fun _ _ _ h => h) (Or.inl ⟨by rfl, fun w hw => by go_simp⟩) hq ?_
    go_simp
    refine wpAnyH_take (i := 3) (v := .bool true) rfl (by kernel_rfl) (by kernel_rfl) (by kernel_rfl) (fun _ _ _ h => h) (Or.inl ⟨by rfl, fun w hw => by go_simp⟩) hq ?_
    go_simp
    refine wpAnyH_take (i := 4) (v := .agg #[.int .i64 A.b, .string A.p, .int .i64 A.x, .int .i64 A.r]) rfl (by kernel_rfl) (by kernel_rfl) (by kernel_rfl) (fun _ _ _ h => h) (Or.inl ⟨by rfl, fun w hw => by obtain ⟨l0, l1, l2, l3, l4, l5, l6, l7⟩ := hw; first | (go_simp; done) | rfl⟩) hq ?_
    go_simp
    refine wpAnyH_take (i := 5) (v := .pointer (some ⟨W.heap.size, 0, none⟩)) rfl (by kernel_rfl) (by kernel_rfl) (by kernel_rfl) (fun _ _ _ h => h) (Or.inl ⟨by rfl, fun w hw => by go_simp⟩) hq ?_
    go_simp
    refine wpAnyH_take (i := 6) (v := .int .i64 T.b) rfl (by kernel_rfl) (by kernel_rfl) (by kernel_rfl) (fun _ _ _ h => h) (Or.inl ⟨by rfl, fun w hw => by obtain ⟨l0, l1, l2, l3, l4, l5, l6, l7⟩ := hw; first | (go_simp; done) | rfl⟩) hq ?_
    go_simp
    refine wpAnyH_take (i := 7) (v := .pointer (some ⟨W.heap.size, 1, none⟩)) rfl (by kernel_rfl) (by kernel_rfl) (by kernel_rfl) (fun _ _ _ h => h) (Or.inl ⟨by rfl, fun w hw => by go_simp⟩) hq ?_
    go_simp
    refine wpAnyH_take (i := 8) (v := .string T.p) rfl (by kernel_rfl) (by kernel_rfl) (by kernel_rfl) (fun _ _ _ h => h) (Or.inl ⟨by rfl, fun w hw => by obtain ⟨l0, l1, l2, l3, l4, l5, l6, l7⟩ := hw; first | (go_simp; done) | rfl⟩) hq ?_
    go_simp
    refine wpAnyH_take (i := 10) (v := .pointer (some ⟨W.heap.size, 2, none⟩)) rfl (by kernel_rfl) (by kernel_rfl) (by kernel_rfl) (fun _ _ _ h => h) (Or.inl ⟨by rfl, fun w hw => by go_simp⟩) hq ?_
    go_simp
    refine wpAnyH_take (i := 11) (v := .int .i64 T.x) rfl (by kernel_rfl) (by kernel_rfl) (by kernel_rfl) (fun _ _ _ h => h) (Or.inl ⟨by rfl, fun w hw => by obtain ⟨l0, l1, l2, l3, l4, l5, l6, l7⟩ := hw; first | (go_simp; done) | rfl⟩) hq ?_
    go_simp
    refine wpAnyH_take (i := 12) (v := .pointer (some ⟨W.heap.size, 3, none⟩)) rfl (by kernel_rfl) (by kernel_rfl) (by kernel_rfl) (fun _ _ _ h => h) (Or.inl ⟨by rfl, fun w hw => by go_simp⟩) hq ?_
    go_simp
    refine wpAnyH_take (i := 13) (v := .int .i64 T.r) rfl (by kernel_rfl) (by kernel_rfl) (by kernel_rfl) (fun _ _ _ h => h) (Or.inl ⟨by rfl, fun w hw => by obtain ⟨l0, l1, l2, l3, l4, l5, l6, l7⟩ := hw; first | (go_simp; done) | rfl⟩) hq ?_
    go_simp
    refine wpAnyH_ready (rs := [9]) (by kernel_rfl) (by simp) ?_
    refine AllReadyH.cons rfl (fun K hK => ?_) AllReadyH.nil
    go_simp
    go_wp2_with (go_at_call 72; refine (hP0 _).mono ?_; rintro e Wk1 ⟨rfl, bk1⟩)
    refine hK _ _ (Held2.through bk1 hq rfl (Nat.le_refl _)) (fun hR1 => ?_)
    clear hK K
    go_simp
    refine wpAnyH_ready (rs := [14]) (by kernel_rfl) (by simp) ?_
    refine AllReadyH.cons rfl (fun K hK => ?_) AllReadyH.nil
    go_simp
    go_wp2_with (go_at_call 71; refine (hI _).mono ?_; rintro e Wk2 ⟨rfl, bk2⟩)
    refine hK _ _ (Held2.through bk2 hR1 rfl (Nat.le_refl _)) (fun hR2 => ?_)
    clear hK K
    go_simp
    refine wpAnyH_take (i := 15) (v := .bool res) rfl (by kernel_rfl) (by kernel_rfl) (by kernel_rfl) (fun _ _ _ h => h) (Or.inl ⟨by rfl, fun w hw => by go_simp⟩) hR2 ?_
    go_simp
    refine wpAnyH_take (i := 16) (v := .bool res) rfl (by kernel_rfl) (by kernel_rfl) (by kernel_rfl) (fun _ _ _ h => h) (Or.inl ⟨by rfl, fun w hw => by go_simp⟩) hR2 ?_
    go_simp
    refine wpAnyH_done (by kernel_rfl) ?_ _
    go_wp2_with fail
    go_ret
    exact ⟨rfl, ((hcur.drew).trans (bk1.mono (hcur.drew).size)).trans (bk2.mono ((hcur.drew).trans (bk1.mono (hcur.drew).size)).size)⟩
set_option maxHeartbeats 2000000 in
theorem mone4 (T A : Trip) (hp : T.p.size ≤ 9000000) (W : World) :
    Calls Tryz.prog 42 #[.agg #[.int .i64 T.b, .string T.p, .int .i64 T.x, .int .i64 T.r], .string ⟨#[108, 101, 102, 116]⟩, .agg #[.int .i64 A.b, .string A.p, .int .i64 A.x, .int .i64 A.r]] W fun e W' => e = .returned (.bool (isT A T.b (prtK T.p ⟨#[124]⟩ 0) T.x T.r)) ∧ Below W.heap.size W W' := by
  have hP0 := fun X => mpart36 T.p ⟨#[124]⟩ 0 hp (part_in_or 0 (by omega)) X
  generalize prtK T.p ⟨#[124]⟩ 0 = q0 at hP0 ⊢
  have hI := fun X => mis38 A T.b q0 T.x T.r X
  change ∀ X, Calls _ _ _ X fun e W' => e = .returned (.bool (isT A T.b q0 T.x T.r)) ∧ Below X.heap.size X W' at hI
  generalize isT A T.b q0 T.x T.r = res at hI ⊢
  have nT := TripAt.new W T.b T.p T.x T.r
  have nA := TripAt.new (W.alloc (.cells #[.int .i64 T.b, .string T.p, .int .i64 T.x, .int .i64 T.r] 31)) A.b A.p A.x A.r
  have hcur : Below W.heap.size W ((W.alloc (.cells #[.int .i64 T.b, .string T.p, .int .i64 T.x, .int .i64 T.r] 31)).alloc (.cells #[.int .i64 A.b, .string A.p, .int .i64 A.x, .int .i64 A.r] 31)) := ((Below.refl _ W).alloc (Nat.le_refl _) _).alloc (by simp <;> omega) _
  have hT := nT.below ((Below.refl (W.alloc (.cells #[.int .i64 T.b, .string T.p, .int .i64 T.x, .int .i64 T.r] 31)).heap.size (W.alloc (.cells #[.int .i64 T.b, .string T.p, .int .i64 T.x, .int .i64 T.r] 31))).alloc (by simp <;> omega) (.cells #[.int .i64 A.b, .string A.p, .int .i64 A.x, .int .i64 A.r] 31)) nT.lt
  have hA := nA
  clear nT nA
  try simp only [World.size_alloc] at hT hA
  obtain ⟨t0, t1, t2, t3⟩ := hT.cells
  obtain ⟨a0, a1, a2, a3⟩ := hA.cells
  have hq : Held2 _ W.heap.size (W.heap.size + 1) T A := ⟨t0, t1, t2, t3, a0, a1, a2, a3⟩
  go_enter Tryz.func42, Tryz.ntmps42
  go_wp2_with fail
  refine wp_region_held (S := fun w' => Held2 w' W.heap.size (W.heap.size + 1) T A) (by kernel_rfl) ?_
  refine wpAnyH_take (i := 0) (v := .agg #[.int .i64 A.b, .string A.p, .int .i64 A.x, .int .i64 A.r]) rfl (by kernel_rfl) (by kernel_rfl) (by kernel_rfl) (fun _ _ _ h => h) (Or.inl ⟨by rfl, fun w hw => by obtain ⟨l0, l1, l2, l3, l4, l5, l6, l7⟩ := hw; first | (go_simp; done) | rfl⟩) hq ?_
  go_simp
  refine wpAnyH_take (i := 1) (v := .pointer (some ⟨W.heap.size, 0, none⟩)) rfl (by kernel_rfl) (by kernel_rfl) (by kernel_rfl) (fun _ _ _ h => h) (Or.inl ⟨by rfl, fun w hw => by go_simp⟩) hq ?_
  go_simp
  refine wpAnyH_take (i := 2) (v := .int .i64 T.b) rfl (by kernel_rfl) (by kernel_rfl) (by kernel_rfl) (fun _ _ _ h => h) (Or.inl ⟨by rfl, fun w hw => by obtain ⟨l0, l1, l2, l3, l4, l5, l6, l7⟩ := hw; first | (go_simp; done) | rfl⟩) hq ?_
  go_simp
  refine wpAnyH_take (i := 3) (v := .pointer (some ⟨W.heap.size, 1, none⟩)) rfl (by kernel_rfl) (by kernel_rfl) (by kernel_rfl) (fun _ _ _ h => h) (Or.inl ⟨by rfl, fun w hw => by go_simp⟩) hq ?_
  go_simp
  refine wpAnyH_take (i := 4) (v := .string T.p) rfl (by kernel_rfl) (by kernel_rfl) (by kernel_rfl) (fun _ _ _ h => h) (Or.inl ⟨by rfl, fun w hw => by obtain ⟨l0, l1, l2, l3, l4, l5, l6, l7⟩ := hw; first | (go_simp; done) | rfl⟩) hq ?_
  go_simp
  refine wpAnyH_take (i := 6) (v := .pointer (some ⟨W.heap.size, 2, none⟩)) rfl (by kernel_rfl) (by kernel_rfl) (by kernel_rfl) (fun _ _ _ h => h) (Or.inl ⟨by rfl, fun w hw => by go_simp⟩) hq ?_
  go_simp
  refine wpAnyH_take (i := 7) (v := .int .i64 T.x) rfl (by kernel_rfl) (by kernel_rfl) (by kernel_rfl) (fun _ _ _ h => h) (Or.inl ⟨by rfl, fun w hw => by obtain ⟨l0, l1, l2, l3, l4, l5, l6, l7⟩ := hw; first | (go_simp; done) | rfl⟩) hq ?_
  go_simp
  refine wpAnyH_take (i := 8) (v := .pointer (some ⟨W.heap.size, 3, none⟩)) rfl (by kernel_rfl) (by kernel_rfl) (by kernel_rfl) (fun _ _ _ h => h) (Or.inl ⟨by rfl, fun w hw => by go_simp⟩) hq ?_
  go_simp
  refine wpAnyH_take (i := 9) (v := .int .i64 T.r) rfl (by kernel_rfl) (by kernel_rfl) (by kernel_rfl) (fun _ _ _ h => h) (Or.inl ⟨by rfl, fun w hw => by obtain ⟨l0, l1, l2, l3, l4, l5, l6, l7⟩ := hw; first | (go_simp; done) | rfl⟩) hq ?_
  go_simp
  refine wpAnyH_ready (rs := [5]) (by kernel_rfl) (by simp) ?_
  refine AllReadyH.cons rfl (fun K hK => ?_) AllReadyH.nil
  go_simp
  go_wp2_with (go_at_call 72; refine (hP0 _).mono ?_; rintro e Wk1 ⟨rfl, bk1⟩)
  refine hK _ _ (Held2.through bk1 hq rfl (Nat.le_refl _)) (fun hR1 => ?_)
  clear hK K
  go_simp
  refine wpAnyH_ready (rs := [10]) (by kernel_rfl) (by simp) ?_
  refine AllReadyH.cons rfl (fun K hK => ?_) AllReadyH.nil
  go_simp
  go_wp2_with (go_at_call 71; refine (hI _).mono ?_; rintro e Wk2 ⟨rfl, bk2⟩)
  refine hK _ _ (Held2.through bk2 hR1 rfl (Nat.le_refl _)) (fun hR2 => ?_)
  clear hK K
  go_simp
  refine wpAnyH_take (i := 11) (v := .bool res) rfl (by kernel_rfl) (by kernel_rfl) (by kernel_rfl) (fun _ _ _ h => h) (Or.inl ⟨by rfl, fun w hw => by go_simp⟩) hR2 ?_
  go_simp
  refine wpAnyH_done (by kernel_rfl) ?_ _
  go_wp2_with fail
  go_ret
  exact ⟨rfl, ((hcur.drew).trans (bk1.mono (hcur.drew).size)).trans (bk2.mono ((hcur.drew).trans (bk1.mono (hcur.drew).size)).size)⟩
set_option maxHeartbeats 2000000 in
theorem mone5 (T A : Trip) (hp : T.p.size ≤ 9000000) (W : World) :
    Calls Tryz.prog 42 #[.agg #[.int .i64 T.b, .string T.p, .int .i64 T.x, .int .i64 T.r], .string ⟨#[114, 105, 103, 104, 116]⟩, .agg #[.int .i64 A.b, .string A.p, .int .i64 A.x, .int .i64 A.r]] W fun e W' => e = .returned (.bool (isT A T.b (prtK T.p ⟨#[124]⟩ 1) T.x T.r)) ∧ Below W.heap.size W W' := by
  have hP0 := fun X => mpart36 T.p ⟨#[124]⟩ 1 hp (part_in_or 1 (by omega)) X
  generalize prtK T.p ⟨#[124]⟩ 1 = q0 at hP0 ⊢
  have hI := fun X => mis38 A T.b q0 T.x T.r X
  change ∀ X, Calls _ _ _ X fun e W' => e = .returned (.bool (isT A T.b q0 T.x T.r)) ∧ Below X.heap.size X W' at hI
  generalize isT A T.b q0 T.x T.r = res at hI ⊢
  have nT := TripAt.new W T.b T.p T.x T.r
  have nA := TripAt.new (W.alloc (.cells #[.int .i64 T.b, .string T.p, .int .i64 T.x, .int .i64 T.r] 31)) A.b A.p A.x A.r
  have hcur : Below W.heap.size W ((W.alloc (.cells #[.int .i64 T.b, .string T.p, .int .i64 T.x, .int .i64 T.r] 31)).alloc (.cells #[.int .i64 A.b, .string A.p, .int .i64 A.x, .int .i64 A.r] 31)) := ((Below.refl _ W).alloc (Nat.le_refl _) _).alloc (by simp <;> omega) _
  have hT := nT.below ((Below.refl (W.alloc (.cells #[.int .i64 T.b, .string T.p, .int .i64 T.x, .int .i64 T.r] 31)).heap.size (W.alloc (.cells #[.int .i64 T.b, .string T.p, .int .i64 T.x, .int .i64 T.r] 31))).alloc (by simp <;> omega) (.cells #[.int .i64 A.b, .string A.p, .int .i64 A.x, .int .i64 A.r] 31)) nT.lt
  have hA := nA
  clear nT nA
  try simp only [World.size_alloc] at hT hA
  obtain ⟨t0, t1, t2, t3⟩ := hT.cells
  obtain ⟨a0, a1, a2, a3⟩ := hA.cells
  have hq : Held2 _ W.heap.size (W.heap.size + 1) T A := ⟨t0, t1, t2, t3, a0, a1, a2, a3⟩
  go_enter Tryz.func42, Tryz.ntmps42
  go_wp2_with fail
  refine wp_region_held (S := fun w' => Held2 w' W.heap.size (W.heap.size + 1) T A) (by kernel_rfl) ?_
  refine wpAnyH_take (i := 0) (v := .agg #[.int .i64 A.b, .string A.p, .int .i64 A.x, .int .i64 A.r]) rfl (by kernel_rfl) (by kernel_rfl) (by kernel_rfl) (fun _ _ _ h => h) (Or.inl ⟨by rfl, fun w hw => by obtain ⟨l0, l1, l2, l3, l4, l5, l6, l7⟩ := hw; first | (go_simp; done) | rfl⟩) hq ?_
  go_simp
  refine wpAnyH_take (i := 1) (v := .pointer (some ⟨W.heap.size, 0, none⟩)) rfl (by kernel_rfl) (by kernel_rfl) (by kernel_rfl) (fun _ _ _ h => h) (Or.inl ⟨by rfl, fun w hw => by go_simp⟩) hq ?_
  go_simp
  refine wpAnyH_take (i := 2) (v := .int .i64 T.b) rfl (by kernel_rfl) (by kernel_rfl) (by kernel_rfl) (fun _ _ _ h => h) (Or.inl ⟨by rfl, fun w hw => by obtain ⟨l0, l1, l2, l3, l4, l5, l6, l7⟩ := hw; first | (go_simp; done) | rfl⟩) hq ?_
  go_simp
  refine wpAnyH_take (i := 3) (v := .pointer (some ⟨W.heap.size, 1, none⟩)) rfl (by kernel_rfl) (by kernel_rfl) (by kernel_rfl) (fun _ _ _ h => h) (Or.inl ⟨by rfl, fun w hw => by go_simp⟩) hq ?_
  go_simp
  refine wpAnyH_take (i := 4) (v := .string T.p) rfl (by kernel_rfl) (by kernel_rfl) (by kernel_rfl) (fun _ _ _ h => h) (Or.inl ⟨by rfl, fun w hw => by obtain ⟨l0, l1, l2, l3, l4, l5, l6, l7⟩ := hw; first | (go_simp; done) | rfl⟩) hq ?_
  go_simp
  refine wpAnyH_take (i := 6) (v := .pointer (some ⟨W.heap.size, 2, none⟩)) rfl (by kernel_rfl) (by kernel_rfl) (by kernel_rfl) (fun _ _ _ h => h) (Or.inl ⟨by rfl, fun w hw => by go_simp⟩) hq ?_
  go_simp
  refine wpAnyH_take (i := 7) (v := .int .i64 T.x) rfl (by kernel_rfl) (by kernel_rfl) (by kernel_rfl) (fun _ _ _ h => h) (Or.inl ⟨by rfl, fun w hw => by obtain ⟨l0, l1, l2, l3, l4, l5, l6, l7⟩ := hw; first | (go_simp; done) | rfl⟩) hq ?_
  go_simp
  refine wpAnyH_take (i := 8) (v := .pointer (some ⟨W.heap.size, 3, none⟩)) rfl (by kernel_rfl) (by kernel_rfl) (by kernel_rfl) (fun _ _ _ h => h) (Or.inl ⟨by rfl, fun w hw => by go_simp⟩) hq ?_
  go_simp
  refine wpAnyH_take (i := 9) (v := .int .i64 T.r) rfl (by kernel_rfl) (by kernel_rfl) (by kernel_rfl) (fun _ _ _ h => h) (Or.inl ⟨by rfl, fun w hw => by obtain ⟨l0, l1, l2, l3, l4, l5, l6, l7⟩ := hw; first | (go_simp; done) | rfl⟩) hq ?_
  go_simp
  refine wpAnyH_ready (rs := [5]) (by kernel_rfl) (by simp) ?_
  refine AllReadyH.cons rfl (fun K hK => ?_) AllReadyH.nil
  go_simp
  go_wp2_with (go_at_call 72; refine (hP0 _).mono ?_; rintro e Wk1 ⟨rfl, bk1⟩)
  refine hK _ _ (Held2.through bk1 hq rfl (Nat.le_refl _)) (fun hR1 => ?_)
  clear hK K
  go_simp
  refine wpAnyH_ready (rs := [10]) (by kernel_rfl) (by simp) ?_
  refine AllReadyH.cons rfl (fun K hK => ?_) AllReadyH.nil
  go_simp
  go_wp2_with (go_at_call 71; refine (hI _).mono ?_; rintro e Wk2 ⟨rfl, bk2⟩)
  refine hK _ _ (Held2.through bk2 hR1 rfl (Nat.le_refl _)) (fun hR2 => ?_)
  clear hK K
  go_simp
  refine wpAnyH_take (i := 11) (v := .bool res) rfl (by kernel_rfl) (by kernel_rfl) (by kernel_rfl) (fun _ _ _ h => h) (Or.inl ⟨by rfl, fun w hw => by go_simp⟩) hR2 ?_
  go_simp
  refine wpAnyH_done (by kernel_rfl) ?_ _
  go_wp2_with fail
  go_ret
  exact ⟨rfl, ((hcur.drew).trans (bk1.mono (hcur.drew).size)).trans (bk2.mono ((hcur.drew).trans (bk1.mono (hcur.drew).size)).size)⟩
set_option maxHeartbeats 2000000 in
theorem mone8 (T A : Trip) (hp : T.p.size ≤ 9000000) (W : World) :
    Calls Tryz.prog 42 #[.agg #[.int .i64 T.b, .string T.p, .int .i64 T.x, .int .i64 T.r], .string ⟨#[102, 97, 105, 108]⟩, .agg #[.int .i64 A.b, .string A.p, .int .i64 A.x, .int .i64 A.r]] W fun e W' => e = .returned (.bool (T.x == 1 && isT A T.b (prtK T.p ⟨#[123]⟩ 0) T.x T.r)) ∧ Below W.heap.size W W' := by
  have hP0 := fun X => mpart36 T.p ⟨#[123]⟩ 0 hp (part_in_loop 0 (by omega)) X
  generalize prtK T.p ⟨#[123]⟩ 0 = q0 at hP0 ⊢
  have hI := fun X => mis38 A T.b q0 T.x T.r X
  change ∀ X, Calls _ _ _ X fun e W' => e = .returned (.bool (isT A T.b q0 T.x T.r)) ∧ Below X.heap.size X W' at hI
  generalize isT A T.b q0 T.x T.r = res at hI ⊢
  have nT := TripAt.new W T.b T.p T.x T.r
  have nA := TripAt.new (W.alloc (.cells #[.int .i64 T.b, .string T.p, .int .i64 T.x, .int .i64 T.r] 31)) A.b A.p A.x A.r
  have hcur : Below W.heap.size W ((W.alloc (.cells #[.int .i64 T.b, .string T.p, .int .i64 T.x, .int .i64 T.r] 31)).alloc (.cells #[.int .i64 A.b, .string A.p, .int .i64 A.x, .int .i64 A.r] 31)) := ((Below.refl _ W).alloc (Nat.le_refl _) _).alloc (by simp <;> omega) _
  have hT := nT.below ((Below.refl (W.alloc (.cells #[.int .i64 T.b, .string T.p, .int .i64 T.x, .int .i64 T.r] 31)).heap.size (W.alloc (.cells #[.int .i64 T.b, .string T.p, .int .i64 T.x, .int .i64 T.r] 31))).alloc (by simp <;> omega) (.cells #[.int .i64 A.b, .string A.p, .int .i64 A.x, .int .i64 A.r] 31)) nT.lt
  have hA := nA
  clear nT nA
  try simp only [World.size_alloc] at hT hA
  obtain ⟨t0, t1, t2, t3⟩ := hT.cells
  obtain ⟨a0, a1, a2, a3⟩ := hA.cells
  have hq : Held2 _ W.heap.size (W.heap.size + 1) T A := ⟨t0, t1, t2, t3, a0, a1, a2, a3⟩
  cases q : (T.x == 1) with
  | false =>
    go_enter Tryz.func42, Tryz.ntmps42
    go_wp2_with fail
    refine wp_region_held (S := fun w' => Held2 w' W.heap.size (W.heap.size + 1) T A) (by kernel_rfl) ?_
    refine wpAnyH_take (i := 0) (v := .pointer (some ⟨W.heap.size, 2, none⟩)) rfl (by kernel_rfl) (by kernel_rfl) (by kernel_rfl) (fun _ _ _ h => h) (Or.inl ⟨by rfl, fun w hw => by go_simp⟩) hq ?_
    go_simp
    refine wpAnyH_take (i := 1) (v := .int .i64 T.x) rfl (by kernel_rfl) (by kernel_rfl) (by kernel_rfl) (fun _ _ _ h => h) (Or.inl ⟨by rfl, fun w hw => by obtain ⟨l0, l1, l2, l3, l4, l5, l6, l7⟩ := hw; first | (go_simp; done) | rfl⟩) hq ?_
    go_simp
    refine wpAnyH_take (i := 2) (v := .bool false) rfl (by kernel_rfl) (by kernel_rfl) (by kernel_rfl) (fun _ _ _ h => h) (Or.inl ⟨by rfl, fun w hw => by go_simp⟩) hq ?_
    go_simp
    refine wpAnyH_take (i := 3) (v := .bool false) rfl (by kernel_rfl) (by kernel_rfl) (by kernel_rfl) (fun _ _ _ h => h) (Or.inl ⟨by rfl, fun w hw => by go_simp⟩) hq ?_
    go_simp
    refine wpAnyH_take (i := 4) (v := undef) rfl (by kernel_rfl) (by kernel_rfl) (by kernel_rfl) (fun _ _ _ h => h) (Or.inr ⟨by rfl, rfl⟩) hq ?_
    go_simp
    refine wpAnyH_take (i := 5) (v := undef) rfl (by kernel_rfl) (by kernel_rfl) (by kernel_rfl) (fun _ _ _ h => h) (Or.inr ⟨by rfl, rfl⟩) hq ?_
    go_simp
    refine wpAnyH_take (i := 6) (v := undef) rfl (by kernel_rfl) (by kernel_rfl) (by kernel_rfl) (fun _ _ _ h => h) (Or.inr ⟨by rfl, rfl⟩) hq ?_
    go_simp
    refine wpAnyH_take (i := 7) (v := undef) rfl (by kernel_rfl) (by kernel_rfl) (by kernel_rfl) (fun _ _ _ h => h) (Or.inr ⟨by rfl, rfl⟩) hq ?_
    go_simp
    refine wpAnyH_take (i := 8) (v := undef) rfl (by kernel_rfl) (by kernel_rfl) (by kernel_rfl) (fun _ _ _ h => h) (Or.inr ⟨by rfl, rfl⟩) hq ?_
    go_simp
    refine wpAnyH_take (i := 9) (v := undef) rfl (by kernel_rfl) (by kernel_rfl) (by kernel_rfl) (fun _ _ _ h => h) (Or.inr ⟨by rfl, rfl⟩) hq ?_
    go_simp
    refine wpAnyH_take (i := 10) (v := undef) rfl (by kernel_rfl) (by kernel_rfl) (by kernel_rfl) (fun _ _ _ h => h) (Or.inr ⟨by rfl, rfl⟩) hq ?_
    go_simp
    refine wpAnyH_take (i := 11) (v := undef) rfl (by kernel_rfl) (by kernel_rfl) (by kernel_rfl) (fun _ _ _ h => h) (Or.inr ⟨by rfl, rfl⟩) hq ?_
    go_simp
    refine wpAnyH_take (i := 12) (v := undef) rfl (by kernel_rfl) (by kernel_rfl) (by kernel_rfl) (fun _ _ _ h => h) (Or.inr ⟨by rfl, rfl⟩) hq ?_
    go_simp
    refine wpAnyH_take (i := 13) (v := undef) rfl (by kernel_rfl) (by kernel_rfl) (by kernel_rfl) (fun _ _ _ h => h) (Or.inr ⟨by rfl, rfl⟩) hq ?_
    go_simp
    refine wpAnyH_take (i := 14) (v := undef) rfl (by kernel_rfl) (by kernel_rfl) (by kernel_rfl) (fun _ _ _ h => h) (Or.inr ⟨by rfl, rfl⟩) hq ?_
    go_simp
    refine wpAnyH_take (i := 15) (v := .bool false) rfl (by kernel_rfl) (by kernel_rfl) (by kernel_rfl) (fun _ _ _ h => h) (Or.inl ⟨by rfl, fun w hw => by go_simp⟩) hq ?_
    go_simp
    refine wpAnyH_take (i := 16) (v := .bool false) rfl (by kernel_rfl) (by kernel_rfl) (by kernel_rfl) (fun _ _ _ h => h) (Or.inl ⟨by rfl, fun w hw => by go_simp⟩) hq ?_
    go_simp
    refine wpAnyH_done (by kernel_rfl) ?_ _
    go_wp2_with fail
    go_ret
    exact ⟨rfl, hcur.drew⟩
  | true =>
    have hx : (T.x == 1) = true := q
    go_enter Tryz.func42, Tryz.ntmps42
    go_wp2_with fail
    refine wp_region_held (S := fun w' => Held2 w' W.heap.size (W.heap.size + 1) T A) (by kernel_rfl) ?_
    refine wpAnyH_take (i := 0) (v := .pointer (some ⟨W.heap.size, 2, none⟩)) rfl (by kernel_rfl) (by kernel_rfl) (by kernel_rfl) (fun _ _ _ h => h) (Or.inl ⟨by rfl, fun w hw => by go_simp⟩) hq ?_
    go_simp
    refine wpAnyH_take (i := 1) (v := .int .i64 T.x) rfl (by kernel_rfl) (by kernel_rfl) (by kernel_rfl) (fun _ _ _ h => h) (Or.inl ⟨by rfl, fun w hw => by obtain ⟨l0, l1, l2, l3, l4, l5, l6, l7⟩ := hw; first | (go_simp; done) | rfl⟩) hq ?_
    go_simp
    refine wpAnyH_take (i := 2) (v := .bool true) rfl (by kernel_rfl) (by kernel_rfl) (by kernel_rfl) (fun _ _ _ h => h) (Or.inl ⟨by rfl, fun w hw => by go_simp⟩) hq ?_
    go_simp
    refine wpAnyH_take (i := 3) (v := .bool true) rfl (by kernel_rfl) (by kernel_rfl) (by kernel_rfl) (fun _ _ _ h => h) (Or.inl ⟨by rfl, fun w hw => by go_simp⟩) hq ?_
    go_simp
    refine wpAnyH_take (i := 4) (v := .agg #[.int .i64 A.b, .string A.p, .int .i64 A.x, .int .i64 A.r]) rfl (by kernel_rfl) (by kernel_rfl) (by kernel_rfl) (fun _ _ _ h => h) (Or.inl ⟨by rfl, fun w hw => by obtain ⟨l0, l1, l2, l3, l4, l5, l6, l7⟩ := hw; first | (go_simp; done) | rfl⟩) hq ?_
    go_simp
    refine wpAnyH_take (i := 5) (v := .pointer (some ⟨W.heap.size, 0, none⟩)) rfl (by kernel_rfl) (by kernel_rfl) (by kernel_rfl) (fun _ _ _ h => h) (Or.inl ⟨by rfl, fun w hw => by go_simp⟩) hq ?_
    go_simp
    refine wpAnyH_take (i := 6) (v := .int .i64 T.b) rfl (by kernel_rfl) (by kernel_rfl) (by kernel_rfl) (fun _ _ _ h => h) (Or.inl ⟨by rfl, fun w hw => by obtain ⟨l0, l1, l2, l3, l4, l5, l6, l7⟩ := hw; first | (go_simp; done) | rfl⟩) hq ?_
    go_simp
    refine wpAnyH_take (i := 7) (v := .pointer (some ⟨W.heap.size, 1, none⟩)) rfl (by kernel_rfl) (by kernel_rfl) (by kernel_rfl) (fun _ _ _ h => h) (Or.inl ⟨by rfl, fun w hw => by go_simp⟩) hq ?_
    go_simp
    refine wpAnyH_take (i := 8) (v := .string T.p) rfl (by kernel_rfl) (by kernel_rfl) (by kernel_rfl) (fun _ _ _ h => h) (Or.inl ⟨by rfl, fun w hw => by obtain ⟨l0, l1, l2, l3, l4, l5, l6, l7⟩ := hw; first | (go_simp; done) | rfl⟩) hq ?_
    go_simp
    refine wpAnyH_take (i := 10) (v := .pointer (some ⟨W.heap.size, 2, none⟩)) rfl (by kernel_rfl) (by kernel_rfl) (by kernel_rfl) (fun _ _ _ h => h) (Or.inl ⟨by rfl, fun w hw => by go_simp⟩) hq ?_
    go_simp
    refine wpAnyH_take (i := 11) (v := .int .i64 T.x) rfl (by kernel_rfl) (by kernel_rfl) (by kernel_rfl) (fun _ _ _ h => h) (Or.inl ⟨by rfl, fun w hw => by obtain ⟨l0, l1, l2, l3, l4, l5, l6, l7⟩ := hw; first | (go_simp; done) | rfl⟩) hq ?_
    go_simp
    refine wpAnyH_take (i := 12) (v := .pointer (some ⟨W.heap.size, 3, none⟩)) rfl (by kernel_rfl) (by kernel_rfl) (by kernel_rfl) (fun _ _ _ h => h) (Or.inl ⟨by rfl, fun w hw => by go_simp⟩) hq ?_
    go_simp
    refine wpAnyH_take (i := 13) (v := .int .i64 T.r) rfl (by kernel_rfl) (by kernel_rfl) (by kernel_rfl) (fun _ _ _ h => h) (Or.inl ⟨by rfl, fun w hw => by obtain ⟨l0, l1, l2, l3, l4, l5, l6, l7⟩ := hw; first | (go_simp; done) | rfl⟩) hq ?_
    go_simp
    refine wpAnyH_ready (rs := [9]) (by kernel_rfl) (by simp) ?_
    refine AllReadyH.cons rfl (fun K hK => ?_) AllReadyH.nil
    go_simp
    go_wp2_with (go_at_call 72; refine (hP0 _).mono ?_; rintro e Wk1 ⟨rfl, bk1⟩)
    refine hK _ _ (Held2.through bk1 hq rfl (Nat.le_refl _)) (fun hR1 => ?_)
    clear hK K
    go_simp
    refine wpAnyH_ready (rs := [14]) (by kernel_rfl) (by simp) ?_
    refine AllReadyH.cons rfl (fun K hK => ?_) AllReadyH.nil
    go_simp
    go_wp2_with (go_at_call 71; refine (hI _).mono ?_; rintro e Wk2 ⟨rfl, bk2⟩)
    refine hK _ _ (Held2.through bk2 hR1 rfl (Nat.le_refl _)) (fun hR2 => ?_)
    clear hK K
    go_simp
    refine wpAnyH_take (i := 15) (v := .bool res) rfl (by kernel_rfl) (by kernel_rfl) (by kernel_rfl) (fun _ _ _ h => h) (Or.inl ⟨by rfl, fun w hw => by go_simp⟩) hR2 ?_
    go_simp
    refine wpAnyH_take (i := 16) (v := .bool res) rfl (by kernel_rfl) (by kernel_rfl) (by kernel_rfl) (fun _ _ _ h => h) (Or.inl ⟨by rfl, fun w hw => by go_simp⟩) hR2 ?_
    go_simp
    refine wpAnyH_done (by kernel_rfl) ?_ _
    go_wp2_with fail
    go_ret
    exact ⟨rfl, ((hcur.drew).trans (bk1.mono (hcur.drew).size)).trans (bk2.mono ((hcur.drew).trans (bk1.mono (hcur.drew).size)).size)⟩
set_option maxHeartbeats 2000000 in
theorem mone10 (T A : Trip) (_ : T.p.size ≤ 9000000) (W : World) :
    Calls Tryz.prog 42 #[.agg #[.int .i64 T.b, .string T.p, .int .i64 T.x, .int .i64 T.r], .string ⟨#[108, 101, 115, 115]⟩, .agg #[.int .i64 A.b, .string A.p, .int .i64 A.x, .int .i64 A.r]] W fun e W' => e = .returned (.bool (A.p.toList == T.p.toList && (A.x == T.x && (within A.b T.b && within T.r A.r)))) ∧ Below W.heap.size W W' := by
  have hw1 := fun X => wi22 A.b T.b X
  have hw2 := fun X => wi22 T.r A.r X
  generalize within A.b T.b = w1 at hw1 ⊢
  generalize within T.r A.r = w2 at hw2 ⊢
  have nT := TripAt.new W T.b T.p T.x T.r
  have nA := TripAt.new (W.alloc (.cells #[.int .i64 T.b, .string T.p, .int .i64 T.x, .int .i64 T.r] 31)) A.b A.p A.x A.r
  have hcur : Below W.heap.size W ((W.alloc (.cells #[.int .i64 T.b, .string T.p, .int .i64 T.x, .int .i64 T.r] 31)).alloc (.cells #[.int .i64 A.b, .string A.p, .int .i64 A.x, .int .i64 A.r] 31)) := ((Below.refl _ W).alloc (Nat.le_refl _) _).alloc (by simp <;> omega) _
  have hT := nT.below ((Below.refl (W.alloc (.cells #[.int .i64 T.b, .string T.p, .int .i64 T.x, .int .i64 T.r] 31)).heap.size (W.alloc (.cells #[.int .i64 T.b, .string T.p, .int .i64 T.x, .int .i64 T.r] 31))).alloc (by simp <;> omega) (.cells #[.int .i64 A.b, .string A.p, .int .i64 A.x, .int .i64 A.r] 31)) nT.lt
  have hA := nA
  clear nT nA
  try simp only [World.size_alloc] at hT hA
  obtain ⟨t0, t1, t2, t3⟩ := hT.cells
  obtain ⟨a0, a1, a2, a3⟩ := hA.cells
  cases q : (A.p.toList == T.p.toList) with
  | false =>
    go_enter Tryz.func42, Tryz.ntmps42
    go_wp2_with fail
    go_ret
    exact ⟨rfl, hcur⟩
  | true =>
    cases q2 : (A.x == T.x) with
    | false =>
      go_enter Tryz.func42, Tryz.ntmps42
      go_wp2_with fail
      go_ret
      exact ⟨rfl, hcur⟩
    | true =>
      cases w1 with
      | false =>
        go_enter Tryz.func42, Tryz.ntmps42
        go_wp2_with fail
        go_at_call 73
        refine (hw1 _).mono ?_
        rintro e Wk ⟨rfl, hWk⟩
        subst hWk
        go_wp2_with fail
        go_ret
        exact ⟨rfl, hcur⟩
      | true =>
        go_enter Tryz.func42, Tryz.ntmps42
        go_wp2_with fail
        go_at_call 73
        refine (hw1 _).mono ?_
        rintro e Wk ⟨rfl, hWk⟩
        subst hWk
        go_wp2_with fail
        go_at_call 73
        refine (hw2 _).mono ?_
        rintro e Wk ⟨rfl, hWk⟩
        subst hWk
        go_wp2_with fail
        go_ret
        exact ⟨rfl, hcur⟩
set_option maxHeartbeats 2000000 in
theorem mtwo2 (T A C : Trip) (hp : T.p.size ≤ 9000000) (W : World) :
    Calls Tryz.prog 43 #[.agg #[.int .i64 T.b, .string T.p, .int .i64 T.x, .int .i64 T.r], .string ⟨#[115, 101, 113]⟩, .agg #[.int .i64 A.b, .string A.p, .int .i64 A.x, .int .i64 A.r], .agg #[.int .i64 C.b, .string C.p, .int .i64 C.x, .int .i64 C.r]] W fun e W' => e = .returned (.bool (isT A T.b (prtK T.p ⟨#[59]⟩ 0) 0 A.r && isT C A.r (prtK T.p ⟨#[59]⟩ 1) T.x T.r)) ∧ Below W.heap.size W W' := by
  have hP0 := fun X => mpart36 T.p ⟨#[59]⟩ 0 hp (part_in_seq 0 (by omega)) X
  have hP1 := fun X => mpart36 T.p ⟨#[59]⟩ 1 hp (part_in_seq 1 (by omega)) X
  generalize prtK T.p ⟨#[59]⟩ 0 = q0 at hP0 ⊢
  generalize prtK T.p ⟨#[59]⟩ 1 = q1 at hP1 ⊢
  have hI1 := fun X => mis38 A T.b q0 0 A.r X
  change ∀ X, Calls _ _ _ X fun e W' => e = .returned (.bool (isT A T.b q0 0 A.r)) ∧ Below X.heap.size X W' at hI1
  generalize isT A T.b q0 0 A.r = r1 at hI1 ⊢
  have hI2 := fun X => mis38 C A.r q1 T.x T.r X
  change ∀ X, Calls _ _ _ X fun e W' => e = .returned (.bool (isT C A.r q1 T.x T.r)) ∧ Below X.heap.size X W' at hI2
  generalize isT C A.r q1 T.x T.r = r2 at hI2 ⊢
  have nT := TripAt.new W T.b T.p T.x T.r
  have nA := TripAt.new (W.alloc (.cells #[.int .i64 T.b, .string T.p, .int .i64 T.x, .int .i64 T.r] 31)) A.b A.p A.x A.r
  have nC := TripAt.new ((W.alloc (.cells #[.int .i64 T.b, .string T.p, .int .i64 T.x, .int .i64 T.r] 31)).alloc (.cells #[.int .i64 A.b, .string A.p, .int .i64 A.x, .int .i64 A.r] 31)) C.b C.p C.x C.r
  have hcur : Below W.heap.size W (((W.alloc (.cells #[.int .i64 T.b, .string T.p, .int .i64 T.x, .int .i64 T.r] 31)).alloc (.cells #[.int .i64 A.b, .string A.p, .int .i64 A.x, .int .i64 A.r] 31)).alloc (.cells #[.int .i64 C.b, .string C.p, .int .i64 C.x, .int .i64 C.r] 31)) := (((Below.refl _ W).alloc (Nat.le_refl _) _).alloc (by simp <;> omega) _).alloc (by simp <;> omega) _
  have hT := nT.below (((Below.refl (W.alloc (.cells #[.int .i64 T.b, .string T.p, .int .i64 T.x, .int .i64 T.r] 31)).heap.size (W.alloc (.cells #[.int .i64 T.b, .string T.p, .int .i64 T.x, .int .i64 T.r] 31))).alloc (by simp <;> omega) (.cells #[.int .i64 A.b, .string A.p, .int .i64 A.x, .int .i64 A.r] 31)).alloc (by simp <;> omega) (.cells #[.int .i64 C.b, .string C.p, .int .i64 C.x, .int .i64 C.r] 31)) nT.lt
  have hA := nA.below ((Below.refl ((W.alloc (.cells #[.int .i64 T.b, .string T.p, .int .i64 T.x, .int .i64 T.r] 31)).alloc (.cells #[.int .i64 A.b, .string A.p, .int .i64 A.x, .int .i64 A.r] 31)).heap.size ((W.alloc (.cells #[.int .i64 T.b, .string T.p, .int .i64 T.x, .int .i64 T.r] 31)).alloc (.cells #[.int .i64 A.b, .string A.p, .int .i64 A.x, .int .i64 A.r] 31))).alloc (by simp <;> omega) (.cells #[.int .i64 C.b, .string C.p, .int .i64 C.x, .int .i64 C.r] 31)) nA.lt
  have hC := nC
  clear nT nA nC
  try simp only [World.size_alloc] at hT hA hC
  obtain ⟨t0, t1, t2, t3⟩ := hT.cells
  obtain ⟨a0, a1, a2, a3⟩ := hA.cells
  obtain ⟨c0, c1, c2, c3⟩ := hC.cells
  have hq : Held3 _ W.heap.size (W.heap.size + 1) (W.heap.size + 1 + 1) T A C := ⟨t0, t1, t2, t3, a0, a1, a2, a3, c0, c1, c2, c3⟩
  cases r1 with
  | false =>
    go_enter Tryz.func43, Tryz.ntmps43
    go_wp2_with fail
    refine wp_region_held (S := fun w' => Held3 w' W.heap.size (W.heap.size + 1) (W.heap.size + 1 + 1) T A C) (by kernel_rfl) ?_
    refine wpAnyH_take (i := 0) (v := .agg #[.int .i64 A.b, .string A.p, .int .i64 A.x, .int .i64 A.r]) rfl (by kernel_rfl) (by kernel_rfl) (by kernel_rfl) (fun _ _ _ h => h) (Or.inl ⟨by rfl, fun w hw => by obtain ⟨l0, l1, l2, l3, l4, l5, l6, l7, l8, l9, l10, l11⟩ := hw; first | (go_simp; done) | rfl⟩) hq ?_
    go_simp
    refine wpAnyH_take (i := 1) (v := .pointer (some ⟨W.heap.size, 0, none⟩)) rfl (by kernel_rfl) (by kernel_rfl) (by kernel_rfl) (fun _ _ _ h => h) (Or.inl ⟨by rfl, fun w hw => by go_simp⟩) hq ?_
    go_simp
    refine wpAnyH_take (i := 2) (v := .int .i64 T.b) rfl (by kernel_rfl) (by kernel_rfl) (by kernel_rfl) (fun _ _ _ h => h) (Or.inl ⟨by rfl, fun w hw => by obtain ⟨l0, l1, l2, l3, l4, l5, l6, l7, l8, l9, l10, l11⟩ := hw; first | (go_simp; done) | rfl⟩) hq ?_
    go_simp
    refine wpAnyH_take (i := 3) (v := .pointer (some ⟨W.heap.size, 1, none⟩)) rfl (by kernel_rfl) (by kernel_rfl) (by kernel_rfl) (fun _ _ _ h => h) (Or.inl ⟨by rfl, fun w hw => by go_simp⟩) hq ?_
    go_simp
    refine wpAnyH_take (i := 4) (v := .string T.p) rfl (by kernel_rfl) (by kernel_rfl) (by kernel_rfl) (fun _ _ _ h => h) (Or.inl ⟨by rfl, fun w hw => by obtain ⟨l0, l1, l2, l3, l4, l5, l6, l7, l8, l9, l10, l11⟩ := hw; first | (go_simp; done) | rfl⟩) hq ?_
    go_simp
    refine wpAnyH_take (i := 6) (v := .pointer (some ⟨W.heap.size + 1, 3, none⟩)) rfl (by kernel_rfl) (by kernel_rfl) (by kernel_rfl) (fun _ _ _ h => h) (Or.inl ⟨by rfl, fun w hw => by go_simp⟩) hq ?_
    go_simp
    refine wpAnyH_take (i := 7) (v := .int .i64 A.r) rfl (by kernel_rfl) (by kernel_rfl) (by kernel_rfl) (fun _ _ _ h => h) (Or.inl ⟨by rfl, fun w hw => by obtain ⟨l0, l1, l2, l3, l4, l5, l6, l7, l8, l9, l10, l11⟩ := hw; first | (go_simp; done) | rfl⟩) hq ?_
    go_simp
    refine wpAnyH_ready (rs := [5]) (by kernel_rfl) (by simp) ?_
    refine AllReadyH.cons rfl (fun K hK => ?_) AllReadyH.nil
    go_simp
    go_wp2_with (go_at_call 72; refine (hP0 _).mono ?_; rintro e Wk1 ⟨rfl, bk1⟩)
    refine hK _ _ (Held3.through bk1 hq rfl (Nat.le_refl _)) (fun hR1 => ?_)
    clear hK K
    go_simp
    refine wpAnyH_ready (rs := [8]) (by kernel_rfl) (by simp) ?_
    refine AllReadyH.cons rfl (fun K hK => ?_) AllReadyH.nil
    go_simp
    go_wp2_with (go_at_call 71; refine (hI1 _).mono ?_; rintro e Wk2 ⟨rfl, bk2⟩)
    refine hK _ _ (Held3.through bk2 hR1 rfl (Nat.le_refl _)) (fun hR2 => ?_)
    clear hK K
    go_simp
    refine wpAnyH_take (i := 9) (v := .bool false) rfl (by kernel_rfl) (by kernel_rfl) (by kernel_rfl) (fun _ _ _ h => h) (Or.inl ⟨by rfl, fun w hw => by go_simp⟩) hR2 ?_
    go_simp
    refine wpAnyH_take (i := 10) (v := undef) rfl (by kernel_rfl) (by kernel_rfl) (by kernel_rfl) (fun _ _ _ h => h) (Or.inr ⟨by rfl, rfl⟩) hR2 ?_
    go_simp
    refine wpAnyH_take (i := 11) (v := undef) rfl (by kernel_rfl) (by kernel_rfl) (by kernel_rfl) (fun _ _ _ h => h) (Or.inr ⟨by rfl, rfl⟩) hR2 ?_
    go_simp
    refine wpAnyH_take (i := 12) (v := undef) rfl (by kernel_rfl) (by kernel_rfl) (by kernel_rfl) (fun _ _ _ h => h) (Or.inr ⟨by rfl, rfl⟩) hR2 ?_
    go_simp
    refine wpAnyH_take (i := 13) (v := undef) rfl (by kernel_rfl) (by kernel_rfl) (by kernel_rfl) (fun _ _ _ h => h) (Or.inr ⟨by rfl, rfl⟩) hR2 ?_
    go_simp
    refine wpAnyH_take (i := 14) (v := undef) rfl (by kernel_rfl) (by kernel_rfl) (by kernel_rfl) (fun _ _ _ h => h) (Or.inr ⟨by rfl, rfl⟩) hR2 ?_
    go_simp
    refine wpAnyH_take (i := 15) (v := undef) rfl (by kernel_rfl) (by kernel_rfl) (by kernel_rfl) (fun _ _ _ h => h) (Or.inr ⟨by rfl, rfl⟩) hR2 ?_
    go_simp
    refine wpAnyH_take (i := 16) (v := undef) rfl (by kernel_rfl) (by kernel_rfl) (by kernel_rfl) (fun _ _ _ h => h) (Or.inr ⟨by rfl, rfl⟩) hR2 ?_
    go_simp
    refine wpAnyH_take (i := 17) (v := undef) rfl (by kernel_rfl) (by kernel_rfl) (by kernel_rfl) (fun _ _ _ h => h) (Or.inr ⟨by rfl, rfl⟩) hR2 ?_
    go_simp
    refine wpAnyH_take (i := 18) (v := undef) rfl (by kernel_rfl) (by kernel_rfl) (by kernel_rfl) (fun _ _ _ h => h) (Or.inr ⟨by rfl, rfl⟩) hR2 ?_
    go_simp
    refine wpAnyH_take (i := 19) (v := undef) rfl (by kernel_rfl) (by kernel_rfl) (by kernel_rfl) (fun _ _ _ h => h) (Or.inr ⟨by rfl, rfl⟩) hR2 ?_
    go_simp
    refine wpAnyH_take (i := 20) (v := undef) rfl (by kernel_rfl) (by kernel_rfl) (by kernel_rfl) (fun _ _ _ h => h) (Or.inr ⟨by rfl, rfl⟩) hR2 ?_
    go_simp
    refine wpAnyH_take (i := 21) (v := .bool false) rfl (by kernel_rfl) (by kernel_rfl) (by kernel_rfl) (fun _ _ _ h => h) (Or.inl ⟨by rfl, fun w hw => by go_simp⟩) hR2 ?_
    go_simp
    refine wpAnyH_take (i := 22) (v := .bool false) rfl (by kernel_rfl) (by kernel_rfl) (by kernel_rfl) (fun _ _ _ h => h) (Or.inl ⟨by rfl, fun w hw => by go_simp⟩) hR2 ?_
    go_simp
    refine wpAnyH_done (by kernel_rfl) ?_ _
    go_wp2_with fail
    go_ret
    exact ⟨rfl, ((hcur.drew).trans (bk1.mono (hcur.drew).size)).trans (bk2.mono ((hcur.drew).trans (bk1.mono (hcur.drew).size)).size)⟩
  | true =>
    go_enter Tryz.func43, Tryz.ntmps43
    go_wp2_with fail
    refine wp_region_held (S := fun w' => Held3 w' W.heap.size (W.heap.size + 1) (W.heap.size + 1 + 1) T A C) (by kernel_rfl) ?_
    refine wpAnyH_take (i := 0) (v := .agg #[.int .i64 A.b, .string A.p, .int .i64 A.x, .int .i64 A.r]) rfl (by kernel_rfl) (by kernel_rfl) (by kernel_rfl) (fun _ _ _ h => h) (Or.inl ⟨by rfl, fun w hw => by obtain ⟨l0, l1, l2, l3, l4, l5, l6, l7, l8, l9, l10, l11⟩ := hw; first | (go_simp; done) | rfl⟩) hq ?_
    go_simp
    refine wpAnyH_take (i := 1) (v := .pointer (some ⟨W.heap.size, 0, none⟩)) rfl (by kernel_rfl) (by kernel_rfl) (by kernel_rfl) (fun _ _ _ h => h) (Or.inl ⟨by rfl, fun w hw => by go_simp⟩) hq ?_
    go_simp
    refine wpAnyH_take (i := 2) (v := .int .i64 T.b) rfl (by kernel_rfl) (by kernel_rfl) (by kernel_rfl) (fun _ _ _ h => h) (Or.inl ⟨by rfl, fun w hw => by obtain ⟨l0, l1, l2, l3, l4, l5, l6, l7, l8, l9, l10, l11⟩ := hw; first | (go_simp; done) | rfl⟩) hq ?_
    go_simp
    refine wpAnyH_take (i := 3) (v := .pointer (some ⟨W.heap.size, 1, none⟩)) rfl (by kernel_rfl) (by kernel_rfl) (by kernel_rfl) (fun _ _ _ h => h) (Or.inl ⟨by rfl, fun w hw => by go_simp⟩) hq ?_
    go_simp
    refine wpAnyH_take (i := 4) (v := .string T.p) rfl (by kernel_rfl) (by kernel_rfl) (by kernel_rfl) (fun _ _ _ h => h) (Or.inl ⟨by rfl, fun w hw => by obtain ⟨l0, l1, l2, l3, l4, l5, l6, l7, l8, l9, l10, l11⟩ := hw; first | (go_simp; done) | rfl⟩) hq ?_
    go_simp
    refine wpAnyH_take (i := 6) (v := .pointer (some ⟨W.heap.size + 1, 3, none⟩)) rfl (by kernel_rfl) (by kernel_rfl) (by kernel_rfl) (fun _ _ _ h => h) (Or.inl ⟨by rfl, fun w hw => by go_simp⟩) hq ?_
    go_simp
    refine wpAnyH_take (i := 7) (v := .int .i64 A.r) rfl (by kernel_rfl) (by kernel_rfl) (by kernel_rfl) (fun _ _ _ h => h) (Or.inl ⟨by rfl, fun w hw => by obtain ⟨l0, l1, l2, l3, l4, l5, l6, l7, l8, l9, l10, l11⟩ := hw; first | (go_simp; done) | rfl⟩) hq ?_
    go_simp
    refine wpAnyH_ready (rs := [5]) (by kernel_rfl) (by simp) ?_
    refine AllReadyH.cons rfl (fun K hK => ?_) AllReadyH.nil
    go_simp
    go_wp2_with (go_at_call 72; refine (hP0 _).mono ?_; rintro e Wk1 ⟨rfl, bk1⟩)
    refine hK _ _ (Held3.through bk1 hq rfl (Nat.le_refl _)) (fun hR1 => ?_)
    clear hK K
    go_simp
    refine wpAnyH_ready (rs := [8]) (by kernel_rfl) (by simp) ?_
    refine AllReadyH.cons rfl (fun K hK => ?_) AllReadyH.nil
    go_simp
    go_wp2_with (go_at_call 71; refine (hI1 _).mono ?_; rintro e Wk2 ⟨rfl, bk2⟩)
    refine hK _ _ (Held3.through bk2 hR1 rfl (Nat.le_refl _)) (fun hR2 => ?_)
    clear hK K
    go_simp
    refine wpAnyH_take (i := 9) (v := .bool true) rfl (by kernel_rfl) (by kernel_rfl) (by kernel_rfl) (fun _ _ _ h => h) (Or.inl ⟨by rfl, fun w hw => by go_simp⟩) hR2 ?_
    go_simp
    refine wpAnyH_take (i := 10) (v := .agg #[.int .i64 C.b, .string C.p, .int .i64 C.x, .int .i64 C.r]) rfl (by kernel_rfl) (by kernel_rfl) (by kernel_rfl) (fun _ _ _ h => h) (Or.inl ⟨by rfl, fun w hw => by obtain ⟨l0, l1, l2, l3, l4, l5, l6, l7, l8, l9, l10, l11⟩ := hw; first | (go_simp; done) | rfl⟩) hR2 ?_
    go_simp
    refine wpAnyH_take (i := 11) (v := .pointer (some ⟨W.heap.size + 1, 3, none⟩)) rfl (by kernel_rfl) (by kernel_rfl) (by kernel_rfl) (fun _ _ _ h => h) (Or.inl ⟨by rfl, fun w hw => by go_simp⟩) hR2 ?_
    go_simp
    refine wpAnyH_take (i := 12) (v := .int .i64 A.r) rfl (by kernel_rfl) (by kernel_rfl) (by kernel_rfl) (fun _ _ _ h => h) (Or.inl ⟨by rfl, fun w hw => by obtain ⟨l0, l1, l2, l3, l4, l5, l6, l7, l8, l9, l10, l11⟩ := hw; first | (go_simp; done) | rfl⟩) hR2 ?_
    go_simp
    refine wpAnyH_take (i := 13) (v := .pointer (some ⟨W.heap.size, 1, none⟩)) rfl (by kernel_rfl) (by kernel_rfl) (by kernel_rfl) (fun _ _ _ h => h) (Or.inl ⟨by rfl, fun w hw => by go_simp⟩) hR2 ?_
    go_simp
    refine wpAnyH_take (i := 14) (v := .string T.p) rfl (by kernel_rfl) (by kernel_rfl) (by kernel_rfl) (fun _ _ _ h => h) (Or.inl ⟨by rfl, fun w hw => by obtain ⟨l0, l1, l2, l3, l4, l5, l6, l7, l8, l9, l10, l11⟩ := hw; first | (go_simp; done) | rfl⟩) hR2 ?_
    go_simp
    refine wpAnyH_take (i := 16) (v := .pointer (some ⟨W.heap.size, 2, none⟩)) rfl (by kernel_rfl) (by kernel_rfl) (by kernel_rfl) (fun _ _ _ h => h) (Or.inl ⟨by rfl, fun w hw => by go_simp⟩) hR2 ?_
    go_simp
    refine wpAnyH_take (i := 17) (v := .int .i64 T.x) rfl (by kernel_rfl) (by kernel_rfl) (by kernel_rfl) (fun _ _ _ h => h) (Or.inl ⟨by rfl, fun w hw => by obtain ⟨l0, l1, l2, l3, l4, l5, l6, l7, l8, l9, l10, l11⟩ := hw; first | (go_simp; done) | rfl⟩) hR2 ?_
    go_simp
    refine wpAnyH_take (i := 18) (v := .pointer (some ⟨W.heap.size, 3, none⟩)) rfl (by kernel_rfl) (by kernel_rfl) (by kernel_rfl) (fun _ _ _ h => h) (Or.inl ⟨by rfl, fun w hw => by go_simp⟩) hR2 ?_
    go_simp
    refine wpAnyH_take (i := 19) (v := .int .i64 T.r) rfl (by kernel_rfl) (by kernel_rfl) (by kernel_rfl) (fun _ _ _ h => h) (Or.inl ⟨by rfl, fun w hw => by obtain ⟨l0, l1, l2, l3, l4, l5, l6, l7, l8, l9, l10, l11⟩ := hw; first | (go_simp; done) | rfl⟩) hR2 ?_
    go_simp
    refine wpAnyH_ready (rs := [15]) (by kernel_rfl) (by simp) ?_
    refine AllReadyH.cons rfl (fun K hK => ?_) AllReadyH.nil
    go_simp
    go_wp2_with (go_at_call 72; refine (hP1 _).mono ?_; rintro e Wk3 ⟨rfl, bk3⟩)
    refine hK _ _ (Held3.through bk3 hR2 rfl (Nat.le_refl _)) (fun hR3 => ?_)
    clear hK K
    go_simp
    refine wpAnyH_ready (rs := [20]) (by kernel_rfl) (by simp) ?_
    refine AllReadyH.cons rfl (fun K hK => ?_) AllReadyH.nil
    go_simp
    go_wp2_with (go_at_call 71; refine (hI2 _).mono ?_; rintro e Wk4 ⟨rfl, bk4⟩)
    refine hK _ _ (Held3.through bk4 hR3 rfl (Nat.le_refl _)) (fun hR4 => ?_)
    clear hK K
    go_simp
    refine wpAnyH_take (i := 21) (v := .bool r2) rfl (by kernel_rfl) (by kernel_rfl) (by kernel_rfl) (fun _ _ _ h => h) (Or.inl ⟨by rfl, fun w hw => by go_simp⟩) hR4 ?_
    go_simp
    refine wpAnyH_take (i := 22) (v := .bool r2) rfl (by kernel_rfl) (by kernel_rfl) (by kernel_rfl) (fun _ _ _ h => h) (Or.inl ⟨by rfl, fun w hw => by go_simp⟩) hR4 ?_
    go_simp
    refine wpAnyH_done (by kernel_rfl) ?_ _
    go_wp2_with fail
    go_ret
    exact ⟨rfl, ((((hcur.drew).trans (bk1.mono (hcur.drew).size)).trans (bk2.mono ((hcur.drew).trans (bk1.mono (hcur.drew).size)).size)).trans (bk3.mono (((hcur.drew).trans (bk1.mono (hcur.drew).size)).trans (bk2.mono ((hcur.drew).trans (bk1.mono (hcur.drew).size)).size)).size)).trans (bk4.mono ((((hcur.drew).trans (bk1.mono (hcur.drew).size)).trans (bk2.mono ((hcur.drew).trans (bk1.mono (hcur.drew).size)).size)).trans (bk3.mono (((hcur.drew).trans (bk1.mono (hcur.drew).size)).trans (bk2.mono ((hcur.drew).trans (bk1.mono (hcur.drew).size)).size)).size)).size)⟩
set_option maxHeartbeats 2000000 in
theorem mtwo7 (T A C : Trip) (hp : T.p.size ≤ 9000000) (W : World) :
    Calls Tryz.prog 43 #[.agg #[.int .i64 T.b, .string T.p, .int .i64 T.x, .int .i64 T.r], .string ⟨#[111, 110, 99, 101]⟩, .agg #[.int .i64 A.b, .string A.p, .int .i64 A.x, .int .i64 A.r], .agg #[.int .i64 C.b, .string C.p, .int .i64 C.x, .int .i64 C.r]] W fun e W' => e = .returned (.bool (isT A T.b (prtK T.p ⟨#[123]⟩ 0) 0 A.r && isT C A.r T.p T.x T.r)) ∧ Below W.heap.size W W' := by
  have hP0 := fun X => mpart36 T.p ⟨#[123]⟩ 0 hp (part_in_loop 0 (by omega)) X
  generalize prtK T.p ⟨#[123]⟩ 0 = q0 at hP0 ⊢
  have hI1 := fun X => mis38 A T.b q0 0 A.r X
  change ∀ X, Calls _ _ _ X fun e W' => e = .returned (.bool (isT A T.b q0 0 A.r)) ∧ Below X.heap.size X W' at hI1
  generalize isT A T.b q0 0 A.r = r1 at hI1 ⊢
  have hI2 := fun X => mis38 C A.r T.p T.x T.r X
  change ∀ X, Calls _ _ _ X fun e W' => e = .returned (.bool (isT C A.r T.p T.x T.r)) ∧ Below X.heap.size X W' at hI2
  generalize isT C A.r T.p T.x T.r = r2 at hI2 ⊢
  have nT := TripAt.new W T.b T.p T.x T.r
  have nA := TripAt.new (W.alloc (.cells #[.int .i64 T.b, .string T.p, .int .i64 T.x, .int .i64 T.r] 31)) A.b A.p A.x A.r
  have nC := TripAt.new ((W.alloc (.cells #[.int .i64 T.b, .string T.p, .int .i64 T.x, .int .i64 T.r] 31)).alloc (.cells #[.int .i64 A.b, .string A.p, .int .i64 A.x, .int .i64 A.r] 31)) C.b C.p C.x C.r
  have hcur : Below W.heap.size W (((W.alloc (.cells #[.int .i64 T.b, .string T.p, .int .i64 T.x, .int .i64 T.r] 31)).alloc (.cells #[.int .i64 A.b, .string A.p, .int .i64 A.x, .int .i64 A.r] 31)).alloc (.cells #[.int .i64 C.b, .string C.p, .int .i64 C.x, .int .i64 C.r] 31)) := (((Below.refl _ W).alloc (Nat.le_refl _) _).alloc (by simp <;> omega) _).alloc (by simp <;> omega) _
  have hT := nT.below (((Below.refl (W.alloc (.cells #[.int .i64 T.b, .string T.p, .int .i64 T.x, .int .i64 T.r] 31)).heap.size (W.alloc (.cells #[.int .i64 T.b, .string T.p, .int .i64 T.x, .int .i64 T.r] 31))).alloc (by simp <;> omega) (.cells #[.int .i64 A.b, .string A.p, .int .i64 A.x, .int .i64 A.r] 31)).alloc (by simp <;> omega) (.cells #[.int .i64 C.b, .string C.p, .int .i64 C.x, .int .i64 C.r] 31)) nT.lt
  have hA := nA.below ((Below.refl ((W.alloc (.cells #[.int .i64 T.b, .string T.p, .int .i64 T.x, .int .i64 T.r] 31)).alloc (.cells #[.int .i64 A.b, .string A.p, .int .i64 A.x, .int .i64 A.r] 31)).heap.size ((W.alloc (.cells #[.int .i64 T.b, .string T.p, .int .i64 T.x, .int .i64 T.r] 31)).alloc (.cells #[.int .i64 A.b, .string A.p, .int .i64 A.x, .int .i64 A.r] 31))).alloc (by simp <;> omega) (.cells #[.int .i64 C.b, .string C.p, .int .i64 C.x, .int .i64 C.r] 31)) nA.lt
  have hC := nC
  clear nT nA nC
  try simp only [World.size_alloc] at hT hA hC
  obtain ⟨t0, t1, t2, t3⟩ := hT.cells
  obtain ⟨a0, a1, a2, a3⟩ := hA.cells
  obtain ⟨c0, c1, c2, c3⟩ := hC.cells
  have hq : Held3 _ W.heap.size (W.heap.size + 1) (W.heap.size + 1 + 1) T A C := ⟨t0, t1, t2, t3, a0, a1, a2, a3, c0, c1, c2, c3⟩
  cases r1 with
  | false =>
    go_enter Tryz.func43, Tryz.ntmps43
    go_wp2_with fail
    refine wp_region_held (S := fun w' => Held3 w' W.heap.size (W.heap.size + 1) (W.heap.size + 1 + 1) T A C) (by kernel_rfl) ?_
    refine wpAnyH_take (i := 0) (v := .agg #[.int .i64 A.b, .string A.p, .int .i64 A.x, .int .i64 A.r]) rfl (by kernel_rfl) (by kernel_rfl) (by kernel_rfl) (fun _ _ _ h => h) (Or.inl ⟨by rfl, fun w hw => by obtain ⟨l0, l1, l2, l3, l4, l5, l6, l7, l8, l9, l10, l11⟩ := hw; first | (go_simp; done) | rfl⟩) hq ?_
    go_simp
    refine wpAnyH_take (i := 1) (v := .pointer (some ⟨W.heap.size, 0, none⟩)) rfl (by kernel_rfl) (by kernel_rfl) (by kernel_rfl) (fun _ _ _ h => h) (Or.inl ⟨by rfl, fun w hw => by go_simp⟩) hq ?_
    go_simp
    refine wpAnyH_take (i := 2) (v := .int .i64 T.b) rfl (by kernel_rfl) (by kernel_rfl) (by kernel_rfl) (fun _ _ _ h => h) (Or.inl ⟨by rfl, fun w hw => by obtain ⟨l0, l1, l2, l3, l4, l5, l6, l7, l8, l9, l10, l11⟩ := hw; first | (go_simp; done) | rfl⟩) hq ?_
    go_simp
    refine wpAnyH_take (i := 3) (v := .pointer (some ⟨W.heap.size, 1, none⟩)) rfl (by kernel_rfl) (by kernel_rfl) (by kernel_rfl) (fun _ _ _ h => h) (Or.inl ⟨by rfl, fun w hw => by go_simp⟩) hq ?_
    go_simp
    refine wpAnyH_take (i := 4) (v := .string T.p) rfl (by kernel_rfl) (by kernel_rfl) (by kernel_rfl) (fun _ _ _ h => h) (Or.inl ⟨by rfl, fun w hw => by obtain ⟨l0, l1, l2, l3, l4, l5, l6, l7, l8, l9, l10, l11⟩ := hw; first | (go_simp; done) | rfl⟩) hq ?_
    go_simp
    refine wpAnyH_take (i := 6) (v := .pointer (some ⟨W.heap.size + 1, 3, none⟩)) rfl (by kernel_rfl) (by kernel_rfl) (by kernel_rfl) (fun _ _ _ h => h) (Or.inl ⟨by rfl, fun w hw => by go_simp⟩) hq ?_
    go_simp
    refine wpAnyH_take (i := 7) (v := .int .i64 A.r) rfl (by kernel_rfl) (by kernel_rfl) (by kernel_rfl) (fun _ _ _ h => h) (Or.inl ⟨by rfl, fun w hw => by obtain ⟨l0, l1, l2, l3, l4, l5, l6, l7, l8, l9, l10, l11⟩ := hw; first | (go_simp; done) | rfl⟩) hq ?_
    go_simp
    refine wpAnyH_ready (rs := [5]) (by kernel_rfl) (by simp) ?_
    refine AllReadyH.cons rfl (fun K hK => ?_) AllReadyH.nil
    go_simp
    go_wp2_with (go_at_call 72; refine (hP0 _).mono ?_; rintro e Wk1 ⟨rfl, bk1⟩)
    refine hK _ _ (Held3.through bk1 hq rfl (Nat.le_refl _)) (fun hR1 => ?_)
    clear hK K
    go_simp
    refine wpAnyH_ready (rs := [8]) (by kernel_rfl) (by simp) ?_
    refine AllReadyH.cons rfl (fun K hK => ?_) AllReadyH.nil
    go_simp
    go_wp2_with (go_at_call 71; refine (hI1 _).mono ?_; rintro e Wk2 ⟨rfl, bk2⟩)
    refine hK _ _ (Held3.through bk2 hR1 rfl (Nat.le_refl _)) (fun hR2 => ?_)
    clear hK K
    go_simp
    refine wpAnyH_take (i := 9) (v := .bool false) rfl (by kernel_rfl) (by kernel_rfl) (by kernel_rfl) (fun _ _ _ h => h) (Or.inl ⟨by rfl, fun w hw => by go_simp⟩) hR2 ?_
    go_simp
    refine wpAnyH_take (i := 10) (v := undef) rfl (by kernel_rfl) (by kernel_rfl) (by kernel_rfl) (fun _ _ _ h => h) (Or.inr ⟨by rfl, rfl⟩) hR2 ?_
    go_simp
    refine wpAnyH_take (i := 11) (v := undef) rfl (by kernel_rfl) (by kernel_rfl) (by kernel_rfl) (fun _ _ _ h => h) (Or.inr ⟨by rfl, rfl⟩) hR2 ?_
    go_simp
    refine wpAnyH_take (i := 12) (v := undef) rfl (by kernel_rfl) (by kernel_rfl) (by kernel_rfl) (fun _ _ _ h => h) (Or.inr ⟨by rfl, rfl⟩) hR2 ?_
    go_simp
    refine wpAnyH_take (i := 13) (v := undef) rfl (by kernel_rfl) (by kernel_rfl) (by kernel_rfl) (fun _ _ _ h => h) (Or.inr ⟨by rfl, rfl⟩) hR2 ?_
    go_simp
    refine wpAnyH_take (i := 14) (v := undef) rfl (by kernel_rfl) (by kernel_rfl) (by kernel_rfl) (fun _ _ _ h => h) (Or.inr ⟨by rfl, rfl⟩) hR2 ?_
    go_simp
    refine wpAnyH_take (i := 15) (v := undef) rfl (by kernel_rfl) (by kernel_rfl) (by kernel_rfl) (fun _ _ _ h => h) (Or.inr ⟨by rfl, rfl⟩) hR2 ?_
    go_simp
    refine wpAnyH_take (i := 16) (v := undef) rfl (by kernel_rfl) (by kernel_rfl) (by kernel_rfl) (fun _ _ _ h => h) (Or.inr ⟨by rfl, rfl⟩) hR2 ?_
    go_simp
    refine wpAnyH_take (i := 17) (v := undef) rfl (by kernel_rfl) (by kernel_rfl) (by kernel_rfl) (fun _ _ _ h => h) (Or.inr ⟨by rfl, rfl⟩) hR2 ?_
    go_simp
    refine wpAnyH_take (i := 18) (v := undef) rfl (by kernel_rfl) (by kernel_rfl) (by kernel_rfl) (fun _ _ _ h => h) (Or.inr ⟨by rfl, rfl⟩) hR2 ?_
    go_simp
    refine wpAnyH_take (i := 19) (v := undef) rfl (by kernel_rfl) (by kernel_rfl) (by kernel_rfl) (fun _ _ _ h => h) (Or.inr ⟨by rfl, rfl⟩) hR2 ?_
    go_simp
    refine wpAnyH_take (i := 20) (v := .bool false) rfl (by kernel_rfl) (by kernel_rfl) (by kernel_rfl) (fun _ _ _ h => h) (Or.inl ⟨by rfl, fun w hw => by go_simp⟩) hR2 ?_
    go_simp
    refine wpAnyH_take (i := 21) (v := .bool false) rfl (by kernel_rfl) (by kernel_rfl) (by kernel_rfl) (fun _ _ _ h => h) (Or.inl ⟨by rfl, fun w hw => by go_simp⟩) hR2 ?_
    go_simp
    refine wpAnyH_done (by kernel_rfl) ?_ _
    go_wp2_with fail
    go_ret
    exact ⟨rfl, ((hcur.drew).trans (bk1.mono (hcur.drew).size)).trans (bk2.mono ((hcur.drew).trans (bk1.mono (hcur.drew).size)).size)⟩
  | true =>
    go_enter Tryz.func43, Tryz.ntmps43
    go_wp2_with fail
    refine wp_region_held (S := fun w' => Held3 w' W.heap.size (W.heap.size + 1) (W.heap.size + 1 + 1) T A C) (by kernel_rfl) ?_
    refine wpAnyH_take (i := 0) (v := .agg #[.int .i64 A.b, .string A.p, .int .i64 A.x, .int .i64 A.r]) rfl (by kernel_rfl) (by kernel_rfl) (by kernel_rfl) (fun _ _ _ h => h) (Or.inl ⟨by rfl, fun w hw => by obtain ⟨l0, l1, l2, l3, l4, l5, l6, l7, l8, l9, l10, l11⟩ := hw; first | (go_simp; done) | rfl⟩) hq ?_
    go_simp
    refine wpAnyH_take (i := 1) (v := .pointer (some ⟨W.heap.size, 0, none⟩)) rfl (by kernel_rfl) (by kernel_rfl) (by kernel_rfl) (fun _ _ _ h => h) (Or.inl ⟨by rfl, fun w hw => by go_simp⟩) hq ?_
    go_simp
    refine wpAnyH_take (i := 2) (v := .int .i64 T.b) rfl (by kernel_rfl) (by kernel_rfl) (by kernel_rfl) (fun _ _ _ h => h) (Or.inl ⟨by rfl, fun w hw => by obtain ⟨l0, l1, l2, l3, l4, l5, l6, l7, l8, l9, l10, l11⟩ := hw; first | (go_simp; done) | rfl⟩) hq ?_
    go_simp
    refine wpAnyH_take (i := 3) (v := .pointer (some ⟨W.heap.size, 1, none⟩)) rfl (by kernel_rfl) (by kernel_rfl) (by kernel_rfl) (fun _ _ _ h => h) (Or.inl ⟨by rfl, fun w hw => by go_simp⟩) hq ?_
    go_simp
    refine wpAnyH_take (i := 4) (v := .string T.p) rfl (by kernel_rfl) (by kernel_rfl) (by kernel_rfl) (fun _ _ _ h => h) (Or.inl ⟨by rfl, fun w hw => by obtain ⟨l0, l1, l2, l3, l4, l5, l6, l7, l8, l9, l10, l11⟩ := hw; first | (go_simp; done) | rfl⟩) hq ?_
    go_simp
    refine wpAnyH_take (i := 6) (v := .pointer (some ⟨W.heap.size + 1, 3, none⟩)) rfl (by kernel_rfl) (by kernel_rfl) (by kernel_rfl) (fun _ _ _ h => h) (Or.inl ⟨by rfl, fun w hw => by go_simp⟩) hq ?_
    go_simp
    refine wpAnyH_take (i := 7) (v := .int .i64 A.r) rfl (by kernel_rfl) (by kernel_rfl) (by kernel_rfl) (fun _ _ _ h => h) (Or.inl ⟨by rfl, fun w hw => by obtain ⟨l0, l1, l2, l3, l4, l5, l6, l7, l8, l9, l10, l11⟩ := hw; first | (go_simp; done) | rfl⟩) hq ?_
    go_simp
    refine wpAnyH_ready (rs := [5]) (by kernel_rfl) (by simp) ?_
    refine AllReadyH.cons rfl (fun K hK => ?_) AllReadyH.nil
    go_simp
    go_wp2_with (go_at_call 72; refine (hP0 _).mono ?_; rintro e Wk1 ⟨rfl, bk1⟩)
    refine hK _ _ (Held3.through bk1 hq rfl (Nat.le_refl _)) (fun hR1 => ?_)
    clear hK K
    go_simp
    refine wpAnyH_ready (rs := [8]) (by kernel_rfl) (by simp) ?_
    refine AllReadyH.cons rfl (fun K hK => ?_) AllReadyH.nil
    go_simp
    go_wp2_with (go_at_call 71; refine (hI1 _).mono ?_; rintro e Wk2 ⟨rfl, bk2⟩)
    refine hK _ _ (Held3.through bk2 hR1 rfl (Nat.le_refl _)) (fun hR2 => ?_)
    clear hK K
    go_simp
    refine wpAnyH_take (i := 9) (v := .bool true) rfl (by kernel_rfl) (by kernel_rfl) (by kernel_rfl) (fun _ _ _ h => h) (Or.inl ⟨by rfl, fun w hw => by go_simp⟩) hR2 ?_
    go_simp
    refine wpAnyH_take (i := 10) (v := .agg #[.int .i64 C.b, .string C.p, .int .i64 C.x, .int .i64 C.r]) rfl (by kernel_rfl) (by kernel_rfl) (by kernel_rfl) (fun _ _ _ h => h) (Or.inl ⟨by rfl, fun w hw => by obtain ⟨l0, l1, l2, l3, l4, l5, l6, l7, l8, l9, l10, l11⟩ := hw; first | (go_simp; done) | rfl⟩) hR2 ?_
    go_simp
    refine wpAnyH_take (i := 11) (v := .pointer (some ⟨W.heap.size + 1, 3, none⟩)) rfl (by kernel_rfl) (by kernel_rfl) (by kernel_rfl) (fun _ _ _ h => h) (Or.inl ⟨by rfl, fun w hw => by go_simp⟩) hR2 ?_
    go_simp
    refine wpAnyH_take (i := 12) (v := .int .i64 A.r) rfl (by kernel_rfl) (by kernel_rfl) (by kernel_rfl) (fun _ _ _ h => h) (Or.inl ⟨by rfl, fun w hw => by obtain ⟨l0, l1, l2, l3, l4, l5, l6, l7, l8, l9, l10, l11⟩ := hw; first | (go_simp; done) | rfl⟩) hR2 ?_
    go_simp
    refine wpAnyH_take (i := 13) (v := .pointer (some ⟨W.heap.size, 1, none⟩)) rfl (by kernel_rfl) (by kernel_rfl) (by kernel_rfl) (fun _ _ _ h => h) (Or.inl ⟨by rfl, fun w hw => by go_simp⟩) hR2 ?_
    go_simp
    refine wpAnyH_take (i := 14) (v := .string T.p) rfl (by kernel_rfl) (by kernel_rfl) (by kernel_rfl) (fun _ _ _ h => h) (Or.inl ⟨by rfl, fun w hw => by obtain ⟨l0, l1, l2, l3, l4, l5, l6, l7, l8, l9, l10, l11⟩ := hw; first | (go_simp; done) | rfl⟩) hR2 ?_
    go_simp
    refine wpAnyH_take (i := 15) (v := .pointer (some ⟨W.heap.size, 2, none⟩)) rfl (by kernel_rfl) (by kernel_rfl) (by kernel_rfl) (fun _ _ _ h => h) (Or.inl ⟨by rfl, fun w hw => by go_simp⟩) hR2 ?_
    go_simp
    refine wpAnyH_take (i := 16) (v := .int .i64 T.x) rfl (by kernel_rfl) (by kernel_rfl) (by kernel_rfl) (fun _ _ _ h => h) (Or.inl ⟨by rfl, fun w hw => by obtain ⟨l0, l1, l2, l3, l4, l5, l6, l7, l8, l9, l10, l11⟩ := hw; first | (go_simp; done) | rfl⟩) hR2 ?_
    go_simp
    refine wpAnyH_take (i := 17) (v := .pointer (some ⟨W.heap.size, 3, none⟩)) rfl (by kernel_rfl) (by kernel_rfl) (by kernel_rfl) (fun _ _ _ h => h) (Or.inl ⟨by rfl, fun w hw => by go_simp⟩) hR2 ?_
    go_simp
    refine wpAnyH_take (i := 18) (v := .int .i64 T.r) rfl (by kernel_rfl) (by kernel_rfl) (by kernel_rfl) (fun _ _ _ h => h) (Or.inl ⟨by rfl, fun w hw => by obtain ⟨l0, l1, l2, l3, l4, l5, l6, l7, l8, l9, l10, l11⟩ := hw; first | (go_simp; done) | rfl⟩) hR2 ?_
    go_simp
    refine wpAnyH_ready (rs := [19]) (by kernel_rfl) (by simp) ?_
    refine AllReadyH.cons rfl (fun K hK => ?_) AllReadyH.nil
    go_simp
    go_wp2_with (go_at_call 71; refine (hI2 _).mono ?_; rintro e Wk3 ⟨rfl, bk3⟩)
    refine hK _ _ (Held3.through bk3 hR2 rfl (Nat.le_refl _)) (fun hR3 => ?_)
    clear hK K
    go_simp
    refine wpAnyH_take (i := 20) (v := .bool r2) rfl (by kernel_rfl) (by kernel_rfl) (by kernel_rfl) (fun _ _ _ h => h) (Or.inl ⟨by rfl, fun w hw => by go_simp⟩) hR3 ?_
    go_simp
    refine wpAnyH_take (i := 21) (v := .bool r2) rfl (by kernel_rfl) (by kernel_rfl) (by kernel_rfl) (fun _ _ _ h => h) (Or.inl ⟨by rfl, fun w hw => by go_simp⟩) hR3 ?_
    go_simp
    refine wpAnyH_done (by kernel_rfl) ?_ _
    go_wp2_with fail
    go_ret
    exact ⟨rfl, (((hcur.drew).trans (bk1.mono (hcur.drew).size)).trans (bk2.mono ((hcur.drew).trans (bk1.mono (hcur.drew).size)).size)).trans (bk3.mono (((hcur.drew).trans (bk1.mono (hcur.drew).size)).trans (bk2.mono ((hcur.drew).trans (bk1.mono (hcur.drew).size)).size)).size)⟩
set_option maxHeartbeats 2000000 in
theorem mtwo9 (T A C : Trip) (_ : T.p.size ≤ 9000000) (W : World) :
    Calls Tryz.prog 43 #[.agg #[.int .i64 T.b, .string T.p, .int .i64 T.x, .int .i64 T.r], .string ⟨#[98, 111, 116, 104]⟩, .agg #[.int .i64 A.b, .string A.p, .int .i64 A.x, .int .i64 A.r], .agg #[.int .i64 C.b, .string C.p, .int .i64 C.x, .int .i64 C.r]] W fun e W' => e = .returned (.bool (isT A A.b T.p T.x A.r && (isT C C.b T.p T.x C.r && (bits .or .i64 A.b C.b == T.b && bits .or .i64 A.r C.r == T.r)))) ∧ Below W.heap.size W W' := by
  have hI1 := fun X => mis38 A A.b T.p T.x A.r X
  change ∀ X, Calls _ _ _ X fun e W' => e = .returned (.bool (isT A A.b T.p T.x A.r)) ∧ Below X.heap.size X W' at hI1
  generalize isT A A.b T.p T.x A.r = r1 at hI1 ⊢
  have hI2 := fun X => mis38 C C.b T.p T.x C.r X
  change ∀ X, Calls _ _ _ X fun e W' => e = .returned (.bool (isT C C.b T.p T.x C.r)) ∧ Below X.heap.size X W' at hI2
  generalize isT C C.b T.p T.x C.r = r2 at hI2 ⊢
  have nT := TripAt.new W T.b T.p T.x T.r
  have nA := TripAt.new (W.alloc (.cells #[.int .i64 T.b, .string T.p, .int .i64 T.x, .int .i64 T.r] 31)) A.b A.p A.x A.r
  have nC := TripAt.new ((W.alloc (.cells #[.int .i64 T.b, .string T.p, .int .i64 T.x, .int .i64 T.r] 31)).alloc (.cells #[.int .i64 A.b, .string A.p, .int .i64 A.x, .int .i64 A.r] 31)) C.b C.p C.x C.r
  have hcur : Below W.heap.size W (((W.alloc (.cells #[.int .i64 T.b, .string T.p, .int .i64 T.x, .int .i64 T.r] 31)).alloc (.cells #[.int .i64 A.b, .string A.p, .int .i64 A.x, .int .i64 A.r] 31)).alloc (.cells #[.int .i64 C.b, .string C.p, .int .i64 C.x, .int .i64 C.r] 31)) := (((Below.refl _ W).alloc (Nat.le_refl _) _).alloc (by simp <;> omega) _).alloc (by simp <;> omega) _
  have hT := nT.below (((Below.refl (W.alloc (.cells #[.int .i64 T.b, .string T.p, .int .i64 T.x, .int .i64 T.r] 31)).heap.size (W.alloc (.cells #[.int .i64 T.b, .string T.p, .int .i64 T.x, .int .i64 T.r] 31))).alloc (by simp <;> omega) (.cells #[.int .i64 A.b, .string A.p, .int .i64 A.x, .int .i64 A.r] 31)).alloc (by simp <;> omega) (.cells #[.int .i64 C.b, .string C.p, .int .i64 C.x, .int .i64 C.r] 31)) nT.lt
  have hA := nA.below ((Below.refl ((W.alloc (.cells #[.int .i64 T.b, .string T.p, .int .i64 T.x, .int .i64 T.r] 31)).alloc (.cells #[.int .i64 A.b, .string A.p, .int .i64 A.x, .int .i64 A.r] 31)).heap.size ((W.alloc (.cells #[.int .i64 T.b, .string T.p, .int .i64 T.x, .int .i64 T.r] 31)).alloc (.cells #[.int .i64 A.b, .string A.p, .int .i64 A.x, .int .i64 A.r] 31))).alloc (by simp <;> omega) (.cells #[.int .i64 C.b, .string C.p, .int .i64 C.x, .int .i64 C.r] 31)) nA.lt
  have hC := nC
  clear nT nA nC
  try simp only [World.size_alloc] at hT hA hC
  obtain ⟨t0, t1, t2, t3⟩ := hT.cells
  obtain ⟨a0, a1, a2, a3⟩ := hA.cells
  obtain ⟨c0, c1, c2, c3⟩ := hC.cells
  cases r1 with
  | false =>
    go_enter Tryz.func43, Tryz.ntmps43
    go_wp2_with fail
    go_at_call 71
    refine (hI1 _).mono ?_
    rintro e Wk ⟨rfl, bk⟩
    have hcur := hcur.trans (bk.mono hcur.size)
    have hT := hT.below bk hT.lt
    have hA := hA.below bk hA.lt
    have hC := hC.below bk hC.lt
    clear bk
    obtain ⟨t0, t1, t2, t3⟩ := hT.cells
    obtain ⟨a0, a1, a2, a3⟩ := hA.cells
    obtain ⟨c0, c1, c2, c3⟩ := hC.cells
    go_wp2_with fail
    go_ret
    exact ⟨rfl, hcur⟩
  | true =>
    cases r2 with
    | false =>
      go_enter Tryz.func43, Tryz.ntmps43
      go_wp2_with fail
      go_at_call 71
      refine (hI1 _).mono ?_
      rintro e Wk ⟨rfl, bk⟩
      have hcur := hcur.trans (bk.mono hcur.size)
      have hT := hT.below bk hT.lt
      have hA := hA.below bk hA.lt
      have hC := hC.below bk hC.lt
      clear bk
      obtain ⟨t0, t1, t2, t3⟩ := hT.cells
      obtain ⟨a0, a1, a2, a3⟩ := hA.cells
      obtain ⟨c0, c1, c2, c3⟩ := hC.cells
      go_wp2_with fail
      go_at_call 71
      refine (hI2 _).mono ?_
      rintro e Wk ⟨rfl, bk⟩
      have hcur := hcur.trans (bk.mono hcur.size)
      have hT := hT.below bk hT.lt
      have hA := hA.below bk hA.lt
      have hC := hC.below bk hC.lt
      clear bk
      obtain ⟨t0, t1, t2, t3⟩ := hT.cells
      obtain ⟨a0, a1, a2, a3⟩ := hA.cells
      obtain ⟨c0, c1, c2, c3⟩ := hC.cells
      go_wp2_with fail
      go_ret
      exact ⟨rfl, hcur⟩
    | true =>
      cases q : (bits .or .i64 A.b C.b == T.b) with
      | false =>
        go_enter Tryz.func43, Tryz.ntmps43
        go_wp2_with fail
        go_at_call 71
        refine (hI1 _).mono ?_
        rintro e Wk ⟨rfl, bk⟩
        have hcur := hcur.trans (bk.mono hcur.size)
        have hT := hT.below bk hT.lt
        have hA := hA.below bk hA.lt
        have hC := hC.below bk hC.lt
        clear bk
        obtain ⟨t0, t1, t2, t3⟩ := hT.cells
        obtain ⟨a0, a1, a2, a3⟩ := hA.cells
        obtain ⟨c0, c1, c2, c3⟩ := hC.cells
        go_wp2_with fail
        go_at_call 71
        refine (hI2 _).mono ?_
        rintro e Wk ⟨rfl, bk⟩
        have hcur := hcur.trans (bk.mono hcur.size)
        have hT := hT.below bk hT.lt
        have hA := hA.below bk hA.lt
        have hC := hC.below bk hC.lt
        clear bk
        obtain ⟨t0, t1, t2, t3⟩ := hT.cells
        obtain ⟨a0, a1, a2, a3⟩ := hA.cells
        obtain ⟨c0, c1, c2, c3⟩ := hC.cells
        go_wp2_with fail
        go_ret
        exact ⟨rfl, hcur⟩
      | true =>
        go_enter Tryz.func43, Tryz.ntmps43
        go_wp2_with fail
        go_at_call 71
        refine (hI1 _).mono ?_
        rintro e Wk ⟨rfl, bk⟩
        have hcur := hcur.trans (bk.mono hcur.size)
        have hT := hT.below bk hT.lt
        have hA := hA.below bk hA.lt
        have hC := hC.below bk hC.lt
        clear bk
        obtain ⟨t0, t1, t2, t3⟩ := hT.cells
        obtain ⟨a0, a1, a2, a3⟩ := hA.cells
        obtain ⟨c0, c1, c2, c3⟩ := hC.cells
        go_wp2_with fail
        go_at_call 71
        refine (hI2 _).mono ?_
        rintro e Wk ⟨rfl, bk⟩
        have hcur := hcur.trans (bk.mono hcur.size)
        have hT := hT.below bk hT.lt
        have hA := hA.below bk hA.lt
        have hC := hC.below bk hC.lt
        clear bk
        obtain ⟨t0, t1, t2, t3⟩ := hT.cells
        obtain ⟨a0, a1, a2, a3⟩ := hA.cells
        obtain ⟨c0, c1, c2, c3⟩ := hC.cells
        go_wp2_with fail
        go_ret
        exact ⟨rfl, hcur⟩
end Go.Proofs.YtgdgbjnmibkmhaaGreatDoor

namespace Go.Proofs.YtgdgbjnmibkmhaaGreatDoor
open Go.ChangeShapes Go.WideShapes Go.ChangeAt Go.RowKit Go.Shelf
attribute [local go_sem] Oper.semAt_some
set_option maxRecDepth 100000

theorem prtK_yes {p kd : ByteArray} {i : Nat} (h : kindP p.toList = kd.toList) : prtK p kd i = prt p i := if_pos h
theorem prtK_no {p kd : ByteArray} {i : Nat} (h : ¬ kindP p.toList = kd.toList) : prtK p kd i = ⟨#[]⟩ := if_neg h
theorem isT_yes {a : Trip} {b : Int} {p : ByteArray} {x r : Int} (h : p.toList ≠ []) : isT a b p x r = sameT a.b a.p a.x a.r b p x r := by
  unfold isT
  cases hp : p.toList with
  | nil => exact absurd hp h
  | cons c l => rfl
theorem isT_no {a : Trip} {b : Int} {x r : Int} : isT a b ⟨#[]⟩ x r = false := by
  unfold isT
  rw [show (⟨#[]⟩ : ByteArray).toList = [] by rw [Lib.toList_data]]
  rfl
theorem lit_list (c : UInt8) : (⟨#[c]⟩ : ByteArray).toList = [c] := by rw [Lib.toList_data]
theorem seq_parts {p : ByteArray} {c : UInt8} (hc : c = 59 ∨ c = 124) (h : kindP p.toList = (⟨#[c]⟩ : ByteArray).toList) : (prt p 0).toList ≠ [] ∧ (prt p 1).toList ≠ [] := by
  obtain ⟨a, d, e, h1, h2⟩ := parts_pair hc (h.trans (lit_list c))
  rw [prt_at (i := 0) (q := a) (by rw [e]; rfl), prt_at (i := 1) (q := d) (by rw [e]; rfl), Lib.toList_data, Lib.toList_data]
  exact ⟨h1, h2⟩
theorem loop_part {p : ByteArray} (h : kindP p.toList = (⟨#[123]⟩ : ByteArray).toList) : (prt p 0).toList ≠ [] := by
  obtain ⟨a, e, h1⟩ := parts_loop (h.trans (lit_list 123))
  rw [prt_at (i := 0) (q := a) (by rw [e]; rfl), Lib.toList_data]
  exact h1
theorem kd_yes {p : ByteArray} {c : UInt8} (h : kindP p.toList = (⟨#[c]⟩ : ByteArray).toList) : ([c] == kindP p.toList) = true := by rw [h, lit_list]; simp
theorem kd_no {p : ByteArray} {c : UInt8} (h : ¬ kindP p.toList = (⟨#[c]⟩ : ByteArray).toList) : ([c] == kindP p.toList) = false := by
  rw [lit_list] at h
  exact beq_eq_false_iff_ne.2 fun e => h e.symm
theorem valid_ne {T : Trip} (h : okTr T = true) : T.p.toList ≠ [] := by
  have hv : validT T.b T.p T.x T.r = true := h
  obtain ⟨_, h2, _⟩ := valid_all hv
  intro e
  rw [e] at h2
  revert h2
  decide
/-! ### What the model tells, in plain words -/
theorem fol0 {T : Trip} (h : okTr T = true) : (((partsP T.p.toList).length : Int) == 0 && T.r == reachN T.p T.b T.x) = folR T 0 [] := by
  show _ = (((partsP T.p.toList).length : Int) == 0 && (sureT T.b T.p T.x T.r && alwaysT T.b T.p T.x T.r))
  rw [both_iff h]
theorem fol6 (T : Trip) : (kindP T.p.toList == [123] && (T.x == 0 && T.r == T.b)) = folR T 6 [] := by
  show _ = ([123] == kindP T.p.toList && (T.x == 0 && T.r == T.b))
  rw [Bool.beq_comm (a := [123])]
theorem fol3 (T A : Trip) : (T.x == 1 && isT A T.b (prtK T.p ⟨#[59]⟩ 0) T.x T.r) = folR T 3 [A] := by
  show _ = ([59] == kindP T.p.toList && (T.x == 1 && sameT A.b A.p A.x A.r T.b (prt T.p 0) T.x T.r))
  by_cases h : kindP T.p.toList = (⟨#[59]⟩ : ByteArray).toList
  · rw [prtK_yes h, isT_yes (seq_parts (Or.inl rfl) h).1, kd_yes h, Bool.true_and]
  · rw [prtK_no h, isT_no, kd_no h, Bool.false_and, Bool.and_false]
theorem fol4 (T A : Trip) : isT A T.b (prtK T.p ⟨#[124]⟩ 0) T.x T.r = folR T 4 [A] := by
  show _ = ([124] == kindP T.p.toList && sameT A.b A.p A.x A.r T.b (prt T.p 0) T.x T.r)
  by_cases h : kindP T.p.toList = (⟨#[124]⟩ : ByteArray).toList
  · rw [prtK_yes h, isT_yes (seq_parts (Or.inr rfl) h).1, kd_yes h, Bool.true_and]
  · rw [prtK_no h, isT_no, kd_no h, Bool.false_and]
theorem fol5 (T A : Trip) : isT A T.b (prtK T.p ⟨#[124]⟩ 1) T.x T.r = folR T 5 [A] := by
  show _ = ([124] == kindP T.p.toList && sameT A.b A.p A.x A.r T.b (prt T.p 1) T.x T.r)
  by_cases h : kindP T.p.toList = (⟨#[124]⟩ : ByteArray).toList
  · rw [prtK_yes h, isT_yes (seq_parts (Or.inr rfl) h).2, kd_yes h, Bool.true_and]
  · rw [prtK_no h, isT_no, kd_no h, Bool.false_and]
theorem fol8 (T A : Trip) : (T.x == 1 && isT A T.b (prtK T.p ⟨#[123]⟩ 0) T.x T.r) = folR T 8 [A] := by
  show _ = ([123] == kindP T.p.toList && (T.x == 1 && sameT A.b A.p A.x A.r T.b (prt T.p 0) T.x T.r))
  by_cases h : kindP T.p.toList = (⟨#[123]⟩ : ByteArray).toList
  · rw [prtK_yes h, isT_yes (loop_part h), kd_yes h, Bool.true_and]
  · rw [prtK_no h, isT_no, kd_no h, Bool.false_and, Bool.and_false]
theorem sub_plain (A T : Trip) : subT A T = (A.p.toList == T.p.toList && A.x == T.x) := by
  unfold subT sameT
  rw [show ((0 : Int) == 0) = true from rfl, Bool.true_and, Bool.and_true]
theorem fol10 (T A : Trip) : (A.p.toList == T.p.toList && (A.x == T.x && (within A.b T.b && within T.r A.r))) = folR T 10 [A] := by
  show _ = (subT A T && (within A.b T.b && within T.r A.r))
  rw [sub_plain, Bool.and_assoc]
theorem fol2 (T A C : Trip) : (isT A T.b (prtK T.p ⟨#[59]⟩ 0) 0 A.r && isT C A.r (prtK T.p ⟨#[59]⟩ 1) T.x T.r) = folR T 2 [A, C] := by
  show _ = ([59] == kindP T.p.toList && (sameT A.b A.p A.x A.r T.b (prt T.p 0) 0 A.r && sameT C.b C.p C.x C.r A.r (prt T.p 1) T.x T.r))
  by_cases h : kindP T.p.toList = (⟨#[59]⟩ : ByteArray).toList
  · rw [prtK_yes h, prtK_yes h, isT_yes (seq_parts (Or.inl rfl) h).1, isT_yes (seq_parts (Or.inl rfl) h).2, kd_yes h, Bool.true_and]
  · rw [prtK_no h, isT_no, kd_no h, Bool.false_and, Bool.false_and]
theorem fol7 {T : Trip} (A C : Trip) (hT : okTr T = true) : (isT A T.b (prtK T.p ⟨#[123]⟩ 0) 0 A.r && isT C A.r T.p T.x T.r) = folR T 7 [A, C] := by
  show _ = ([123] == kindP T.p.toList && (sameT A.b A.p A.x A.r T.b (prt T.p 0) 0 A.r && sameT C.b C.p C.x C.r A.r T.p T.x T.r))
  by_cases h : kindP T.p.toList = (⟨#[123]⟩ : ByteArray).toList
  · rw [prtK_yes h, isT_yes (loop_part h), isT_yes (valid_ne hT), kd_yes h, Bool.true_and]
  · rw [prtK_no h, isT_no, kd_no h, Bool.false_and, Bool.false_and]
theorem isT_self {A T : Trip} (hT : okTr T = true) : isT A A.b T.p T.x A.r = subT A T := by
  rw [isT_yes (valid_ne hT), sub_plain]
  unfold sameT
  rw [show (A.b == A.b) = true from beq_self_eq_true _, show (A.r == A.r) = true from beq_self_eq_true _, Bool.true_and, Bool.and_true]
theorem fol9 {T : Trip} (A C : Trip) (hT : okTr T = true) : (isT A A.b T.p T.x A.r && (isT C C.b T.p T.x C.r && (bits .or .i64 A.b C.b == T.b && bits .or .i64 A.r C.r == T.r))) = folR T 9 [A, C] := by
  show _ = (subT A T && (subT C T && (bits .or .i64 A.b C.b == T.b && bits .or .i64 A.r C.r == T.r)))
  rw [isT_self hT, isT_self hT]
/-! ### By how many -/
theorem mnone (k : Nat) (hk : k < 11) (hn : takesR k = 0) (t : ByteArray) (ht : rulesL[k]? = some t.toList) (T : Trip) (hp : T.p.size ≤ 9000000) (hT : okTr T = true) (W : World) :
    Calls Tryz.prog 41 #[.agg #[.int .i64 T.b, .string T.p, .int .i64 T.x, .int .i64 T.r], .string t] W fun e W' => e = .returned (.bool (folR T k [])) ∧ Below W.heap.size W W' := by
  match k, hk with
  | 0, _ =>
    have e : t = ⟨#[97, 116, 111, 109]⟩ := text_eq (by simpa using (Option.some.inj ht).symm)
    subst e
    rw [← fol0 hT]
    exact mnone0 T hp W
  | 1, _ =>
    have e : t = ⟨#[110, 111, 110, 101]⟩ := text_eq (by simpa using (Option.some.inj ht).symm)
    subst e
    rw [← show (T.r == 0) = folR T 1 [] from rfl]
    exact mnone1 T hp W
  | 2, _ => cases hn
  | 3, _ => cases hn
  | 4, _ => cases hn
  | 5, _ => cases hn
  | 6, _ =>
    have e : t = ⟨#[122, 101, 114, 111]⟩ := text_eq (by simpa using (Option.some.inj ht).symm)
    subst e
    rw [← fol6]
    exact mnone6 T hp W
  | 7, _ => cases hn
  | 8, _ => cases hn
  | 9, _ => cases hn
  | 10, _ => cases hn
theorem mone (k : Nat) (hk : k < 11) (hn : takesR k = 1) (t : ByteArray) (ht : rulesL[k]? = some t.toList) (T A : Trip) (hp : T.p.size ≤ 9000000) (_ : okTr T = true) (W : World) :
    Calls Tryz.prog 42 #[.agg #[.int .i64 T.b, .string T.p, .int .i64 T.x, .int .i64 T.r], .string t, .agg #[.int .i64 A.b, .string A.p, .int .i64 A.x, .int .i64 A.r]] W fun e W' => e = .returned (.bool (folR T k [A])) ∧ Below W.heap.size W W' := by
  match k, hk with
  | 0, _ => cases hn
  | 1, _ => cases hn
  | 2, _ => cases hn
  | 3, _ =>
    have e : t = ⟨#[115, 116, 111, 112]⟩ := text_eq (by simpa using (Option.some.inj ht).symm)
    subst e
    rw [← fol3]
    exact mone3 T A hp W
  | 4, _ =>
    have e : t = ⟨#[108, 101, 102, 116]⟩ := text_eq (by simpa using (Option.some.inj ht).symm)
    subst e
    rw [← fol4]
    exact mone4 T A hp W
  | 5, _ =>
    have e : t = ⟨#[114, 105, 103, 104, 116]⟩ := text_eq (by simpa using (Option.some.inj ht).symm)
    subst e
    rw [← fol5]
    exact mone5 T A hp W
  | 6, _ => cases hn
  | 7, _ => cases hn
  | 8, _ =>
    have e : t = ⟨#[102, 97, 105, 108]⟩ := text_eq (by simpa using (Option.some.inj ht).symm)
    subst e
    rw [← fol8]
    exact mone8 T A hp W
  | 9, _ => cases hn
  | 10, _ =>
    have e : t = ⟨#[108, 101, 115, 115]⟩ := text_eq (by simpa using (Option.some.inj ht).symm)
    subst e
    rw [← fol10]
    exact mone10 T A hp W
theorem mtwo (k : Nat) (hk : k < 11) (hn : takesR k = 2) (t : ByteArray) (ht : rulesL[k]? = some t.toList) (T A C : Trip) (hp : T.p.size ≤ 9000000) (hT : okTr T = true) (W : World) :
    Calls Tryz.prog 43 #[.agg #[.int .i64 T.b, .string T.p, .int .i64 T.x, .int .i64 T.r], .string t, .agg #[.int .i64 A.b, .string A.p, .int .i64 A.x, .int .i64 A.r], .agg #[.int .i64 C.b, .string C.p, .int .i64 C.x, .int .i64 C.r]] W fun e W' => e = .returned (.bool (folR T k [A, C])) ∧ Below W.heap.size W W' := by
  match k, hk with
  | 0, _ => cases hn
  | 1, _ => cases hn
  | 2, _ =>
    have e : t = ⟨#[115, 101, 113]⟩ := text_eq (by simpa using (Option.some.inj ht).symm)
    subst e
    rw [← fol2]
    exact mtwo2 T A C hp W
  | 3, _ => cases hn
  | 4, _ => cases hn
  | 5, _ => cases hn
  | 6, _ => cases hn
  | 7, _ =>
    have e : t = ⟨#[111, 110, 99, 101]⟩ := text_eq (by simpa using (Option.some.inj ht).symm)
    subst e
    rw [← fol7 A C hT]
    exact mtwo7 T A C hp W
  | 8, _ => cases hn
  | 9, _ =>
    have e : t = ⟨#[98, 111, 116, 104]⟩ := text_eq (by simpa using (Option.some.inj ht).symm)
    subst e
    rw [← fol9 A C hT]
    exact mtwo9 T A C hp W
  | 10, _ => cases hn
end Go.Proofs.YtgdgbjnmibkmhaaGreatDoor

namespace Go.Proofs.YtgdgbjnmibkmhaaGreatDoor
open Go.ChangeShapes Go.WideShapes Go.ChangeAt Go.RowKit Go.Shelf
attribute [local go_sem] Oper.semAt_some
set_option maxRecDepth 100000

theorem mlen_zero {fs : List Trip} (h : fs.length = 0) : fs = [] := List.length_eq_zero_iff.1 h
theorem mlen_one {fs : List Trip} (h : fs.length = 1) : ∃ A, fs = [A] := by
  match fs, h with
  | [A], _ => exact ⟨A, rfl⟩
theorem mlen_two {fs : List Trip} (h : fs.length = 2) : ∃ A C, fs = [A, C] := by
  match fs, h with
  | [A, C], _ => exact ⟨A, C, rfl⟩
set_option maxHeartbeats 4000000 in
theorem mline_none (T : Trip) (u : ByteArray) (ra : Option Addr) (rn rc : Nat) {W : World} {v : Value} {fs : List Trip} (hfs : TripsAt W v fs) (_ : T.p.size ≤ 9000000) (h : ixR u.toList = none) :
    Calls Tryz.prog 11 #[.agg #[.int .i64 T.b, .string T.p, .int .i64 T.x, .int .i64 T.r, .string u, .slice ra rn rc], v] W fun e W' => e = .returned (.bool false) ∧ Below W.heap.size W W' := by
  have hI := fun X => mix89 u X
  rw [show ixV u.toList = -1 from by unfold ixV; rw [h]] at hI
  clear h
  obtain ⟨a, c, rfl, q1, q2, q3⟩ := hfs
  unfold maxLen at q2
  have hni : (fs.length : Int) ≤ 9223372036854775807 := by omega
  clear q3
  have hcur : Below W.heap.size W (W.alloc (.cells #[.int .i64 T.b, .string T.p, .int .i64 T.x, .int .i64 T.r, .string u, .slice ra rn rc] 33)) := (Below.refl _ W).alloc (Nat.le_refl _) _
  have hS := Six.new W 33 (.int .i64 T.b) (.string T.p) (.int .i64 T.x) (.int .i64 T.r) (.string u) (.slice ra rn rc)
  obtain ⟨c0, c1, c2, c3, c4, c5⟩ := hS.cells
  go_enter Tryz.func11, Tryz.ntmps11
  go_wp2_with fail
  go_at_call 38
  refine (hI _).mono ?_
  rintro e Wk ⟨rfl, bk⟩
  have hcur := hcur.trans (bk.mono hcur.size)
  have hS := hS.below bk hS.lt
  obtain ⟨c0, c1, c2, c3, c4, c5⟩ := hS.cells
  clear bk
  go_wp2_with fail
  go_ret
  exact ⟨rfl, hcur⟩
set_option maxHeartbeats 4000000 in
theorem mline_len (T : Trip) (u : ByteArray) (ra : Option Addr) (rn rc : Nat) {W : World} {v : Value} {fs : List Trip} (hfs : TripsAt W v fs) (_ : T.p.size ≤ 9000000) {k : Nat} (h : ixR u.toList = some k) (hl : fs.length ≠ takesR k) :
    Calls Tryz.prog 11 #[.agg #[.int .i64 T.b, .string T.p, .int .i64 T.x, .int .i64 T.r, .string u, .slice ra rn rc], v] W fun e W' => e = .returned (.bool false) ∧ Below W.heap.size W W' := by
  obtain ⟨hk, hw⟩ := ix_lt h
  have hI := fun X => mix89 u X
  rw [show ixV u.toList = (k : Int) from by unfold ixV; rw [h]] at hI
  have hR := fun X => mrefs34 k hk u hw X
  have hk0 : ¬ ((k : Int) < 0) := by omega
  clear h hw hk
  obtain ⟨a, c, rfl, q1, q2, q3⟩ := hfs
  unfold maxLen at q2
  have hni : (fs.length : Int) ≤ 9223372036854775807 := by omega
  have hne : ¬ (fs.length : Int) = (takesR k : Int) := by omega
  generalize (takesR k : Int) = tk at hR hne
  clear q3 hl
  have hcur : Below W.heap.size W (W.alloc (.cells #[.int .i64 T.b, .string T.p, .int .i64 T.x, .int .i64 T.r, .string u, .slice ra rn rc] 33)) := (Below.refl _ W).alloc (Nat.le_refl _) _
  have hS := Six.new W 33 (.int .i64 T.b) (.string T.p) (.int .i64 T.x) (.int .i64 T.r) (.string u) (.slice ra rn rc)
  obtain ⟨c0, c1, c2, c3, c4, c5⟩ := hS.cells
  go_enter Tryz.func11, Tryz.ntmps11
  go_wp2_with fail
  go_at_call 38
  refine (hI _).mono ?_
  rintro e Wk ⟨rfl, bk⟩
  have hcur := hcur.trans (bk.mono hcur.size)
  have hS := hS.below bk hS.lt
  obtain ⟨c0, c1, c2, c3, c4, c5⟩ := hS.cells
  clear bk
  go_wp2_with fail
  go_at_call 39
  refine (hR _).mono ?_
  rintro e Wk ⟨rfl, hWk⟩
  subst hWk
  go_wp2_with fail
  go_ret
  exact ⟨rfl, hcur⟩
set_option maxHeartbeats 4000000 in
theorem mline_bad (T : Trip) (u : ByteArray) (ra : Option Addr) (rn rc : Nat) {W : World} {v : Value} {fs : List Trip} (hfs : TripsAt W v fs) (hp : T.p.size ≤ 9000000) {k : Nat} (h : ixR u.toList = some k) (hl : fs.length = takesR k) (hT : okTr T = false) :
    Calls Tryz.prog 11 #[.agg #[.int .i64 T.b, .string T.p, .int .i64 T.x, .int .i64 T.r, .string u, .slice ra rn rc], v] W fun e W' => e = .returned (.bool false) ∧ Below W.heap.size W W' := by
  obtain ⟨hk, hw⟩ := ix_lt h
  have hI := fun X => mix89 u X
  rw [show ixV u.toList = (k : Int) from by unfold ixV; rw [h]] at hI
  have hR := fun X => mrefs34 k hk u hw X
  have hk0 : ¬ ((k : Int) < 0) := by omega
  clear h hw hk
  obtain ⟨a, c, rfl, q1, q2, q3⟩ := hfs
  unfold maxLen at q2
  have hni : (fs.length : Int) ≤ 9223372036854775807 := by omega
  have hV := fun X => mtvalid T.b T.p hp T.x T.r X
  rw [show validT T.b T.p T.x T.r = false from hT] at hV
  rw [← hl] at hR
  clear q3 hT hl
  have hcur : Below W.heap.size W (W.alloc (.cells #[.int .i64 T.b, .string T.p, .int .i64 T.x, .int .i64 T.r, .string u, .slice ra rn rc] 33)) := (Below.refl _ W).alloc (Nat.le_refl _) _
  have hS := Six.new W 33 (.int .i64 T.b) (.string T.p) (.int .i64 T.x) (.int .i64 T.r) (.string u) (.slice ra rn rc)
  obtain ⟨c0, c1, c2, c3, c4, c5⟩ := hS.cells
  go_enter Tryz.func11, Tryz.ntmps11
  go_wp2_with fail
  go_at_call 38
  refine (hI _).mono ?_
  rintro e Wk ⟨rfl, bk⟩
  have hcur := hcur.trans (bk.mono hcur.size)
  have hS := hS.below bk hS.lt
  obtain ⟨c0, c1, c2, c3, c4, c5⟩ := hS.cells
  clear bk
  go_wp2_with fail
  go_at_call 39
  refine (hR _).mono ?_
  rintro e Wk ⟨rfl, hWk⟩
  subst hWk
  go_wp2_with fail
  go_at_call 40
  refine (hV _).mono ?_
  rintro e Wk ⟨rfl, bk⟩
  have hcur := hcur.trans (bk.mono hcur.size)
  have hS := hS.below bk hS.lt
  obtain ⟨c0, c1, c2, c3, c4, c5⟩ := hS.cells
  clear bk
  go_wp2_with fail
  go_ret
  exact ⟨rfl, hcur⟩
set_option maxHeartbeats 4000000 in
theorem mline_0 (T : Trip) (u : ByteArray) (ra : Option Addr) (rn rc : Nat) {W : World} {v : Value} {fs : List Trip} (hfs : TripsAt W v fs) (hp : T.p.size ≤ 9000000) {k : Nat} (h : ixR u.toList = some k) (hl : fs.length = 0) (hk2 : takesR k = 0) (hT : okTr T = true) (hsz : ∀ F ∈ fs, F.p.size ≤ 9000000) :
    Calls Tryz.prog 11 #[.agg #[.int .i64 T.b, .string T.p, .int .i64 T.x, .int .i64 T.r, .string u, .slice ra rn rc], v] W fun e W' => e = .returned (.bool (fs.all okTr && folR T k fs)) ∧ Below W.heap.size W W' := by
  obtain ⟨hk, hw⟩ := ix_lt h
  have hI := fun X => mix89 u X
  rw [show ixV u.toList = (k : Int) from by unfold ixV; rw [h]] at hI
  have hR := fun X => mrefs34 k hk u hw X
  have hk0 : ¬ ((k : Int) < 0) := by omega
  have hV := fun X => mtvalid T.b T.p hp T.x T.r X
  rw [show validT T.b T.p T.x T.r = true from hT] at hV
  have hN := fun X => mnone k hk hk2 u hw T hp hT X
  have hA0 := mlen_zero hl
  rw [hk2] at hR
  rw [← hA0] at hN
  have HS := Lib.hid hsz
  have HL := Lib.hid hA0
  clear h hw hk hk2 hsz hA0
  generalize folR T k fs = res at hN ⊢
  obtain ⟨a, c, rfl, q1, q2, q3⟩ := hfs
  unfold maxLen at q2
  have hni : (fs.length : Int) ≤ 9223372036854775807 := by omega
  have heq : (fs.length : Int) = 0 := by omega
  have HA := Lib.hid (fun h => all_upto (ts := fs) h)
  have HF := Lib.hid (fun k T h h' => all_hole (ts := fs) (k := k) (T := T) h h')
  clear hl
  have hcur : Below W.heap.size W (W.alloc (.cells #[.int .i64 T.b, .string T.p, .int .i64 T.x, .int .i64 T.r, .string u, .slice ra rn rc] 33)) := (Below.refl _ W).alloc (Nat.le_refl _) _
  have hS := Six.new W 33 (.int .i64 T.b) (.string T.p) (.int .i64 T.x) (.int .i64 T.r) (.string u) (.slice ra rn rc)
  obtain ⟨c0, c1, c2, c3, c4, c5⟩ := hS.cells
  go_enter Tryz.func11, Tryz.ntmps11
  go_wp2_with fail
  go_at_call 38
  refine (hI _).mono ?_
  rintro e Wk ⟨rfl, bk⟩
  have hcur := hcur.trans (bk.mono hcur.size)
  have hS := hS.below bk hS.lt
  obtain ⟨c0, c1, c2, c3, c4, c5⟩ := hS.cells
  clear bk
  go_wp2_with fail
  go_at_call 39
  refine (hR _).mono ?_
  rintro e Wk ⟨rfl, hWk⟩
  subst hWk
  go_wp2_with fail
  go_at_call 40
  refine (hV _).mono ?_
  rintro e Wk ⟨rfl, bk⟩
  have hcur := hcur.trans (bk.mono hcur.size)
  have hS := hS.below bk hS.lt
  obtain ⟨c0, c1, c2, c3, c4, c5⟩ := hS.cells
  clear bk
  obtain ⟨W0, hW0⟩ : ∃ W0, W0 = Wk := ⟨_, rfl⟩
  go_wp2_with fail
  go_loopw [27] (fun i wr => ∃ j : Nat, j ≤ fs.length ∧ i = .int .i64 (j : Int) ∧ (∀ (j' : Nat) F, j' < j → fs[j']? = some F → okTr F = true) ∧ Below W0.heap.size W0 wr) (fun i _ => fs.length - (intOf i).toNat)
  case atStart => exact ⟨0, by omega, rfl, fun j F hj => by omega, by rw [hW0]; exact Below.refl _ _⟩
  case round =>
    obtain ⟨j, hj, rfl, hok, hB⟩ := hrel
    rw [← hW0] at hcur hS
    have hcw := hcur.trans (hB.mono hcur.size)
    have hSw := hS.below hB hS.lt
    obtain ⟨c0, c1, c2, c3, c4, c5⟩ := hSw.cells
    by_cases hlt : j < fs.length
    · omega
    · have hkn : j = fs.length := by omega
      have hr := HA.out (fun j' F hl' => hok j' F (by have := (List.getElem?_eq_some_iff.1 hl').1; omega) hl')
      have hge : ¬ ((j : Int) < 0) := by omega
      have hfin : (fs.all okTr && res) = res := by rw [hr]; rfl
      clear q3
      go_wp2_with fail
      go_at_call 41
      refine (hN _).mono ?_
      rintro e W1 ⟨rfl, b1⟩
      go_wp2_with fail
      go_ret
      exact ⟨by first | rfl | (rw [hfin]; rfl), hcw.trans (b1.mono hcw.size)⟩
set_option maxHeartbeats 4000000 in
theorem mline_1 (T : Trip) (u : ByteArray) (ra : Option Addr) (rn rc : Nat) {W : World} {v : Value} {fs : List Trip} (hfs : TripsAt W v fs) (hp : T.p.size ≤ 9000000) {k : Nat} (h : ixR u.toList = some k) (hl : fs.length = 1) (hk2 : takesR k = 1) (hT : okTr T = true) (hsz : ∀ F ∈ fs, F.p.size ≤ 9000000) :
    Calls Tryz.prog 11 #[.agg #[.int .i64 T.b, .string T.p, .int .i64 T.x, .int .i64 T.r, .string u, .slice ra rn rc], v] W fun e W' => e = .returned (.bool (fs.all okTr && folR T k fs)) ∧ Below W.heap.size W W' := by
  obtain ⟨hk, hw⟩ := ix_lt h
  have hI := fun X => mix89 u X
  rw [show ixV u.toList = (k : Int) from by unfold ixV; rw [h]] at hI
  have hR := fun X => mrefs34 k hk u hw X
  have hk0 : ¬ ((k : Int) < 0) := by omega
  have hV := fun X => mtvalid T.b T.p hp T.x T.r X
  rw [show validT T.b T.p T.x T.r = true from hT] at hV
  obtain ⟨A0, hA0⟩ := mlen_one hl
  have hN := fun X => mone k hk hk2 u hw T A0 hp hT X
  rw [hk2] at hR
  rw [← hA0] at hN
  have HS := Lib.hid hsz
  have HL := Lib.hid hA0
  clear h hw hk hk2 hsz hA0
  generalize folR T k fs = res at hN ⊢
  obtain ⟨a, c, rfl, q1, q2, q3⟩ := hfs
  unfold maxLen at q2
  have hni : (fs.length : Int) ≤ 9223372036854775807 := by omega
  have heq : (fs.length : Int) = 1 := by omega
  have HA := Lib.hid (fun h => all_upto (ts := fs) h)
  have HF := Lib.hid (fun k T h h' => all_hole (ts := fs) (k := k) (T := T) h h')
  clear hl
  have hcur : Below W.heap.size W (W.alloc (.cells #[.int .i64 T.b, .string T.p, .int .i64 T.x, .int .i64 T.r, .string u, .slice ra rn rc] 33)) := (Below.refl _ W).alloc (Nat.le_refl _) _
  have hS := Six.new W 33 (.int .i64 T.b) (.string T.p) (.int .i64 T.x) (.int .i64 T.r) (.string u) (.slice ra rn rc)
  obtain ⟨c0, c1, c2, c3, c4, c5⟩ := hS.cells
  go_enter Tryz.func11, Tryz.ntmps11
  go_wp2_with fail
  go_at_call 38
  refine (hI _).mono ?_
  rintro e Wk ⟨rfl, bk⟩
  have hcur := hcur.trans (bk.mono hcur.size)
  have hS := hS.below bk hS.lt
  obtain ⟨c0, c1, c2, c3, c4, c5⟩ := hS.cells
  clear bk
  go_wp2_with fail
  go_at_call 39
  refine (hR _).mono ?_
  rintro e Wk ⟨rfl, hWk⟩
  subst hWk
  go_wp2_with fail
  go_at_call 40
  refine (hV _).mono ?_
  rintro e Wk ⟨rfl, bk⟩
  have hcur := hcur.trans (bk.mono hcur.size)
  have hS := hS.below bk hS.lt
  obtain ⟨c0, c1, c2, c3, c4, c5⟩ := hS.cells
  clear bk
  obtain ⟨W0, hW0⟩ : ∃ W0, W0 = Wk := ⟨_, rfl⟩
  go_wp2_with fail
  go_loopw [27] (fun i wr => ∃ j : Nat, j ≤ fs.length ∧ i = .int .i64 (j : Int) ∧ (∀ (j' : Nat) F, j' < j → fs[j']? = some F → okTr F = true) ∧ Below W0.heap.size W0 wr) (fun i _ => fs.length - (intOf i).toNat)
  case atStart => exact ⟨0, by omega, rfl, fun j F hj => by omega, by rw [hW0]; exact Below.refl _ _⟩
  case round =>
    obtain ⟨j, hj, rfl, hok, hB⟩ := hrel
    rw [← hW0] at hcur hS
    have hcw := hcur.trans (hB.mono hcur.size)
    have hSw := hS.below hB hS.lt
    obtain ⟨c0, c1, c2, c3, c4, c5⟩ := hSw.cells
    by_cases hlt : j < fs.length
    · have hlt2 : (j : Int) < (fs.length : Int) := by omega
      have hl1 : fs[j]? = some fs[j] := List.getElem?_eq_getElem hlt
      have hs1 := HS.out fs[j] (List.getElem_mem hlt)
      rcases q3 with q3 | ⟨g, off, rfl, q3⟩
      · rw [q3] at hlt; simp at hlt
      have hc := (q3 j _ hl1).below hcw
      generalize fs[j] = F at hl1 hc hs1
      obtain ⟨t0, t1, t2, t3⟩ := hc
      have hBA := hB.alloc hB.size (.cells #[.int .i64 F.b, .string F.p, .int .i64 F.x, .int .i64 F.r] 31)
      have hVF := fun X => mtvalid F.b F.p hs1 F.x F.r X
      have hFn := TripAt.new wr F.b F.p F.x F.r
      obtain ⟨f0, f1, f2, f3⟩ := hFn.cells
      rw [heq] at hlt2
      cases hv : okTr F with
      | true =>
        rw [show validT F.b F.p F.x F.r = true from hv] at hVF
        go_wp2_with fail
        go_at_call 40
        refine (hVF _).mono ?_
        rintro e W1 ⟨rfl, b1⟩
        go_wp2_with fail
        go_roundw
        case rel => exact ⟨j + 1, by omega, by go_num, fun j' T' hj' hl' => by
          by_cases he : j' = j
          · subst he
            rw [hl1] at hl'
            cases hl'
            exact hv
          · exact hok j' T' (by omega) hl', hBA.trans (b1.mono hBA.size)⟩
        case measure => simp [intOf]; omega
      | false =>
        rw [show validT F.b F.p F.x F.r = false from hv] at hVF
        have hr := HF.out j F hl1 hv
        have hfin : (fs.all okTr && res) = false := by rw [hr]; rfl
        go_wp2_with fail
        go_at_call 40
        refine (hVF _).mono ?_
        rintro e W1 ⟨rfl, b1⟩
        go_wp2_with fail
        go_ret
        have hc9 := hcur.trans ((hBA.trans (b1.mono hBA.size)).mono hcur.size)
        exact ⟨by first | rfl | (rw [hfin]; rfl), hc9⟩
    · have hkn : j = fs.length := by omega
      have hr := HA.out (fun j' F hl' => hok j' F (by have := (List.getElem?_eq_some_iff.1 hl').1; omega) hl')
      have hge : ¬ ((j : Int) < 1) := by omega
      have hfin : (fs.all okTr && res) = res := by rw [hr]; rfl
      have hB0 := HL.out
      rcases q3 with q3 | ⟨g, off, rfl, q3⟩
      · rw [hB0] at q3; cases q3
      have tA := (q3 0 A0 (by rw [hB0]; rfl)).below hcw
      rw [Nat.zero_mul, Nat.add_zero] at tA
      obtain ⟨mA0, mA1, mA2, mA3⟩ := tA
      clear q3
      go_wp2_with fail
      go_region_held3 (fun w' => w'.cell? ⟨W.heap.size, 0, none⟩ = some (.int .i64 T.b) ∧ w'.cell? ⟨W.heap.size, 1, none⟩ = some (.string T.p) ∧ w'.cell? ⟨W.heap.size, 2, none⟩ = some (.int .i64 T.x) ∧ w'.cell? ⟨W.heap.size, 3, none⟩ = some (.int .i64 T.r) ∧ w'.cell? ⟨W.heap.size, 4, none⟩ = some (.string u) ∧ w'.cell? ⟨g, off, none⟩ = some (.int .i64 A0.b) ∧ w'.cell? ⟨g, off + 1, none⟩ = some (.string A0.p) ∧ w'.cell? ⟨g, off + 2, none⟩ = some (.int .i64 A0.x) ∧ w'.cell? ⟨g, off + 3, none⟩ = some (.int .i64 A0.r)) (first | exact ⟨c0, c1, c2, c3, c4, mA0, mA1, mA2, mA3⟩ | exact ⟨cell_below b1 c0, cell_below b1 c1, cell_below b1 c2, cell_below b1 c3, cell_below b1 c4, cell_below b1 mA0, cell_below b1 mA1, cell_below b1 mA2, cell_below b1 mA3⟩ | go_keep) (first | (go_at_call 42; refine (hN _).mono ?_; rintro e W1 ⟨rfl, b1⟩))
      all_goals go_wp2_with fail
      all_goals go_ret
      all_goals exact ⟨by first | rfl | (rw [hfin]; rfl), hcw.drew.trans (b1.mono hcw.size)⟩
set_option maxHeartbeats 4000000 in
theorem mline_2 (T : Trip) (u : ByteArray) (ra : Option Addr) (rn rc : Nat) {W : World} {v : Value} {fs : List Trip} (hfs : TripsAt W v fs) (hp : T.p.size ≤ 9000000) {k : Nat} (h : ixR u.toList = some k) (hl : fs.length = 2) (hk2 : takesR k = 2) (hT : okTr T = true) (hsz : ∀ F ∈ fs, F.p.size ≤ 9000000) :
    Calls Tryz.prog 11 #[.agg #[.int .i64 T.b, .string T.p, .int .i64 T.x, .int .i64 T.r, .string u, .slice ra rn rc], v] W fun e W' => e = .returned (.bool (fs.all okTr && folR T k fs)) ∧ Below W.heap.size W W' := by
  obtain ⟨hk, hw⟩ := ix_lt h
  have hI := fun X => mix89 u X
  rw [show ixV u.toList = (k : Int) from by unfold ixV; rw [h]] at hI
  have hR := fun X => mrefs34 k hk u hw X
  have hk0 : ¬ ((k : Int) < 0) := by omega
  have hV := fun X => mtvalid T.b T.p hp T.x T.r X
  rw [show validT T.b T.p T.x T.r = true from hT] at hV
  obtain ⟨A0, C0, hA0⟩ := mlen_two hl
  have hN := fun X => mtwo k hk hk2 u hw T A0 C0 hp hT X
  rw [hk2] at hR
  rw [← hA0] at hN
  have HS := Lib.hid hsz
  have HL := Lib.hid hA0
  clear h hw hk hk2 hsz hA0
  generalize folR T k fs = res at hN ⊢
  obtain ⟨a, c, rfl, q1, q2, q3⟩ := hfs
  unfold maxLen at q2
  have hni : (fs.length : Int) ≤ 9223372036854775807 := by omega
  have heq : (fs.length : Int) = 2 := by omega
  have HA := Lib.hid (fun h => all_upto (ts := fs) h)
  have HF := Lib.hid (fun k T h h' => all_hole (ts := fs) (k := k) (T := T) h h')
  clear hl
  have hcur : Below W.heap.size W (W.alloc (.cells #[.int .i64 T.b, .string T.p, .int .i64 T.x, .int .i64 T.r, .string u, .slice ra rn rc] 33)) := (Below.refl _ W).alloc (Nat.le_refl _) _
  have hS := Six.new W 33 (.int .i64 T.b) (.string T.p) (.int .i64 T.x) (.int .i64 T.r) (.string u) (.slice ra rn rc)
  obtain ⟨c0, c1, c2, c3, c4, c5⟩ := hS.cells
  go_enter Tryz.func11, Tryz.ntmps11
  go_wp2_with fail
  go_at_call 38
  refine (hI _).mono ?_
  rintro e Wk ⟨rfl, bk⟩
  have hcur := hcur.trans (bk.mono hcur.size)
  have hS := hS.below bk hS.lt
  obtain ⟨c0, c1, c2, c3, c4, c5⟩ := hS.cells
  clear bk
  go_wp2_with fail
  go_at_call 39
  refine (hR _).mono ?_
  rintro e Wk ⟨rfl, hWk⟩
  subst hWk
  go_wp2_with fail
  go_at_call 40
  refine (hV _).mono ?_
  rintro e Wk ⟨rfl, bk⟩
  have hcur := hcur.trans (bk.mono hcur.size)
  have hS := hS.below bk hS.lt
  obtain ⟨c0, c1, c2, c3, c4, c5⟩ := hS.cells
  clear bk
  obtain ⟨W0, hW0⟩ : ∃ W0, W0 = Wk := ⟨_, rfl⟩
  go_wp2_with fail
  go_loopw [27] (fun i wr => ∃ j : Nat, j ≤ fs.length ∧ i = .int .i64 (j : Int) ∧ (∀ (j' : Nat) F, j' < j → fs[j']? = some F → okTr F = true) ∧ Below W0.heap.size W0 wr) (fun i _ => fs.length - (intOf i).toNat)
  case atStart => exact ⟨0, by omega, rfl, fun j F hj => by omega, by rw [hW0]; exact Below.refl _ _⟩
  case round =>
    obtain ⟨j, hj, rfl, hok, hB⟩ := hrel
    rw [← hW0] at hcur hS
    have hcw := hcur.trans (hB.mono hcur.size)
    have hSw := hS.below hB hS.lt
    obtain ⟨c0, c1, c2, c3, c4, c5⟩ := hSw.cells
    by_cases hlt : j < fs.length
    · have hlt2 : (j : Int) < (fs.length : Int) := by omega
      have hl1 : fs[j]? = some fs[j] := List.getElem?_eq_getElem hlt
      have hs1 := HS.out fs[j] (List.getElem_mem hlt)
      rcases q3 with q3 | ⟨g, off, rfl, q3⟩
      · rw [q3] at hlt; simp at hlt
      have hc := (q3 j _ hl1).below hcw
      generalize fs[j] = F at hl1 hc hs1
      obtain ⟨t0, t1, t2, t3⟩ := hc
      have hBA := hB.alloc hB.size (.cells #[.int .i64 F.b, .string F.p, .int .i64 F.x, .int .i64 F.r] 31)
      have hVF := fun X => mtvalid F.b F.p hs1 F.x F.r X
      have hFn := TripAt.new wr F.b F.p F.x F.r
      obtain ⟨f0, f1, f2, f3⟩ := hFn.cells
      rw [heq] at hlt2
      cases hv : okTr F with
      | true =>
        rw [show validT F.b F.p F.x F.r = true from hv] at hVF
        go_wp2_with fail
        go_at_call 40
        refine (hVF _).mono ?_
        rintro e W1 ⟨rfl, b1⟩
        go_wp2_with fail
        go_roundw
        case rel => exact ⟨j + 1, by omega, by go_num, fun j' T' hj' hl' => by
          by_cases he : j' = j
          · subst he
            rw [hl1] at hl'
            cases hl'
            exact hv
          · exact hok j' T' (by omega) hl', hBA.trans (b1.mono hBA.size)⟩
        case measure => simp [intOf]; omega
      | false =>
        rw [show validT F.b F.p F.x F.r = false from hv] at hVF
        have hr := HF.out j F hl1 hv
        have hfin : (fs.all okTr && res) = false := by rw [hr]; rfl
        go_wp2_with fail
        go_at_call 40
        refine (hVF _).mono ?_
        rintro e W1 ⟨rfl, b1⟩
        go_wp2_with fail
        go_ret
        have hc9 := hcur.trans ((hBA.trans (b1.mono hBA.size)).mono hcur.size)
        exact ⟨by first | rfl | (rw [hfin]; rfl), hc9⟩
    · have hkn : j = fs.length := by omega
      have hr := HA.out (fun j' F hl' => hok j' F (by have := (List.getElem?_eq_some_iff.1 hl').1; omega) hl')
      have hge : ¬ ((j : Int) < 2) := by omega
      have hfin : (fs.all okTr && res) = res := by rw [hr]; rfl
      have hB0 := HL.out
      rcases q3 with q3 | ⟨g, off, rfl, q3⟩
      · rw [hB0] at q3; cases q3
      have tA := (q3 0 A0 (by rw [hB0]; rfl)).below hcw
      rw [Nat.zero_mul, Nat.add_zero] at tA
      obtain ⟨mA0, mA1, mA2, mA3⟩ := tA
      have tC := (q3 1 C0 (by rw [hB0]; rfl)).below hcw
      rw [Nat.one_mul] at tC
      obtain ⟨mC0, mC1, mC2, mC3⟩ := tC
      clear q3
      go_wp2_with fail
      go_region_held3 (fun w' => w'.cell? ⟨W.heap.size, 0, none⟩ = some (.int .i64 T.b) ∧ w'.cell? ⟨W.heap.size, 1, none⟩ = some (.string T.p) ∧ w'.cell? ⟨W.heap.size, 2, none⟩ = some (.int .i64 T.x) ∧ w'.cell? ⟨W.heap.size, 3, none⟩ = some (.int .i64 T.r) ∧ w'.cell? ⟨W.heap.size, 4, none⟩ = some (.string u) ∧ w'.cell? ⟨g, off, none⟩ = some (.int .i64 A0.b) ∧ w'.cell? ⟨g, off + 1, none⟩ = some (.string A0.p) ∧ w'.cell? ⟨g, off + 2, none⟩ = some (.int .i64 A0.x) ∧ w'.cell? ⟨g, off + 3, none⟩ = some (.int .i64 A0.r) ∧ w'.cell? ⟨g, off + 4, none⟩ = some (.int .i64 C0.b) ∧ w'.cell? ⟨g, off + 4 + 1, none⟩ = some (.string C0.p) ∧ w'.cell? ⟨g, off + 4 + 2, none⟩ = some (.int .i64 C0.x) ∧ w'.cell? ⟨g, off + 4 + 3, none⟩ = some (.int .i64 C0.r)) (first | exact ⟨c0, c1, c2, c3, c4, mA0, mA1, mA2, mA3, mC0, mC1, mC2, mC3⟩ | exact ⟨cell_below b1 c0, cell_below b1 c1, cell_below b1 c2, cell_below b1 c3, cell_below b1 c4, cell_below b1 mA0, cell_below b1 mA1, cell_below b1 mA2, cell_below b1 mA3, cell_below b1 mC0, cell_below b1 mC1, cell_below b1 mC2, cell_below b1 mC3⟩ | go_keep) (first | (go_at_call 43; refine (hN _).mono ?_; rintro e W1 ⟨rfl, b1⟩))
      all_goals go_wp2_with fail
      all_goals go_ret
      all_goals exact ⟨by first | rfl | (rw [hfin]; rfl), hcw.drew.trans (b1.mono hcw.size)⟩
end Go.Proofs.YtgdgbjnmibkmhaaGreatDoor

namespace Go.Proofs.YtgdgbjnmibkmhaaGreatDoor
open Go.ChangeShapes Go.WideShapes Go.ChangeAt Go.RowKit Go.Shelf
set_option maxRecDepth 100000

theorem holds_mid {w : ByteArray} {k : Nat} {T : Trip} {fs : List Trip} (h : ixR w.toList = some k) (hl : fs.length = takesR k) (hT : okTr T = true) : lineH w T fs = (fs.all okTr && folR T k fs) := by
  unfold lineH; rw [h, hT]; dsimp only; rw [beq_iff_eq.2 hl, Bool.true_and, Bool.true_and]
theorem takes_few : ∀ k, k < 11 → takesR k = 0 ∨ takesR k = 1 ∨ takesR k = 2 := by
  intro k hk
  match k, hk with
  | 0, _ | 1, _ | 2, _ | 3, _ | 4, _ | 5, _ | 6, _ | 7, _ | 8, _ | 9, _ | 10, _ => decide
/-- **WHETHER A LINE FOLLOWS BY ITS RULE, AS THE MODEL SAYS IT.** -/
theorem mlh11 (T : Trip) (u : ByteArray) (ra : Option Addr) (rn rc : Nat) {W : World} {v : Value} {fs : List Trip} (hfs : TripsAt W v fs) (hp : T.p.size ≤ 9000000) (hsz : ∀ F ∈ fs, F.p.size ≤ 9000000) :
    Calls Tryz.prog 11 #[.agg #[.int .i64 T.b, .string T.p, .int .i64 T.x, .int .i64 T.r, .string u, .slice ra rn rc], v] W fun e W' => e = .returned (.bool (lineH u T fs)) ∧ Below W.heap.size W W' := by
  cases hx : ixR u.toList with
  | none => rw [holds_none T fs hx]; exact mline_none T u ra rn rc hfs hp hx
  | some k =>
    by_cases hl : fs.length = takesR k
    · cases hT : okTr T with
      | false => rw [holds_bad fs hx hT]; exact mline_bad T u ra rn rc hfs hp hx hl hT
      | true =>
        rw [holds_mid hx hl hT]
        rcases takes_few k (ix_lt hx).1 with h | h | h
        · exact mline_0 T u ra rn rc hfs hp hx (hl.trans h) h hT hsz
        · exact mline_1 T u ra rn rc hfs hp hx (hl.trans h) h hT hsz
        · exact mline_2 T u ra rn rc hfs hp hx (hl.trans h) h hT hsz
    · rw [holds_len T hx hl]; exact mline_len T u ra rn rc hfs hp hx hl
end Go.Proofs.YtgdgbjnmibkmhaaGreatDoor
