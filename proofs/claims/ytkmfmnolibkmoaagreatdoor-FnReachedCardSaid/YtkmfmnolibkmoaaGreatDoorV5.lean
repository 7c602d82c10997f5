/- The law on what programs reach, made of what their parts reach: its walk. -/
import Derived.Test.YtkmfmnolibkmoaaGreatDoorDR
import Derived.Test.YtkmfmnolibkmoaaGreatDoorE4
import Derived.Test.YtkmfmnolibkmoaaGreatDoorGA
import Derived.Test.YtkmfmnolibkmoaaGreatDoorNC
import Derived.Test.YtkmfmnolibkmoaaGreatDoorM7
import Derived.Test.YtkmfmnolibkmoaaGreatDoorR5
namespace Go.Proofs.YtkmfmnolibkmoaaGreatDoor
open Go.ChangeShapes Go.WideShapes Go.ChangeAt Go.RowKit Go.Shelf
attribute [local go_sem] Oper.semAt_some
set_option maxRecDepth 100000

/-- The text of a program as a value's bytes. -/
def bytesOf (p : Node) : ByteArray := ⟨p.text.toArray⟩
theorem bytesOf_list (p : Node) : (bytesOf p).toList = p.text := by unfold bytesOf; rw [Lib.toList_data]
theorem read_bytes {p : Node} (hok : p.ok) (h1 : p.text.length ≤ 60) (h2 : p.loops ≤ 6) : readP (bytesOf p).toList = some p := by
  rw [bytesOf_list]
  exact readP_iff.2 ⟨hok, rfl, h1, h2⟩
theorem read_loop {t : ByteArray} {p : Node} (h : readP t.toList = some (.loop p)) : p.ok ∧ readP (bytesOf p).toList = some p ∧ kindP t.toList = [123] ∧ partsP t.toList = [p.text] := by
  obtain ⟨hok, htx, h60, h6⟩ := readP_iff.1 h
  refine ⟨hok, read_bytes (p := p) hok (by rw [htx] at h60; simp [Node.text] at h60; omega) (by simp [Node.loops] at h6; omega), ?_, ?_⟩
  · unfold kindP; rw [h]
  · unfold partsP; rw [h]
theorem read_pair {t : ByteArray} {k : UInt8} {p q : Node} (h : readP t.toList = some (.pair k p q)) : (k = 59 ∨ k = 124) ∧ p.ok ∧ q.ok ∧ readP (bytesOf p).toList = some p ∧ readP (bytesOf q).toList = some q ∧ kindP t.toList = [k] ∧ partsP t.toList = [p.text, q.text] := by
  obtain ⟨hok, htx, h60, h6⟩ := readP_iff.1 h
  refine ⟨hok.1, hok.2.1, hok.2.2, read_bytes (p := p) hok.2.1 (by rw [htx] at h60; simp [Node.text] at h60; omega) (by simp [Node.loops] at h6; omega), read_bytes (p := q) hok.2.2 (by rw [htx] at h60; simp [Node.text] at h60; omega) (by simp [Node.loops] at h6; omega), ?_, ?_⟩
  · unfold kindP; rw [h]
  · unfold partsP; rw [h]
theorem read_atom {t : ByteArray} {a : List UInt8} (h : readP t.toList = some (.atom a)) : kindP t.toList = a ∧ partsP t.toList = [] ∧ (Node.atom a).ok := by
  obtain ⟨hok, _⟩ := readP_iff.1 h
  exact ⟨by unfold kindP; rw [h], by unfold partsP; rw [h], hok⟩
/-- No atom's text is a sign of its own. -/
theorem atom_signs {a : List UInt8} (h : (Node.atom a).ok) : a ≠ [59] ∧ a ≠ [124] ∧ a ≠ [123] := by
  rcases h with rfl | rfl | h | ⟨t, ht, rfl⟩
  · decide
  · decide
  · obtain ⟨c, d, rfl, _⟩ := twos_shape h
    simp
  · simp

theorem andNot_nat {a b : Nat} (h : a ||| b = b) : bits .andNot .i64 (a : Int) (b : Int) = 0 := by
  have e : (BitVec.ofInt 64 (a : Int) &&& ~~~ BitVec.ofInt 64 (b : Int)) = 0#64 := by
    apply BitVec.eq_of_getLsbD_eq
    intro i hi
    have h1 : (a ||| b).testBit i = b.testBit i := by rw [h]
    rw [Nat.testBit_or] at h1
    rw [BitVec.ofInt_natCast, BitVec.ofInt_natCast]
    simp only [BitVec.getLsbD_and, BitVec.getLsbD_not, BitVec.getLsbD_ofNat, hi, decide_true, Bool.true_and]
    cases ha : a.testBit i <;> cases hb : b.testBit i <;> simp [ha, hb] at h1 ⊢
  show IntKind.i64.wrap ((BitVec.ofInt 64 (a : Int) &&& ~~~ BitVec.ofInt 64 (b : Int)).toNat : Int) = 0
  rw [e]; rfl
theorem isSet_nat {m : Nat} (h : m < 512) : isSet (m : Int) = true := decide_eq_true (by omega)
theorem within_nat {a b : Nat} (ha : a < 512) (hb : b < 512) (h : a ||| b = b) : within (a : Int) (b : Int) = true := by
  unfold within
  rw [isSet_nat ha, isSet_nat hb, andNot_nat h]
  rfl

theorem reach0 {t : ByteArray} {nd : Node} (h : readP t.toList = some nd) {m : Nat} (hm : m < 512) (X : World) {N : Nat} (hL : Laid3 N X) :
    Calls Tryz.prog 6 #[.string t, .int .i64 (m : Int), .int .i64 0] X fun e w' => e = .returned (.tuple #[.int .i64 ((runR nd m).1 : Int), .bool true]) ∧ Below X.heap.size X w' := by
  have := preach10 t m 0 X hL
  rwa [(reach_ok h hm (.inl rfl)).1, (reach_ok h hm (.inl rfl)).2] at this
theorem reach1 {t : ByteArray} {nd : Node} (h : readP t.toList = some nd) {m : Nat} (hm : m < 512) (X : World) {N : Nat} (hL : Laid3 N X) :
    Calls Tryz.prog 6 #[.string t, .int .i64 (m : Int), .int .i64 1] X fun e w' => e = .returned (.tuple #[.int .i64 ((runR nd m).2 : Int), .bool true]) ∧ Below X.heap.size X w' := by
  have := preach10 t m 1 X hL
  rwa [(reach_ok h hm (.inr rfl)).1, (reach_ok h hm (.inr rfl)).2] at this
theorem mreach0 {t : ByteArray} (ht : t.size ≤ 9000000) {nd : Node} (h : readP t.toList = some nd) {m : Nat} (hm : m < 512) (X : World) :
    Calls Tryz.prog 7 #[.string t, .int .i64 (m : Int), .int .i64 0] X fun e w' => e = .returned (.tuple #[.int .i64 ((runR nd m).1 : Int), .bool true]) ∧ Below X.heap.size X w' := by
  have := mreach9 t ht m 0 X
  rwa [(reach_ok h hm (.inl rfl)).1, (reach_ok h hm (.inl rfl)).2] at this
theorem mreach1 {t : ByteArray} (ht : t.size ≤ 9000000) {nd : Node} (h : readP t.toList = some nd) {m : Nat} (hm : m < 512) (X : World) :
    Calls Tryz.prog 7 #[.string t, .int .i64 (m : Int), .int .i64 1] X fun e w' => e = .returned (.tuple #[.int .i64 ((runR nd m).2 : Int), .bool true]) ∧ Below X.heap.size X w' := by
  have := mreach9 t ht m 1 X
  rwa [(reach_ok h hm (.inr rfl)).1, (reach_ok h hm (.inr rfl)).2] at this
/-- Both answer the same at the drawn arguments. -/
theorem both_reach {t : ByteArray} (ht : t.size ≤ 9000000) {nd : Node} (h : readP t.toList = some nd) {m : Nat} (hm : m < 512) {x : Int} (hx : x = 0 ∨ x = 1) {w : World} {N : Nat} (hL : Laid3 N w) :
    (∀ X : World, Below w.heap.size w X → Calls Tryz.prog 6 #[.string t, .int .i64 (m : Int), .int .i64 x] X fun e w' => e = .returned (.tuple #[.int .i64 ((exitN x (runR nd m) : Nat) : Int), .bool true]) ∧ Below X.heap.size X w') ∧
    (∀ X : World, Calls Tryz.prog 7 #[.string t, .int .i64 (m : Int), .int .i64 x] X fun e w' => e = .returned (.tuple #[.int .i64 ((exitN x (runR nd m) : Nat) : Int), .bool true]) ∧ Below X.heap.size X w') := by
  refine ⟨fun X hX => ?_, fun X => ?_⟩
  · have := preach10 t m x X (hL.below hX hL.lt)
    rwa [(reach_ok h hm hx).1, (reach_ok h hm hx).2] at this
  · have := mreach9 t ht m x X
    rwa [(reach_ok h hm hx).1, (reach_ok h hm hx).2] at this

theorem exit_0 (o : Nat × Nat) : exitN 0 o = o.1 := by unfold exitN; rw [if_neg (by decide)]
theorem exit_1 (o : Nat × Nat) : exitN 1 o = o.2 := by unfold exitN; rw [if_pos rfl]
theorem run_choice2 (p q : Node) (m : Nat) : runR (.pair 124 p q) m = ((runR p m).1 ||| (runR q m).1, (runR p m).2 ||| (runR q m).2) := run_choice p q m

set_option maxHeartbeats 4000000 in
theorem reached_walk (w : World) (a : Option Addr) (len cap : Nat) (hc : Code w.heap.size w a len cap) (hl : len ≤ 1048576) {N : Nat} (hL : Laid3 N w) :
    Calls Tryz.prog 3 #[.slice a len cap] w fun e w' => e = .returned (.bool true) ∧ Below w.heap.size w w' := by
  have l1 : (len : Int) ≤ 1048576 := by omega
  have HC := Lib.hid hc
  clear hc
  go_enter Tryz.func3, Tryz.ntmps3
  go_wp2_with fail
  go_at_call 5
  refine (drawR5 HC.out (Nat.le_refl _)).mono ?_
  rintro e W0 ⟨t, s, x, ht, rfl, hcur⟩
  cases hb : reachB t s x with
  | false =>
    have hz := reach_false hb
    have cR := fun (X : World) (hX : Below w.heap.size w X) => preach10 t s x X (hL.below hX hL.lt)
    have cM := fun (X : World) => mreach9 t (by omega) s x X
    simp only [hb, hz] at cR cM
    clear hb hz ht
    go_wp2_with fail
    go_at_call 6
    refine (cR _ hcur).mono ?_
    rintro e W1 ⟨rfl, hb1⟩
    replace hcur := hcur.trans (hb1.mono hcur.size)
    clear hb1
    go_wp2_with fail
    go_at_call 7
    refine (cM _).mono ?_
    rintro e W2 ⟨rfl, hb1⟩
    replace hcur := hcur.trans (hb1.mono hcur.size)
    clear hb1
    go_wp2_with fail
    go_ret
    exact ⟨rfl, hcur⟩
  | true =>
    obtain ⟨nd, m, hP, hm, rfl, hx, hn⟩ := reach_true hb
    clear hb hn
    obtain ⟨cR, cM⟩ := both_reach (t := t) (by omega) hP hm hx hL
    have cP : ∀ X : World, Below w.heap.size w X → Calls Tryz.prog 8 #[.string t] X fun e w' => ∃ v, e = .returned v ∧ TRow w' X.heap.size v (partsP t.toList) ∧ Below X.heap.size X w' := fun X hX => pparts15 t X (hL.below hX hL.lt)
    have cK := fun (X : World) (hX : Below w.heap.size w X) => pkind16 t X (hL.below hX hL.lt)
    cases nd with
    | atom l =>
      obtain ⟨hk, hp, hok⟩ := read_atom hP
      obtain ⟨n1, n2, n3⟩ := atom_signs hok
      simp only [hk] at cK
      simp only [hp] at cP
      have hz : isSet ((exitN x (runR (.atom l) m) : Nat) : Int) = true := isSet_nat (by
        have := run_lt (.atom l) hok m hm
        unfold exitN; split
        · exact this.2
        · exact this.1)
      generalize exitN x (runR (.atom l) m) = z at cR cM hz
      have HS := Lib.hid hz
      have q1 : (l == [59]) = false := by simpa using n1
      have q2 : (l == [124]) = false := by simpa using n2
      have q3 : (l == [123]) = false := by simpa using n3
      clear n1 n2 n3
      clear hP hok hx ht hm hk hp hz
      go_wp2_with fail
      go_at_call 6
      refine (cR _ hcur).mono ?_
      rintro e W1 ⟨rfl, hb1⟩
      replace hcur := hcur.trans (hb1.mono hcur.size)
      clear hb1
      go_wp2_with fail
      go_at_call 7
      refine (cM _).mono ?_
      rintro e W2 ⟨rfl, hb1⟩
      replace hcur := hcur.trans (hb1.mono hcur.size)
      clear hb1
      go_wp2_with fail
      go_at_call 8
      refine (cP _ hcur).mono ?_
      rintro e W3 ⟨v, rfl, hrow, hb1⟩
      replace hcur := hcur.trans (hb1.mono hcur.size)
      clear hb1 hrow
      go_wp2_with fail
      go_at_call 9
      refine (cK _ hcur).mono ?_
      rintro e W4 ⟨rfl, hb1⟩
      replace hcur := hcur.trans (hb1.mono hcur.size)
      clear hb1
      go_wp2_with fail
      go_at_call 11
      refine (sv24 _ _).mono ?_
      rintro e W5 ⟨rfl, rfl⟩
      rw [HS.out]
      go_wp2_with fail
      go_ret
      exact ⟨rfl, hcur⟩
    | loop p =>
      obtain ⟨hok, rp, hk, hp⟩ := read_loop hP
      simp only [hk] at cK
      simp only [hp] at cP
      have hA := run_lt (.loop p) hok m hm
      have c0 := fun (X : World) (hX : Below w.heap.size w X) => reach0 hP hm X (hL.below hX hL.lt)
      rcases hx with rfl | rfl
      · have hn := run_lt p hok _ hA.1
        have w1 := within_nat hm hA.1 (loop_from (p := p) m)
        have w2 := within_nat hn.1 hA.1 ((Nat.or_comm _ _).trans (loop_more hok hm))
        have c1 := fun (X : World) (hX : Below w.heap.size w X) => reach0 rp hA.1 X (hL.below hX hL.lt)
        simp only [exit_0] at cR cM
        generalize (runR p (runR (.loop p) m).1).1 = n at c1 w2
        generalize (runR (.loop p) m).1 = a at cR cM c0 c1 w1 w2
        have d1 := fun X => wi21 (m : Int) (a : Int) X
        have d2 := fun X => wi21 (n : Int) (a : Int) X
        simp only [w1] at d1
        simp only [w2] at d2
        clear hP hok rp hk hp hA hn hm ht w1 w2
        go_wp2_with fail
        go_at_call 6
        refine (cR _ hcur).mono ?_
        rintro e W1 ⟨rfl, hb1⟩
        replace hcur := hcur.trans (hb1.mono hcur.size)
        clear hb1
        go_wp2_with fail
        go_at_call 7
        refine (cM _).mono ?_
        rintro e W2 ⟨rfl, hb1⟩
        replace hcur := hcur.trans (hb1.mono hcur.size)
        clear hb1
        go_wp2_with fail
        go_at_call 8
        refine (cP _ hcur).mono ?_
        rintro e W3 ⟨v, rfl, hrow, hb1⟩
        replace hcur := hcur.trans (hb1.mono hcur.size)
        clear hb1
        go_wp2_with fail
        go_at_call 9
        refine (cK _ hcur).mono ?_
        rintro e W4 ⟨rfl, hb1⟩
        replace hcur := hcur.trans (hb1.mono hcur.size)
        replace hrow := hrow.below hb1
        clear hb1
        rcases hrow.cases with ⟨_, h0⟩ | ⟨g, cap', rfl, _, hgl, _⟩
        · exact absurd h0 (by simp)
        · have e0 : W4.cell? ⟨g, 0, none⟩ = some (.string (bytesOf p)) := hrow.cell rfl 0 (by simp)
          clear hrow
          go_wp2_with fail
          go_at_call 6
          refine (c0 _ hcur).mono ?_
          rintro e W5 ⟨rfl, hb1⟩
          replace hcur := hcur.trans (hb1.mono hcur.size)
          replace e0 := (hb1.cell (p := ⟨g, 0, none⟩) hgl).trans e0
          replace hgl := Nat.lt_of_lt_of_le hgl hb1.size
          clear hb1
          go_wp2_with fail
          go_at_call 6
          refine (c1 _ hcur).mono ?_
          rintro e W6 ⟨rfl, hb1⟩
          replace hcur := hcur.trans (hb1.mono hcur.size)
          replace hgl := Nat.lt_of_lt_of_le hgl hb1.size
          clear hb1
          go_wp2_with fail
          go_at_call 10
          refine (d1 _).mono ?_
          rintro e W7 ⟨rfl, rfl⟩
          go_wp2_with fail
          go_at_call 10
          refine (d2 _).mono ?_
          rintro e W8 ⟨rfl, rfl⟩
          go_wp2_with fail
          go_ret
          exact ⟨rfl, hcur⟩
      · have c1 := fun (X : World) (hX : Below w.heap.size w X) => reach1 rp hA.1 X (hL.below hX hL.lt)
        simp only [exit_1, loop_errs hok hm] at cR cM
        generalize (runR p (runR (.loop p) m).1).2 = n at cR cM c1
        generalize (runR (.loop p) m).1 = a at c0 c1
        clear hP hok rp hk hp hA hm ht
        go_wp2_with fail
        go_at_call 6
        refine (cR _ hcur).mono ?_
        rintro e W1 ⟨rfl, hb1⟩
        replace hcur := hcur.trans (hb1.mono hcur.size)
        clear hb1
        go_wp2_with fail
        go_at_call 7
        refine (cM _).mono ?_
        rintro e W2 ⟨rfl, hb1⟩
        replace hcur := hcur.trans (hb1.mono hcur.size)
        clear hb1
        go_wp2_with fail
        go_at_call 8
        refine (cP _ hcur).mono ?_
        rintro e W3 ⟨v, rfl, hrow, hb1⟩
        replace hcur := hcur.trans (hb1.mono hcur.size)
        clear hb1
        go_wp2_with fail
        go_at_call 9
        refine (cK _ hcur).mono ?_
        rintro e W4 ⟨rfl, hb1⟩
        replace hcur := hcur.trans (hb1.mono hcur.size)
        replace hrow := hrow.below hb1
        clear hb1
        rcases hrow.cases with ⟨_, h0⟩ | ⟨g, cap', rfl, _, hgl, _⟩
        · exact absurd h0 (by simp)
        · have e0 : W4.cell? ⟨g, 0, none⟩ = some (.string (bytesOf p)) := hrow.cell rfl 0 (by simp)
          clear hrow
          go_wp2_with fail
          go_at_call 6
          refine (c0 _ hcur).mono ?_
          rintro e W5 ⟨rfl, hb1⟩
          replace hcur := hcur.trans (hb1.mono hcur.size)
          replace e0 := (hb1.cell (p := ⟨g, 0, none⟩) hgl).trans e0
          replace hgl := Nat.lt_of_lt_of_le hgl hb1.size
          clear hb1
          go_wp2_with fail
          go_at_call 6
          refine (c1 _ hcur).mono ?_
          rintro e W6 ⟨rfl, hb1⟩
          replace hcur := hcur.trans (hb1.mono hcur.size)
          replace hgl := Nat.lt_of_lt_of_le hgl hb1.size
          clear hb1
          go_wp2_with fail
          go_ret
          exact ⟨rfl, hcur⟩
    | pair k p q =>
      obtain ⟨hkk, hok1, hok2, rp, rq, hk, hp⟩ := read_pair hP
      simp only [hk] at cK
      simp only [hp] at cP
      have hA := run_lt p hok1 m hm
      rcases hkk with rfl | rfl
      · rcases hx with rfl | rfl
        · have c1 := fun (X : World) (hX : Below w.heap.size w X) => reach0 rp hm X (hL.below hX hL.lt)
          have c2 := fun (X : World) (hX : Below w.heap.size w X) => reach0 rq hA.1 X (hL.below hX hL.lt)
          simp only [exit_0, run_seq] at cR cM
          generalize (runR q (runR p m).1).1 = z at cR cM c2
          generalize (runR p m).1 = a at c1 c2
          clear hP hok1 hok2 rp rq hk hp hA hm ht
          go_wp2_with fail
          go_at_call 6
          refine (cR _ hcur).mono ?_
          rintro e W1 ⟨rfl, hb1⟩
          replace hcur := hcur.trans (hb1.mono hcur.size)
          clear hb1
          go_wp2_with fail
          go_at_call 7
          refine (cM _).mono ?_
          rintro e W2 ⟨rfl, hb1⟩
          replace hcur := hcur.trans (hb1.mono hcur.size)
          clear hb1
          go_wp2_with fail
          go_at_call 8
          refine (cP _ hcur).mono ?_
          rintro e W3 ⟨v, rfl, hrow, hb1⟩
          replace hcur := hcur.trans (hb1.mono hcur.size)
          clear hb1
          go_wp2_with fail
          go_at_call 9
          refine (cK _ hcur).mono ?_
          rintro e W4 ⟨rfl, hb1⟩
          replace hcur := hcur.trans (hb1.mono hcur.size)
          replace hrow := hrow.below hb1
          clear hb1
          rcases hrow.cases with ⟨_, h0⟩ | ⟨g, cap', rfl, _, hgl, _⟩
          · exact absurd h0 (by simp)
          · have e0 : W4.cell? ⟨g, 0, none⟩ = some (.string (bytesOf p)) := hrow.cell rfl 0 (by simp)
            have e1 : W4.cell? ⟨g, 1, none⟩ = some (.string (bytesOf q)) := hrow.cell rfl 1 (by simp)
            clear hrow
            go_wp2_with fail
            go_at_call 6
            refine (c1 _ hcur).mono ?_
            rintro e W5 ⟨rfl, hb1⟩
            replace hcur := hcur.trans (hb1.mono hcur.size)
            replace e1 := (hb1.cell (p := ⟨g, 1, none⟩) hgl).trans e1
            replace hgl := Nat.lt_of_lt_of_le hgl hb1.size
            clear hb1
            go_wp2_with fail
            go_at_call 6
            refine (c2 _ hcur).mono ?_
            rintro e W6 ⟨rfl, hb1⟩
            replace hcur := hcur.trans (hb1.mono hcur.size)
            replace hgl := Nat.lt_of_lt_of_le hgl hb1.size
            clear hb1
            go_wp2_with fail
            go_ret
            exact ⟨rfl, hcur⟩
        · have c1 := fun (X : World) (hX : Below w.heap.size w X) => reach0 rp hm X (hL.below hX hL.lt)
          have c3 := fun (X : World) (hX : Below w.heap.size w X) => reach1 rp hm X (hL.below hX hL.lt)
          have c2 := fun (X : World) (hX : Below w.heap.size w X) => reach1 rq hA.1 X (hL.below hX hL.lt)
          have hz := or_nat (runR q (runR p m).1).2 (runR p m).2 (by have := (run_lt q hok2 _ hA.1).2; omega) (by have := hA.2; omega)
          rw [Nat.or_comm] at hz
          simp only [exit_1, run_seq] at cR cM
          generalize (runR p m).2 ||| (runR q (runR p m).1).2 = z at cR cM hz
          generalize (runR q (runR p m).1).2 = r at c2 hz
          generalize (runR p m).2 = f at c3 hz
          generalize (runR p m).1 = a at c1 c2
          clear hP hok1 hok2 rp rq hk hp hA hm ht
          go_wp2_with fail
          go_at_call 6
          refine (cR _ hcur).mono ?_
          rintro e W1 ⟨rfl, hb1⟩
          replace hcur := hcur.trans (hb1.mono hcur.size)
          clear hb1
          go_wp2_with fail
          go_at_call 7
          refine (cM _).mono ?_
          rintro e W2 ⟨rfl, hb1⟩
          replace hcur := hcur.trans (hb1.mono hcur.size)
          clear hb1
          go_wp2_with fail
          go_at_call 8
          refine (cP _ hcur).mono ?_
          rintro e W3 ⟨v, rfl, hrow, hb1⟩
          replace hcur := hcur.trans (hb1.mono hcur.size)
          clear hb1
          go_wp2_with fail
          go_at_call 9
          refine (cK _ hcur).mono ?_
          rintro e W4 ⟨rfl, hb1⟩
          replace hcur := hcur.trans (hb1.mono hcur.size)
          replace hrow := hrow.below hb1
          clear hb1
          rcases hrow.cases with ⟨_, h0⟩ | ⟨g, cap', rfl, _, hgl, _⟩
          · exact absurd h0 (by simp)
          · have e0 : W4.cell? ⟨g, 0, none⟩ = some (.string (bytesOf p)) := hrow.cell rfl 0 (by simp)
            have e1 : W4.cell? ⟨g, 1, none⟩ = some (.string (bytesOf q)) := hrow.cell rfl 1 (by simp)
            clear hrow
            go_wp2_with fail
            go_at_call 6
            refine (c1 _ hcur).mono ?_
            rintro e W5 ⟨rfl, hb1⟩
            replace hcur := hcur.trans (hb1.mono hcur.size)
            replace e0 := (hb1.cell (p := ⟨g, 0, none⟩) hgl).trans e0
            replace e1 := (hb1.cell (p := ⟨g, 1, none⟩) hgl).trans e1
            replace hgl := Nat.lt_of_lt_of_le hgl hb1.size
            clear hb1
            go_wp2_with fail
            go_at_call 6
            refine (c2 _ hcur).mono ?_
            rintro e W6 ⟨rfl, hb1⟩
            replace hcur := hcur.trans (hb1.mono hcur.size)
            replace e0 := (hb1.cell (p := ⟨g, 0, none⟩) hgl).trans e0
            replace hgl := Nat.lt_of_lt_of_le hgl hb1.size
            clear hb1
            go_wp2_with fail
            go_at_call 6
            refine (c3 _ hcur).mono ?_
            rintro e W7 ⟨rfl, hb1⟩
            replace hcur := hcur.trans (hb1.mono hcur.size)
            replace hgl := Nat.lt_of_lt_of_le hgl hb1.size
            clear hb1
            go_wp2_with fail
            go_ret
            exact ⟨rfl, hcur⟩
      · rcases hx with rfl | rfl
        · have c1 := fun (X : World) (hX : Below w.heap.size w X) => reach0 rp hm X (hL.below hX hL.lt)
          have c2 := fun (X : World) (hX : Below w.heap.size w X) => reach0 rq hm X (hL.below hX hL.lt)
          have hz := or_nat (runR p m).1 (runR q m).1 (by have := hA.1; omega) (by have := (run_lt q hok2 m hm).1; omega)
          simp only [exit_0, run_choice2] at cR cM
          generalize (runR p m).1 ||| (runR q m).1 = z at cR cM hz
          generalize (runR p m).1 = a at c1 hz
          generalize (runR q m).1 = b at c2 hz
          clear hP hok1 hok2 rp rq hk hp hA hm ht
          go_wp2_with fail
          go_at_call 6
          refine (cR _ hcur).mono ?_
          rintro e W1 ⟨rfl, hb1⟩
          replace hcur := hcur.trans (hb1.mono hcur.size)
          clear hb1
          go_wp2_with fail
          go_at_call 7
          refine (cM _).mono ?_
          rintro e W2 ⟨rfl, hb1⟩
          replace hcur := hcur.trans (hb1.mono hcur.size)
          clear hb1
          go_wp2_with fail
          go_at_call 8
          refine (cP _ hcur).mono ?_
          rintro e W3 ⟨v, rfl, hrow, hb1⟩
          replace hcur := hcur.trans (hb1.mono hcur.size)
          clear hb1
          go_wp2_with fail
          go_at_call 9
          refine (cK _ hcur).mono ?_
          rintro e W4 ⟨rfl, hb1⟩
          replace hcur := hcur.trans (hb1.mono hcur.size)
          replace hrow := hrow.below hb1
          clear hb1
          rcases hrow.cases with ⟨_, h0⟩ | ⟨g, cap', rfl, _, hgl, _⟩
          · exact absurd h0 (by simp)
          · have e0 : W4.cell? ⟨g, 0, none⟩ = some (.string (bytesOf p)) := hrow.cell rfl 0 (by simp)
            have e1 : W4.cell? ⟨g, 1, none⟩ = some (.string (bytesOf q)) := hrow.cell rfl 1 (by simp)
            clear hrow
            go_wp2_with fail
            go_at_call 6
            refine (c1 _ hcur).mono ?_
            rintro e W5 ⟨rfl, hb1⟩
            replace hcur := hcur.trans (hb1.mono hcur.size)
            replace e1 := (hb1.cell (p := ⟨g, 1, none⟩) hgl).trans e1
            replace hgl := Nat.lt_of_lt_of_le hgl hb1.size
            clear hb1
            go_wp2_with fail
            go_at_call 6
            refine (c2 _ hcur).mono ?_
            rintro e W6 ⟨rfl, hb1⟩
            replace hcur := hcur.trans (hb1.mono hcur.size)
            replace hgl := Nat.lt_of_lt_of_le hgl hb1.size
            clear hb1
            go_wp2_with fail
            go_ret
            exact ⟨rfl, hcur⟩
        · have c1 := fun (X : World) (hX : Below w.heap.size w X) => reach1 rp hm X (hL.below hX hL.lt)
          have c2 := fun (X : World) (hX : Below w.heap.size w X) => reach1 rq hm X (hL.below hX hL.lt)
          have hz := or_nat (runR p m).2 (runR q m).2 (by have := hA.2; omega) (by have := (run_lt q hok2 m hm).2; omega)
          simp only [exit_1, run_choice2] at cR cM
          generalize (runR p m).2 ||| (runR q m).2 = z at cR cM hz
          generalize (runR p m).2 = a at c1 hz
          generalize (runR q m).2 = b at c2 hz
          clear hP hok1 hok2 rp rq hk hp hA hm ht
          go_wp2_with fail
          go_at_call 6
          refine (cR _ hcur).mono ?_
          rintro e W1 ⟨rfl, hb1⟩
          replace hcur := hcur.trans (hb1.mono hcur.size)
          clear hb1
          go_wp2_with fail
          go_at_call 7
          refine (cM _).mono ?_
          rintro e W2 ⟨rfl, hb1⟩
          replace hcur := hcur.trans (hb1.mono hcur.size)
          clear hb1
          go_wp2_with fail
          go_at_call 8
          refine (cP _ hcur).mono ?_
          rintro e W3 ⟨v, rfl, hrow, hb1⟩
          replace hcur := hcur.trans (hb1.mono hcur.size)
          clear hb1
          go_wp2_with fail
          go_at_call 9
          refine (cK _ hcur).mono ?_
          rintro e W4 ⟨rfl, hb1⟩
          replace hcur := hcur.trans (hb1.mono hcur.size)
          replace hrow := hrow.below hb1
          clear hb1
          rcases hrow.cases with ⟨_, h0⟩ | ⟨g, cap', rfl, _, hgl, _⟩
          · exact absurd h0 (by simp)
          · have e0 : W4.cell? ⟨g, 0, none⟩ = some (.string (bytesOf p)) := hrow.cell rfl 0 (by simp)
            have e1 : W4.cell? ⟨g, 1, none⟩ = some (.string (bytesOf q)) := hrow.cell rfl 1 (by simp)
            clear hrow
            go_wp2_with fail
            go_at_call 6
            refine (c1 _ hcur).mono ?_
            rintro e W5 ⟨rfl, hb1⟩
            replace hcur := hcur.trans (hb1.mono hcur.size)
            replace e1 := (hb1.cell (p := ⟨g, 1, none⟩) hgl).trans e1
            replace hgl := Nat.lt_of_lt_of_le hgl hb1.size
            clear hb1
            go_wp2_with fail
            go_at_call 6
            refine (c2 _ hcur).mono ?_
            rintro e W6 ⟨rfl, hb1⟩
            replace hcur := hcur.trans (hb1.mono hcur.size)
            replace hgl := Nat.lt_of_lt_of_le hgl hb1.size
            clear hb1
            go_wp2_with fail
            go_ret
            exact ⟨rfl, hcur⟩
theorem long_reached (w : World) (a : Option Addr) (len cap : Nat) (h : 1048576 < len) :
    Calls Tryz.prog 3 #[.slice a len cap] w fun e w' => e = .returned (.bool true) ∧ Below w.heap.size w w' := by
  have h1 : (1048576 : Int) < (len : Int) := by omega
  go_enter Tryz.func3, Tryz.ntmps3
  go_wp2
  go_ret
  exact ⟨rfl, Below.refl _ _⟩

theorem walkReached (a0 : Option Addr) (len0 cap0 : Nat) (z0 : List Int) (w : World) (w0 : IsRow .u8 w a0 len0 cap0 z0) {N : Nat} (hL : Laid3 N w) :
    Calls Tryz.prog 3 #[.slice a0 len0 cap0] w fun e w' => e = .returned (.bool true) ∧ Below w.heap.size w w' := by
  by_cases h : len0 ≤ 1048576
  · exact reached_walk w a0 len0 cap0 (Code.ofRow w0) h hL
  · exact long_reached w a0 len0 cap0 (by omega)
end Go.Proofs.YtkmfmnolibkmoaaGreatDoor

