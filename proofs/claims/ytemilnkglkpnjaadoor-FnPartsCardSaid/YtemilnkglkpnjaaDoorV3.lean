/- The law on the parts of programs: its walk. -/
import Derived.Test.YtemilnkglkpnjaaDoorD4
import Derived.Test.YtemilnkglkpnjaaDoorG3
import Derived.Test.YtemilnkglkpnjaaDoorQ18
import Derived.Test.YtemilnkglkpnjaaDoorN12
namespace Go.Proofs.YtemilnkglkpnjaaDoor
open Go.ChangeShapes Go.WideShapes Go.ChangeAt Go.RowKit Go.Shelf
attribute [local go_sem] Oper.semAt_some
set_option maxRecDepth 100000

/-- The text of a program as a value's bytes. -/
def bytesOf (p : Node) : ByteArray := ⟨p.text.toArray⟩
theorem bytesOf_list (p : Node) : (bytesOf p).toList = p.text := ofL _
theorem read_bytes {p : Node} (hok : p.ok) (h1 : p.text.length ≤ 60) (h2 : p.loops ≤ 6) : readP (bytesOf p).toList = some p := by
  rw [bytesOf_list]
  exact readP_iff.2 ⟨hok, rfl, h1, h2⟩
theorem isP_of {l : List UInt8} {nd : Node} (h : readP l = some nd) : isP l = true := by unfold isP; rw [h]; rfl
theorem sizeP_of {l : List UInt8} {nd : Node} (h : readP l = some nd) : sizeP l = nd.size := by unfold sizeP; rw [h]
theorem loopsP_of {l : List UInt8} {nd : Node} (h : readP l = some nd) : loopsP l = nd.loops := by unfold loopsP; rw [h]

theorem loop_facts {t : ByteArray} {p : Node} (h : readP t.toList = some (.loop p)) :
    kindP t.toList = [123] ∧ partsP t.toList = [p.text] ∧ isP t.toList = true ∧ sizeP t.toList = 1 + (p.size : Int) ∧ loopsP t.toList = (p.loops : Int) + 1 ∧
    madeV (loopTx (bytesOf p)) [bytesOf p] = .tuple #[.string t, .bool true] ∧ sizeP (bytesOf p).toList = (p.size : Int) ∧ loopsP (bytesOf p).toList = (p.loops : Int) := by
  obtain ⟨hok, htx, h60, h6⟩ := readP_iff.1 h
  have hp := read_bytes (p := p) hok (by rw [htx] at h60; simp [Node.text] at h60; omega) (by simp [Node.loops] at h6; omega)
  have hT : loopTx (bytesOf p) = t := by
    apply list_inj
    rw [loop_list, bytesOf_list, htx]; rfl
  refine ⟨by unfold kindP; rw [h], by unfold partsP; rw [h], isP_of h, ?_, ?_, ?_, sizeP_of hp, loopsP_of hp⟩
  · rw [sizeP_of h]; simp [Node.size]
  · rw [loopsP_of h]; simp [Node.loops]
  · rw [hT]
    have : madeOk t [bytesOf p] = true := by unfold madeOk; simp [isP_of hp, isP_of h]
    unfold madeV
    rw [this]; rfl
theorem pair_facts {t : ByteArray} {k : UInt8} {p q : Node} (h : readP t.toList = some (.pair k p q)) :
    kindP t.toList = [k] ∧ partsP t.toList = [p.text, q.text] ∧ isP t.toList = true ∧ sizeP t.toList = 1 + (p.size : Int) + (q.size : Int) ∧ loopsP t.toList = ((max p.loops q.loops : Nat) : Int) ∧
    madeV (pairTx k (bytesOf p) (bytesOf q)) [bytesOf p, bytesOf q] = .tuple #[.string t, .bool true] ∧ sizeP (bytesOf p).toList = (p.size : Int) ∧ loopsP (bytesOf p).toList = (p.loops : Int) ∧ sizeP (bytesOf q).toList = (q.size : Int) ∧ loopsP (bytesOf q).toList = (q.loops : Int) := by
  obtain ⟨hok, htx, h60, h6⟩ := readP_iff.1 h
  have hp := read_bytes (p := p) hok.2.1 (by rw [htx] at h60; simp [Node.text] at h60; omega) (by simp [Node.loops] at h6; omega)
  have hq := read_bytes (p := q) hok.2.2 (by rw [htx] at h60; simp [Node.text] at h60; omega) (by simp [Node.loops] at h6; omega)
  have hT : pairTx k (bytesOf p) (bytesOf q) = t := by
    apply list_inj
    rw [pair_list, bytesOf_list, bytesOf_list, htx]; rfl
  refine ⟨by unfold kindP; rw [h], by unfold partsP; rw [h], isP_of h, ?_, ?_, ?_, sizeP_of hp, loopsP_of hp, sizeP_of hq, loopsP_of hq⟩
  · rw [sizeP_of h]; simp [Node.size]
  · rw [loopsP_of h]; simp [Node.loops]
  · rw [hT]
    have : madeOk t [bytesOf p, bytesOf q] = true := by rw [madeOk_two, isP_of hp, isP_of hq, isP_of h]; rfl
    unfold madeV
    rw [this]; rfl
theorem parts_bound {t : ByteArray} {nd : Node} (h : readP t.toList = some nd) : nd.size ≤ 60 ∧ nd.loops ≤ 6 := by
  obtain ⟨hok, htx, h60, h6⟩ := readP_iff.1 h
  have := size_le_len nd hok
  rw [htx] at h60
  exact ⟨by omega, h6⟩

/-- What the law's walk is told of its text: the answers of both sides. -/
structure Told (N : Nat) (t : ByteArray) (kd : ByteArray) (ps : List (List UInt8)) (v : Bool) (sz lp : Int) : Prop where
  mparts : ∀ X : World, Calls Tryd.prog 18 #[.string t] X fun e w' => ∃ r, e = .returned r ∧ TRow w' X.heap.size r ps ∧ Below X.heap.size X w'
  pparts : ∀ X : World, Laid3 N X → Calls Tryd.prog 15 #[.string t] X fun e w' => ∃ r, e = .returned r ∧ TRow w' X.heap.size r ps ∧ Below X.heap.size X w'
  mkind : ∀ X : World, Calls Tryd.prog 19 #[.string t] X fun e w' => e = .returned (.string kd) ∧ Below X.heap.size X w'
  pkind : ∀ X : World, Laid3 N X → Calls Tryd.prog 16 #[.string t] X fun e w' => e = .returned (.string kd) ∧ Below X.heap.size X w'
  mvalid : ∀ X : World, Calls Tryd.prog 21 #[.string t] X fun e w' => e = .returned (.bool v) ∧ Below X.heap.size X w'
  pvalid : ∀ X : World, Laid3 N X → Calls Tryd.prog 20 #[.string t] X fun e w' => e = .returned (.bool v) ∧ Below X.heap.size X w'
  msize : ∀ X : World, Calls Tryd.prog 23 #[.string t] X fun e w' => e = .returned (.int .i64 sz) ∧ Below X.heap.size X w'
  psize : ∀ X : World, Laid3 N X → Calls Tryd.prog 22 #[.string t] X fun e w' => e = .returned (.int .i64 sz) ∧ Below X.heap.size X w'
  mloops : ∀ X : World, Calls Tryd.prog 25 #[.string t] X fun e w' => e = .returned (.int .i64 lp) ∧ Below X.heap.size X w'
  ploops : ∀ X : World, Laid3 N X → Calls Tryd.prog 24 #[.string t] X fun e w' => e = .returned (.int .i64 lp) ∧ Below X.heap.size X w'
theorem told (N : Nat) (t : ByteArray) (ht : t.size ≤ 9000000) : Told N t ⟨(kindP t.toList).toArray⟩ (partsP t.toList) (isP t.toList) (sizeP t.toList) (loopsP t.toList) where
  mparts X := mparts18 t ht X
  pparts X h := pparts15 t X h
  mkind X := kind19 t ht X
  pkind X h := pkind16 t X h
  mvalid X := valid21 t ht X
  pvalid X h := pvalid20 t X h
  msize X := size23 t ht X
  psize X h := psize22 t X h
  mloops X := loops25 t ht X
  ploops X h := ploops24 t X h


set_option maxHeartbeats 4000000 in
theorem parts_walk (w : World) (a : Option Addr) (len cap : Nat) (hc : Code w.heap.size w a len cap) (hl : len ≤ 1048576) {N : Nat} (hL : Laid3 N w) :
    Calls Tryd.prog 3 #[.slice a len cap] w fun e w' => e = .returned (.bool true) ∧ Below w.heap.size w w' := by
  have l1 : (len : Int) ≤ 1048576 := by omega
  have HC := Lib.hid hc
  clear hc
  go_enter Tryd.func3, Tryd.ntmps3
  go_wp2_with fail
  go_at_call 14
  refine (drawP14 HC.out).mono ?_
  rintro e W0 ⟨t, ht, rfl, B0⟩
  have L0 := hL.below B0 hL.lt
  have HT := Lib.hid ht
  clear ht
  have T := told N t (by have := HT.out; omega)
  cases hP : readP t.toList with
  | none =>
    have hk : (⟨(kindP t.toList).toArray⟩ : ByteArray) = ⟨#[]⟩ := by unfold kindP; rw [hP]
    have hps : partsP t.toList = [] := by unfold partsP; rw [hP]
    have hv : isP t.toList = false := by unfold isP; rw [hP]; rfl
    have hs : sizeP t.toList = -1 := by unfold sizeP; rw [hP]
    have hlp : loopsP t.toList = -1 := by unfold loopsP; rw [hP]
    rw [hk, hps, hv, hs, hlp] at T
    clear hP hk hps hv hs hlp
    go_wp2_with fail
    go_at_call 15
    refine (T.pparts _ L0).mono ?_
    rintro e W1 ⟨r, rfl, r_1, b1⟩
    have B1 := B0.trans (b1.mono B0.size)
    have L1 := hL.below B1 hL.lt
    go_wp2_with fail
    go_at_call 16
    refine (T.pkind _ L1).mono ?_
    rintro e W2 ⟨rfl, b2⟩
    have B2 := B1.trans (b2.mono B1.size)
    have L2 := hL.below B2 hL.lt
    have r_2 := r_1.below b2
    go_wp2_with fail
    go_at_call 18
    refine (T.mparts _).mono ?_
    rintro e W3 ⟨m, rfl, m_3, b3⟩
    have B3 := B2.trans (b3.mono B2.size)
    have L3 := hL.below B3 hL.lt
    have r_3 := r_2.below b3
    go_wp2_with fail
    go_at_call 17
    refine (sw17 r_3 m_3).mono ?_
    rintro e W4 ⟨rfl, b4⟩
    have B4 := B3.trans (b4.mono B3.size)
    have L4 := hL.below B4 hL.lt
    have r_4 := r_3.below b4
    have m_4 := m_3.below b4
    go_wp2_with fail
    go_at_call 19
    refine (T.mkind _).mono ?_
    rintro e W5 ⟨rfl, b5⟩
    have B5 := B4.trans (b5.mono B4.size)
    have L5 := hL.below B5 hL.lt
    have r_5 := r_4.below b5
    go_wp2_with fail
    go_at_call 20
    refine (T.pvalid _ L5).mono ?_
    rintro e W6 ⟨rfl, b6⟩
    have B6 := B5.trans (b6.mono B5.size)
    have L6 := hL.below B6 hL.lt
    have r_6 := r_5.below b6
    go_wp2_with fail
    go_at_call 21
    refine (T.mvalid _).mono ?_
    rintro e W7 ⟨rfl, b7⟩
    have B7 := B6.trans (b7.mono B6.size)
    have L7 := hL.below B7 hL.lt
    have r_7 := r_6.below b7
    go_wp2_with fail
    go_at_call 22
    refine (T.psize _ L7).mono ?_
    rintro e W8 ⟨rfl, b8⟩
    have B8 := B7.trans (b8.mono B7.size)
    have L8 := hL.below B8 hL.lt
    have r_8 := r_7.below b8
    go_wp2_with fail
    go_at_call 23
    refine (T.msize _).mono ?_
    rintro e W9 ⟨rfl, b9⟩
    have B9 := B8.trans (b9.mono B8.size)
    have L9 := hL.below B9 hL.lt
    have r_9 := r_8.below b9
    go_wp2_with fail
    go_at_call 24
    refine (T.ploops _ L9).mono ?_
    rintro e W10 ⟨rfl, b10⟩
    have B10 := B9.trans (b10.mono B9.size)
    have L10 := hL.below B10 hL.lt
    have r_10 := r_9.below b10
    go_wp2_with fail
    go_at_call 25
    refine (T.mloops _).mono ?_
    rintro e W11 ⟨rfl, b11⟩
    have B11 := B10.trans (b11.mono B10.size)
    have L11 := hL.below B11 hL.lt
    have r_11 := r_10.below b11
    rcases r_11.cases with ⟨rfl, _⟩ | ⟨g, cap', rfl, _⟩
    all_goals
      go_wp2_with fail
      go_at_call 20
      refine (T.pvalid _ L11).mono ?_
      rintro e W12 ⟨rfl, b12⟩
      have B12 := B11.trans (b12.mono B11.size)
      have L12 := hL.below B12 hL.lt
      go_wp2_with fail
      go_at_call 22
      refine (T.psize _ L12).mono ?_
      rintro e W13 ⟨rfl, b13⟩
      have B13 := B12.trans (b13.mono B12.size)
      have L13 := hL.below B13 hL.lt
      go_wp2_with fail
      go_at_call 24
      refine (T.ploops _ L13).mono ?_
      rintro e W14 ⟨rfl, b14⟩
      have B14 := B13.trans (b14.mono B13.size)
      go_wp2_with fail
      go_ret
      exact ⟨rfl, B14⟩
  | some nd =>
    obtain ⟨hok, htx, h60, h6⟩ := readP_iff.1 hP
    cases nd with
    | atom a =>
      have hkl : kindP t.toList = t.toList := by rw [kindP_some hP, htx]; rfl
      have hk : (⟨(kindP t.toList).toArray⟩ : ByteArray) = t := by rw [hkl]; exact bytes_eta t
      have hps : partsP t.toList = [] := by unfold partsP; rw [hP]
      have hv : isP t.toList = true := isP_of hP
      have hs : sizeP t.toList = 1 := by rw [sizeP_of hP]; rfl
      have hlp : loopsP t.toList = 0 := by rw [loopsP_of hP]; rfl
      have hne : ∀ c : UInt8, c = 59 ∨ c = 124 ∨ c = 123 → (t.toList == [c]) = false := by
        intro c hc
        simp only [beq_eq_false_iff_ne, ne_eq]
        intro e
        rw [htx] at e
        rcases hok with h | h | h | ⟨u, _, h⟩
        · rw [Node.text, h] at e; cases e; rcases hc with h | h | h <;> cases h
        · rw [Node.text, h] at e; cases e; rcases hc with h | h | h <;> cases h
        · rw [Node.text] at e; rw [e] at h; obtain ⟨_, _, h, _⟩ := twos_shape h; cases h
        · rw [Node.text, h] at e; simp at e
      have n1 := hne 59 (.inl rfl)
      have n2 := hne 124 (.inr (.inl rfl))
      have n3 := hne 123 (.inr (.inr rfl))
      have n4 : (t.toList == []) = false := by
        simp only [beq_eq_false_iff_ne, ne_eq]
        intro e
        have := text_pos (.atom a) hok
        rw [← htx, e] at this
        simp at this
      rw [hk, hps, hv, hs, hlp] at T
      clear hP hk hps hv hs hlp hkl hne htx h60 h6 hok
      go_wp2_with fail
      go_at_call 15
      refine (T.pparts _ L0).mono ?_
      rintro e W1 ⟨r, rfl, r_1, b1⟩
      have B1 := B0.trans (b1.mono B0.size)
      have L1 := hL.below B1 hL.lt
      go_wp2_with fail
      go_at_call 16
      refine (T.pkind _ L1).mono ?_
      rintro e W2 ⟨rfl, b2⟩
      have B2 := B1.trans (b2.mono B1.size)
      have L2 := hL.below B2 hL.lt
      have r_2 := r_1.below b2
      go_wp2_with fail
      go_at_call 18
      refine (T.mparts _).mono ?_
      rintro e W3 ⟨m, rfl, m_3, b3⟩
      have B3 := B2.trans (b3.mono B2.size)
      have L3 := hL.below B3 hL.lt
      have r_3 := r_2.below b3
      go_wp2_with fail
      go_at_call 17
      refine (sw17 r_3 m_3).mono ?_
      rintro e W4 ⟨rfl, b4⟩
      have B4 := B3.trans (b4.mono B3.size)
      have L4 := hL.below B4 hL.lt
      have r_4 := r_3.below b4
      have m_4 := m_3.below b4
      go_wp2_with fail
      go_at_call 19
      refine (T.mkind _).mono ?_
      rintro e W5 ⟨rfl, b5⟩
      have B5 := B4.trans (b5.mono B4.size)
      have L5 := hL.below B5 hL.lt
      have r_5 := r_4.below b5
      go_wp2_with fail
      go_at_call 20
      refine (T.pvalid _ L5).mono ?_
      rintro e W6 ⟨rfl, b6⟩
      have B6 := B5.trans (b6.mono B5.size)
      have L6 := hL.below B6 hL.lt
      have r_6 := r_5.below b6
      go_wp2_with fail
      go_at_call 21
      refine (T.mvalid _).mono ?_
      rintro e W7 ⟨rfl, b7⟩
      have B7 := B6.trans (b7.mono B6.size)
      have L7 := hL.below B7 hL.lt
      have r_7 := r_6.below b7
      go_wp2_with fail
      go_at_call 22
      refine (T.psize _ L7).mono ?_
      rintro e W8 ⟨rfl, b8⟩
      have B8 := B7.trans (b8.mono B7.size)
      have L8 := hL.below B8 hL.lt
      have r_8 := r_7.below b8
      go_wp2_with fail
      go_at_call 23
      refine (T.msize _).mono ?_
      rintro e W9 ⟨rfl, b9⟩
      have B9 := B8.trans (b9.mono B8.size)
      have L9 := hL.below B9 hL.lt
      have r_9 := r_8.below b9
      go_wp2_with fail
      go_at_call 24
      refine (T.ploops _ L9).mono ?_
      rintro e W10 ⟨rfl, b10⟩
      have B10 := B9.trans (b10.mono B9.size)
      have L10 := hL.below B10 hL.lt
      have r_10 := r_9.below b10
      go_wp2_with fail
      go_at_call 25
      refine (T.mloops _).mono ?_
      rintro e W11 ⟨rfl, b11⟩
      have B11 := B10.trans (b11.mono B10.size)
      have L11 := hL.below B11 hL.lt
      have r_11 := r_10.below b11
      rcases r_11.cases with ⟨rfl, _⟩ | ⟨g, cap', rfl, _⟩
      all_goals
        go_wp2_with fail
        go_loopw [8, 9, 112] (fun s l i wr => s = .int .i64 1 ∧ l = .int .i64 0 ∧ i = .int .i64 0 ∧ Below w.heap.size w wr) (fun _ _ _ _ => 0)
        case atStart => exact ⟨rfl, rfl, rfl, B11⟩
        case round =>
          obtain ⟨rfl, rfl, rfl, hBw⟩ := hrel
          have hLw := hL.below hBw hL.lt
          go_wp2_with (first
            | (go_at_call 22; refine (T.psize _ hLw).mono ?_; rintro e X1 ⟨rfl, d1⟩; have hD1 := hBw.trans (d1.mono hBw.size); have hLx := hL.below hD1 hL.lt)
            | (go_at_call 24; refine (T.ploops _ hLx).mono ?_; rintro e X2 ⟨rfl, d2⟩))
          go_ret
          exact ⟨rfl, hD1.trans (d2.mono hD1.size)⟩
    | loop p =>
      obtain ⟨f1, f2, f3, f4, f5, f6, f7, f8⟩ := loop_facts hP
      have hbd := parts_bound hP
      have hs0 : (p.size : Int) ≤ 60 := by simp [Node.size] at hbd; omega
      have hl0 : (p.loops : Int) ≤ 6 := by simp [Node.loops] at hbd; omega
      have hmk := fun (X : World) (hX : Laid3 N X) => ploop28 (bytesOf p) X hX
      have hzs := fun (X : World) (hX : Laid3 N X) => psize22 (bytesOf p) X hX
      have hzl := fun (X : World) (hX : Laid3 N X) => ploops24 (bytesOf p) X hX
      simp only [f6] at hmk
      simp only [f7] at hzs
      simp only [f8] at hzl
      rw [f1, f2, f3, f4, f5] at T
      clear hP htx h60 h6 hok f1 f2 f3 f4 f5 f6 f7 f8 hbd
      go_wp2_with fail
      go_at_call 15
      refine (T.pparts _ L0).mono ?_
      rintro e W1 ⟨r, rfl, r_1, b1⟩
      have B1 := B0.trans (b1.mono B0.size)
      have L1 := hL.below B1 hL.lt
      go_wp2_with fail
      go_at_call 16
      refine (T.pkind _ L1).mono ?_
      rintro e W2 ⟨rfl, b2⟩
      have B2 := B1.trans (b2.mono B1.size)
      have L2 := hL.below B2 hL.lt
      have r_2 := r_1.below b2
      go_wp2_with fail
      go_at_call 18
      refine (T.mparts _).mono ?_
      rintro e W3 ⟨m, rfl, m_3, b3⟩
      have B3 := B2.trans (b3.mono B2.size)
      have L3 := hL.below B3 hL.lt
      have r_3 := r_2.below b3
      go_wp2_with fail
      go_at_call 17
      refine (sw17 r_3 m_3).mono ?_
      rintro e W4 ⟨rfl, b4⟩
      have B4 := B3.trans (b4.mono B3.size)
      have L4 := hL.below B4 hL.lt
      have r_4 := r_3.below b4
      have m_4 := m_3.below b4
      go_wp2_with fail
      go_at_call 19
      refine (T.mkind _).mono ?_
      rintro e W5 ⟨rfl, b5⟩
      have B5 := B4.trans (b5.mono B4.size)
      have L5 := hL.below B5 hL.lt
      have r_5 := r_4.below b5
      go_wp2_with fail
      go_at_call 20
      refine (T.pvalid _ L5).mono ?_
      rintro e W6 ⟨rfl, b6⟩
      have B6 := B5.trans (b6.mono B5.size)
      have L6 := hL.below B6 hL.lt
      have r_6 := r_5.below b6
      go_wp2_with fail
      go_at_call 21
      refine (T.mvalid _).mono ?_
      rintro e W7 ⟨rfl, b7⟩
      have B7 := B6.trans (b7.mono B6.size)
      have L7 := hL.below B7 hL.lt
      have r_7 := r_6.below b7
      go_wp2_with fail
      go_at_call 22
      refine (T.psize _ L7).mono ?_
      rintro e W8 ⟨rfl, b8⟩
      have B8 := B7.trans (b8.mono B7.size)
      have L8 := hL.below B8 hL.lt
      have r_8 := r_7.below b8
      go_wp2_with fail
      go_at_call 23
      refine (T.msize _).mono ?_
      rintro e W9 ⟨rfl, b9⟩
      have B9 := B8.trans (b9.mono B8.size)
      have L9 := hL.below B9 hL.lt
      have r_9 := r_8.below b9
      go_wp2_with fail
      go_at_call 24
      refine (T.ploops _ L9).mono ?_
      rintro e W10 ⟨rfl, b10⟩
      have B10 := B9.trans (b10.mono B9.size)
      have L10 := hL.below B10 hL.lt
      have r_10 := r_9.below b10
      go_wp2_with fail
      go_at_call 25
      refine (T.mloops _).mono ?_
      rintro e W11 ⟨rfl, b11⟩
      have B11 := B10.trans (b11.mono B10.size)
      have L11 := hL.below B11 hL.lt
      have r_11 := r_10.below b11
      rcases r_11.cases with ⟨_, h0⟩ | ⟨g, cap', rfl, _, hg2, _⟩
      · exact absurd h0 (by simp)
      · have c0 : W11.cell? ⟨g, 0, none⟩ = some (.string (bytesOf p)) := r_11.cell rfl 0 (by simp)
        go_wp2_with fail
        go_at_call 28
        refine (hmk _ L11).mono ?_
        rintro e W12 ⟨rfl, b12⟩
        have B12 := B11.trans (b12.mono B11.size)
        have c12 := (b12.cell (p := ⟨g, 0, none⟩) hg2).trans c0
        have hgl := Nat.lt_of_lt_of_le hg2 b12.size
        clear c0
        go_wp2_with fail
        go_loopw [8, 9, 112] (fun s l i wr => ((s = .int .i64 1 ∧ l = .int .i64 0 ∧ i = .int .i64 0) ∨ (s = .int .i64 (1 + (p.size : Int)) ∧ l = .int .i64 (p.loops : Int) ∧ i = .int .i64 1)) ∧ Below W12.heap.size W12 wr) (fun _ _ i _ => 1 - (intOf i).toNat)
        case atStart => exact ⟨.inl ⟨rfl, rfl, rfl⟩, Below.refl _ _⟩
        case round =>
          obtain ⟨hor, hB⟩ := hrel
          have hBw := B12.trans (hB.mono B12.size)
          have hLw := hL.below hBw hL.lt
          rcases hor with ⟨rfl, rfl, rfl⟩ | ⟨rfl, rfl, rfl⟩
          · have e0 := (hB.cell (p := ⟨g, 0, none⟩) hgl).trans c12
            go_wp2_with (first
              | (go_at_call 22; refine (hzs _ hLw).mono ?_; rintro e X1 ⟨rfl, d1⟩; have hD0 := hB.trans (d1.mono hB.size); have hD1 := hBw.trans (d1.mono hBw.size); have hLx := hL.below hD1 hL.lt; have e1 := (d1.cell (p := ⟨g, 0, none⟩) (Nat.lt_of_lt_of_le hgl hB.size)).trans e0)
              | (go_at_call 24; refine (hzl _ hLx).mono ?_; rintro e X2 ⟨rfl, d2⟩))
            go_roundw
            case rel => exact ⟨.inr ⟨by go_num, by go_num, rfl⟩, hD0.trans (d2.mono hD0.size)⟩
            case measure => simp [intOf]
          · go_wp2_with (first
              | (go_at_call 22; refine (T.psize _ hLw).mono ?_; rintro e X1 ⟨rfl, d1⟩; have hD1 := hBw.trans (d1.mono hBw.size); have hLx := hL.below hD1 hL.lt)
              | (go_at_call 24; refine (T.ploops _ hLx).mono ?_; rintro e X2 ⟨rfl, d2⟩))
            go_ret
            exact ⟨rfl, hD1.trans (d2.mono hD1.size)⟩
    | pair k p q =>
      obtain ⟨f1, f2, f3, f4, f5, f6, f7, f8, f9, f10⟩ := pair_facts hP
      have hbd := parts_bound hP
      have hs0 : (p.size : Int) + (q.size : Int) ≤ 60 := by simp [Node.size] at hbd; omega
      have hp0 : (0 : Int) ≤ (p.size : Int) := by omega
      have hq0 : (0 : Int) ≤ (q.size : Int) := by omega
      have hs1 : (p.size : Int) ≤ 60 := by omega
      have hs2 : (q.size : Int) ≤ 60 := by omega
      have hl0 : (p.loops : Int) ≤ 6 := by simp [Node.loops] at hbd; omega
      have hl1 : (q.loops : Int) ≤ 6 := by simp [Node.loops] at hbd; omega
      have hzs := fun (X : World) (hX : Laid3 N X) => psize22 (bytesOf p) X hX
      have hzl := fun (X : World) (hX : Laid3 N X) => ploops24 (bytesOf p) X hX
      have hys := fun (X : World) (hX : Laid3 N X) => psize22 (bytesOf q) X hX
      have hyl := fun (X : World) (hX : Laid3 N X) => ploops24 (bytesOf q) X hX
      simp only [f7] at hzs
      simp only [f8] at hzl
      simp only [f9] at hys
      simp only [f10] at hyl
      rw [f1, f2, f3, f4, f5] at T
      obtain ⟨hk0, _, _⟩ := hok
      clear hP htx h60 h6 f1 f2 f3 f4 f5 f7 f8 f9 f10 hbd
      rcases hk0 with rfl | rfl
      · have hmk := fun (X : World) (hX : Laid3 N X) => pseq26 (bytesOf p) (bytesOf q) X hX
        simp only [f6] at hmk
        clear f6
        go_wp2_with fail
        go_at_call 15
        refine (T.pparts _ L0).mono ?_
        rintro e W1 ⟨r, rfl, r_1, b1⟩
        have B1 := B0.trans (b1.mono B0.size)
        have L1 := hL.below B1 hL.lt
        go_wp2_with fail
        go_at_call 16
        refine (T.pkind _ L1).mono ?_
        rintro e W2 ⟨rfl, b2⟩
        have B2 := B1.trans (b2.mono B1.size)
        have L2 := hL.below B2 hL.lt
        have r_2 := r_1.below b2
        go_wp2_with fail
        go_at_call 18
        refine (T.mparts _).mono ?_
        rintro e W3 ⟨m, rfl, m_3, b3⟩
        have B3 := B2.trans (b3.mono B2.size)
        have L3 := hL.below B3 hL.lt
        have r_3 := r_2.below b3
        go_wp2_with fail
        go_at_call 17
        refine (sw17 r_3 m_3).mono ?_
        rintro e W4 ⟨rfl, b4⟩
        have B4 := B3.trans (b4.mono B3.size)
        have L4 := hL.below B4 hL.lt
        have r_4 := r_3.below b4
        have m_4 := m_3.below b4
        go_wp2_with fail
        go_at_call 19
        refine (T.mkind _).mono ?_
        rintro e W5 ⟨rfl, b5⟩
        have B5 := B4.trans (b5.mono B4.size)
        have L5 := hL.below B5 hL.lt
        have r_5 := r_4.below b5
        go_wp2_with fail
        go_at_call 20
        refine (T.pvalid _ L5).mono ?_
        rintro e W6 ⟨rfl, b6⟩
        have B6 := B5.trans (b6.mono B5.size)
        have L6 := hL.below B6 hL.lt
        have r_6 := r_5.below b6
        go_wp2_with fail
        go_at_call 21
        refine (T.mvalid _).mono ?_
        rintro e W7 ⟨rfl, b7⟩
        have B7 := B6.trans (b7.mono B6.size)
        have L7 := hL.below B7 hL.lt
        have r_7 := r_6.below b7
        go_wp2_with fail
        go_at_call 22
        refine (T.psize _ L7).mono ?_
        rintro e W8 ⟨rfl, b8⟩
        have B8 := B7.trans (b8.mono B7.size)
        have L8 := hL.below B8 hL.lt
        have r_8 := r_7.below b8
        go_wp2_with fail
        go_at_call 23
        refine (T.msize _).mono ?_
        rintro e W9 ⟨rfl, b9⟩
        have B9 := B8.trans (b9.mono B8.size)
        have L9 := hL.below B9 hL.lt
        have r_9 := r_8.below b9
        go_wp2_with fail
        go_at_call 24
        refine (T.ploops _ L9).mono ?_
        rintro e W10 ⟨rfl, b10⟩
        have B10 := B9.trans (b10.mono B9.size)
        have L10 := hL.below B10 hL.lt
        have r_10 := r_9.below b10
        go_wp2_with fail
        go_at_call 25
        refine (T.mloops _).mono ?_
        rintro e W11 ⟨rfl, b11⟩
        have B11 := B10.trans (b11.mono B10.size)
        have L11 := hL.below B11 hL.lt
        have r_11 := r_10.below b11
        rcases r_11.cases with ⟨_, h0⟩ | ⟨g, cap', rfl, _, hg2, _⟩
        · exact absurd h0 (by simp)
        · have c0 : W11.cell? ⟨g, 0, none⟩ = some (.string (bytesOf p)) := r_11.cell rfl 0 (by simp)
          have c1 : W11.cell? ⟨g, 1, none⟩ = some (.string (bytesOf q)) := r_11.cell rfl 1 (by simp)
          go_wp2_with fail
          go_region_with (go_at_call 26; refine Calls.mono (hmk _ ?_) ?_; (· exact L11); rintro e W12 ⟨rfl, b12⟩)
          all_goals
            have B12 : Below w.heap.size w W12 := by first | exact B11.drew.trans (b12.mono B11.size) | exact B11.trans (b12.mono B11.size)
            have c12 := (b12.cell (p := ⟨g, 0, none⟩) hg2).trans c0
            have c13 := (b12.cell (p := ⟨g, 1, none⟩) hg2).trans c1
            have hgl := Nat.lt_of_lt_of_le hg2 b12.size
            clear c0 c1
            go_wp2_with fail
            go_loopw [8, 9, 112] (fun s l i wr => ((s = .int .i64 1 ∧ l = .int .i64 0 ∧ i = .int .i64 0) ∨ (s = .int .i64 (1 + (p.size : Int)) ∧ l = .int .i64 (p.loops : Int) ∧ i = .int .i64 1) ∨ (s = .int .i64 (1 + (p.size : Int) + (q.size : Int)) ∧ l = .int .i64 (max p.loops q.loops : Nat) ∧ i = .int .i64 2)) ∧ Below W12.heap.size W12 wr) (fun _ _ i _ => 2 - (intOf i).toNat)
            case atStart => exact ⟨.inl ⟨rfl, rfl, rfl⟩, Below.refl _ _⟩
            case round =>
              obtain ⟨hor, hB⟩ := hrel
              have hBw := B12.trans (hB.mono B12.size)
              have hLw := hL.below hBw hL.lt
              rcases hor with ⟨rfl, rfl, rfl⟩ | ⟨rfl, rfl, rfl⟩ | ⟨rfl, rfl, rfl⟩
              · have e0 := (hB.cell (p := ⟨g, 0, none⟩) hgl).trans c12
                go_wp2_with (first
                  | (go_at_call 22; refine (hzs _ hLw).mono ?_; rintro e X1 ⟨rfl, d1⟩; have hD0 := hB.trans (d1.mono hB.size); have hD1 := hBw.trans (d1.mono hBw.size); have hLx := hL.below hD1 hL.lt; have e1 := (d1.cell (p := ⟨g, 0, none⟩) (Nat.lt_of_lt_of_le hgl hB.size)).trans e0)
                  | (go_at_call 24; refine (hzl _ hLx).mono ?_; rintro e X2 ⟨rfl, d2⟩))
                go_roundw
                case rel => exact ⟨.inr (.inl ⟨by go_num, by go_num, rfl⟩), hD0.trans (d2.mono hD0.size)⟩
                case measure => simp [intOf]
              · have e0 := (hB.cell (p := ⟨g, 1, none⟩) hgl).trans c13
                go_wp2_with (first
                  | (go_at_call 22; refine (hys _ hLw).mono ?_; rintro e X1 ⟨rfl, d1⟩; have hD0 := hB.trans (d1.mono hB.size); have hD1 := hBw.trans (d1.mono hBw.size); have hLx := hL.below hD1 hL.lt; have e1 := (d1.cell (p := ⟨g, 1, none⟩) (Nat.lt_of_lt_of_le hgl hB.size)).trans e0)
                  | (go_at_call 24; refine (hyl _ hLx).mono ?_; rintro e X2 ⟨rfl, d2⟩))
                go_roundw
                case rel => exact ⟨.inr (.inr ⟨by go_num, by go_num, rfl⟩), hD0.trans (d2.mono hD0.size)⟩
                case measure => simp [intOf]
              · go_wp2_with (first
                  | (go_at_call 22; refine (T.psize _ hLw).mono ?_; rintro e X1 ⟨rfl, d1⟩; have hD1 := hBw.trans (d1.mono hBw.size); have hLx := hL.below hD1 hL.lt)
                  | (go_at_call 24; refine (T.ploops _ hLx).mono ?_; rintro e X2 ⟨rfl, d2⟩))
                go_ret
                exact ⟨rfl, hD1.trans (d2.mono hD1.size)⟩
      · have hmk := fun (X : World) (hX : Laid3 N X) => pchoice27 (bytesOf p) (bytesOf q) X hX
        simp only [f6] at hmk
        clear f6
        go_wp2_with fail
        go_at_call 15
        refine (T.pparts _ L0).mono ?_
        rintro e W1 ⟨r, rfl, r_1, b1⟩
        have B1 := B0.trans (b1.mono B0.size)
        have L1 := hL.below B1 hL.lt
        go_wp2_with fail
        go_at_call 16
        refine (T.pkind _ L1).mono ?_
        rintro e W2 ⟨rfl, b2⟩
        have B2 := B1.trans (b2.mono B1.size)
        have L2 := hL.below B2 hL.lt
        have r_2 := r_1.below b2
        go_wp2_with fail
        go_at_call 18
        refine (T.mparts _).mono ?_
        rintro e W3 ⟨m, rfl, m_3, b3⟩
        have B3 := B2.trans (b3.mono B2.size)
        have L3 := hL.below B3 hL.lt
        have r_3 := r_2.below b3
        go_wp2_with fail
        go_at_call 17
        refine (sw17 r_3 m_3).mono ?_
        rintro e W4 ⟨rfl, b4⟩
        have B4 := B3.trans (b4.mono B3.size)
        have L4 := hL.below B4 hL.lt
        have r_4 := r_3.below b4
        have m_4 := m_3.below b4
        go_wp2_with fail
        go_at_call 19
        refine (T.mkind _).mono ?_
        rintro e W5 ⟨rfl, b5⟩
        have B5 := B4.trans (b5.mono B4.size)
        have L5 := hL.below B5 hL.lt
        have r_5 := r_4.below b5
        go_wp2_with fail
        go_at_call 20
        refine (T.pvalid _ L5).mono ?_
        rintro e W6 ⟨rfl, b6⟩
        have B6 := B5.trans (b6.mono B5.size)
        have L6 := hL.below B6 hL.lt
        have r_6 := r_5.below b6
        go_wp2_with fail
        go_at_call 21
        refine (T.mvalid _).mono ?_
        rintro e W7 ⟨rfl, b7⟩
        have B7 := B6.trans (b7.mono B6.size)
        have L7 := hL.below B7 hL.lt
        have r_7 := r_6.below b7
        go_wp2_with fail
        go_at_call 22
        refine (T.psize _ L7).mono ?_
        rintro e W8 ⟨rfl, b8⟩
        have B8 := B7.trans (b8.mono B7.size)
        have L8 := hL.below B8 hL.lt
        have r_8 := r_7.below b8
        go_wp2_with fail
        go_at_call 23
        refine (T.msize _).mono ?_
        rintro e W9 ⟨rfl, b9⟩
        have B9 := B8.trans (b9.mono B8.size)
        have L9 := hL.below B9 hL.lt
        have r_9 := r_8.below b9
        go_wp2_with fail
        go_at_call 24
        refine (T.ploops _ L9).mono ?_
        rintro e W10 ⟨rfl, b10⟩
        have B10 := B9.trans (b10.mono B9.size)
        have L10 := hL.below B10 hL.lt
        have r_10 := r_9.below b10
        go_wp2_with fail
        go_at_call 25
        refine (T.mloops _).mono ?_
        rintro e W11 ⟨rfl, b11⟩
        have B11 := B10.trans (b11.mono B10.size)
        have L11 := hL.below B11 hL.lt
        have r_11 := r_10.below b11
        rcases r_11.cases with ⟨_, h0⟩ | ⟨g, cap', rfl, _, hg2, _⟩
        · exact absurd h0 (by simp)
        · have c0 : W11.cell? ⟨g, 0, none⟩ = some (.string (bytesOf p)) := r_11.cell rfl 0 (by simp)
          have c1 : W11.cell? ⟨g, 1, none⟩ = some (.string (bytesOf q)) := r_11.cell rfl 1 (by simp)
          go_wp2_with fail
          go_region_with (go_at_call 27; refine Calls.mono (hmk _ ?_) ?_; (· exact L11); rintro e W12 ⟨rfl, b12⟩)
          all_goals
            have B12 : Below w.heap.size w W12 := by first | exact B11.drew.trans (b12.mono B11.size) | exact B11.trans (b12.mono B11.size)
            have c12 := (b12.cell (p := ⟨g, 0, none⟩) hg2).trans c0
            have c13 := (b12.cell (p := ⟨g, 1, none⟩) hg2).trans c1
            have hgl := Nat.lt_of_lt_of_le hg2 b12.size
            clear c0 c1
            go_wp2_with fail
            go_loopw [8, 9, 112] (fun s l i wr => ((s = .int .i64 1 ∧ l = .int .i64 0 ∧ i = .int .i64 0) ∨ (s = .int .i64 (1 + (p.size : Int)) ∧ l = .int .i64 (p.loops : Int) ∧ i = .int .i64 1) ∨ (s = .int .i64 (1 + (p.size : Int) + (q.size : Int)) ∧ l = .int .i64 (max p.loops q.loops : Nat) ∧ i = .int .i64 2)) ∧ Below W12.heap.size W12 wr) (fun _ _ i _ => 2 - (intOf i).toNat)
            case atStart => exact ⟨.inl ⟨rfl, rfl, rfl⟩, Below.refl _ _⟩
            case round =>
              obtain ⟨hor, hB⟩ := hrel
              have hBw := B12.trans (hB.mono B12.size)
              have hLw := hL.below hBw hL.lt
              rcases hor with ⟨rfl, rfl, rfl⟩ | ⟨rfl, rfl, rfl⟩ | ⟨rfl, rfl, rfl⟩
              · have e0 := (hB.cell (p := ⟨g, 0, none⟩) hgl).trans c12
                go_wp2_with (first
                  | (go_at_call 22; refine (hzs _ hLw).mono ?_; rintro e X1 ⟨rfl, d1⟩; have hD0 := hB.trans (d1.mono hB.size); have hD1 := hBw.trans (d1.mono hBw.size); have hLx := hL.below hD1 hL.lt; have e1 := (d1.cell (p := ⟨g, 0, none⟩) (Nat.lt_of_lt_of_le hgl hB.size)).trans e0)
                  | (go_at_call 24; refine (hzl _ hLx).mono ?_; rintro e X2 ⟨rfl, d2⟩))
                go_roundw
                case rel => exact ⟨.inr (.inl ⟨by go_num, by go_num, rfl⟩), hD0.trans (d2.mono hD0.size)⟩
                case measure => simp [intOf]
              · have e0 := (hB.cell (p := ⟨g, 1, none⟩) hgl).trans c13
                go_wp2_with (first
                  | (go_at_call 22; refine (hys _ hLw).mono ?_; rintro e X1 ⟨rfl, d1⟩; have hD0 := hB.trans (d1.mono hB.size); have hD1 := hBw.trans (d1.mono hBw.size); have hLx := hL.below hD1 hL.lt; have e1 := (d1.cell (p := ⟨g, 1, none⟩) (Nat.lt_of_lt_of_le hgl hB.size)).trans e0)
                  | (go_at_call 24; refine (hyl _ hLx).mono ?_; rintro e X2 ⟨rfl, d2⟩))
                go_roundw
                case rel => exact ⟨.inr (.inr ⟨by go_num, by go_num, rfl⟩), hD0.trans (d2.mono hD0.size)⟩
                case measure => simp [intOf]
              · go_wp2_with (first
                  | (go_at_call 22; refine (T.psize _ hLw).mono ?_; rintro e X1 ⟨rfl, d1⟩; have hD1 := hBw.trans (d1.mono hBw.size); have hLx := hL.below hD1 hL.lt)
                  | (go_at_call 24; refine (T.ploops _ hLx).mono ?_; rintro e X2 ⟨rfl, d2⟩))
                go_ret
                exact ⟨rfl, hD1.trans (d2.mono hD1.size)⟩
theorem long_parts (w : World) (a : Option Addr) (len cap : Nat) (h : 1048576 < len) :
    Calls Tryd.prog 3 #[.slice a len cap] w fun e w' => e = .returned (.bool true) ∧ Below w.heap.size w w' := by
  have h1 : (1048576 : Int) < (len : Int) := by omega
  go_enter Tryd.func3, Tryd.ntmps3
  go_wp2
  go_ret
  exact ⟨rfl, Below.refl _ _⟩

theorem walkFnParts (a0 : Option Addr) (len0 cap0 : Nat) (z0 : List Int) (w : World) (w0 : IsRow .u8 w a0 len0 cap0 z0) {N : Nat} (hL : Laid3 N w) :
    Calls Tryd.prog 3 #[.slice a0 len0 cap0] w fun e w' => e = .returned (.bool true) ∧ Below w.heap.size w w' := by
  by_cases h : len0 ≤ 1048576
  · exact parts_walk w a0 len0 cap0 (Code.ofRow w0) h hL
  · exact long_parts w a0 len0 cap0 (by omega)
end Go.Proofs.YtemilnkglkpnjaaDoor
