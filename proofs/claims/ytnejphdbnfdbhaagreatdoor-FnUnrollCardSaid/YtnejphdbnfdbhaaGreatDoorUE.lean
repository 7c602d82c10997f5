/- The program's unroller: what it writes. -/
import Derived.Test.YtnejphdbnfdbhaaGreatDoorNA
import Derived.Test.YtnejphdbnfdbhaaGreatDoorUC
import Derived.Test.YtnejphdbnfdbhaaGreatDoorUA
namespace Go.Proofs.YtnejphdbnfdbhaaGreatDoor
open Go.ChangeShapes Go.WideShapes Go.ChangeAt Go.RowKit Go.Shelf
attribute [local go_sem] Oper.semAt_some
set_option maxRecDepth 100000

/-- What is written behind a text of so many bytes: a body so many times, and a program. -/
def wrA (f : Nat → List UInt8) : Nat → Nat → List UInt8
  | 0, _ => [46]
  | j + 1, L => if 60 < L then [46] else [40, 46, 124, 40] ++ f (L + 4) ++ [59] ++ wrA f j (L + 4 + (f (L + 4)).length + 1) ++ [41, 41]
def wrN (k : Nat) : Node → Nat → List UInt8
  | .atom a, _ => a
  | .loop p, L => wrA (wrN k p) k L
  | .pair c p q, L => [40] ++ wrN k p (L + 1) ++ [c] ++ wrN k q (L + 1 + (wrN k p (L + 1)).length + 1) ++ [41]
/-- No more than so many bytes. -/
def bnd (k : Nat) : Node → Nat
  | .atom a => a.length
  | .loop p => k * (bnd k p + 7) + 1
  | .pair _ p q => bnd k p + bnd k q + 3
theorem wrA_le {f : Nat → List UInt8} {c : Nat} (h : ∀ L, (f L).length ≤ c) : ∀ j L, (wrA f j L).length ≤ j * (c + 7) + 1
  | 0, _ => by show 1 ≤ _; omega
  | j + 1, L => by
    have ih := wrA_le h j (L + 4 + (f (L + 4)).length + 1)
    have h1 := h (L + 4)
    unfold wrA
    split
    · show 1 ≤ _; omega
    · simp only [List.length_append, List.length_cons, List.length_nil]
      rw [Nat.succ_mul]
      omega
theorem wrN_le (k : Nat) : ∀ (nd : Node) (L : Nat), (wrN k nd L).length ≤ bnd k nd
  | .atom a, _ => Nat.le_refl _
  | .loop p, L => wrA_le (wrN_le k p) k L
  | .pair c p q, L => by
    have h1 := wrN_le k p (L + 1)
    have h2 := wrN_le k q (L + 1 + (wrN k p (L + 1)).length + 1)
    unfold wrN bnd
    simp only [List.length_append, List.length_cons, List.length_nil]
    omega
theorem bnd_le (k : Nat) (hk : k ≤ 12) : ∀ (nd : Node), nd.ok → bnd k nd ≤ 20 ^ nd.loops * (20 * nd.text.length)
  | .atom a, h => by
    have h1 : 1 ≤ 20 ^ (Node.atom a).loops := Nat.pos_of_ne_zero (by simp)
    show a.length ≤ 20 ^ 0 * (20 * a.length)
    rw [Nat.pow_zero, Nat.one_mul]
    omega
  | .loop p, h => by
    have ih := bnd_le k hk p h
    have e : (Node.loop p).text.length = p.text.length + 2 := by show (123 :: (p.text ++ [125])).length = _; simp
    have e2 : (20 : Nat) ^ (Node.loop p).loops = 20 * 20 ^ p.loops := by show 20 ^ (p.loops + 1) = _; rw [Nat.pow_succ, Nat.mul_comm]
    rw [e, e2]
    have h1 : 1 ≤ 20 ^ p.loops := Nat.pos_of_ne_zero (by simp)
    generalize 20 ^ p.loops = A at ih h1 ⊢
    show k * (bnd k p + 7) + 1 ≤ _
    have h2 : k * (bnd k p + 7) ≤ 12 * (bnd k p + 7) := Nat.mul_le_mul_right _ hk
    have e3 : 20 * A * (20 * (p.text.length + 2)) = 20 * (A * (20 * p.text.length)) + 800 * A := by
      rw [Nat.mul_add, Nat.mul_add, Nat.mul_assoc]
      congr 1
      omega
    rw [e3]
    generalize A * (20 * p.text.length) = C at ih ⊢
    omega
  | .pair c p q, h => by
    have i1 := bnd_le k hk p h.2.1
    have i2 := bnd_le k hk q h.2.2
    have e : (Node.pair c p q).text.length = p.text.length + q.text.length + 3 := by show (40 :: (p.text ++ c :: (q.text ++ [41]))).length = _; simp; omega
    rw [e]
    show bnd k p + bnd k q + 3 ≤ 20 ^ (max p.loops q.loops) * _
    have m1 : 20 ^ p.loops ≤ 20 ^ (max p.loops q.loops) := Nat.pow_le_pow_right (by decide) (Nat.le_max_left _ _)
    have m2 : 20 ^ q.loops ≤ 20 ^ (max p.loops q.loops) := Nat.pow_le_pow_right (by decide) (Nat.le_max_right _ _)
    have h1 : 1 ≤ 20 ^ (max p.loops q.loops) := Nat.pos_of_ne_zero (by simp)
    generalize 20 ^ (max p.loops q.loops) = A at m1 m2 h1 ⊢
    have n1 := Nat.le_trans i1 (Nat.mul_le_mul_right (20 * p.text.length) m1)
    have n2 := Nat.le_trans i2 (Nat.mul_le_mul_right (20 * q.text.length) m2)
    have e3 : A * (20 * (p.text.length + q.text.length + 3)) = A * (20 * p.text.length) + A * (20 * q.text.length) + 60 * A := by
      rw [Nat.mul_add, Nat.mul_add, Nat.mul_add, Nat.mul_add]
      congr 1
      omega
    rw [e3]
    omega
theorem bnd_small {k : Nat} (hk : k ≤ 12) {nd : Node} (h : nd.ok) (hl : nd.loops ≤ 6) (ht : nd.text.length ≤ 60) : bnd k nd ≤ 80000000000 := by
  refine Nat.le_trans (bnd_le k hk nd h) ?_
  exact Nat.le_trans (Nat.mul_le_mul (Nat.pow_le_pow_right (n := 20) (by decide) hl) (Nat.mul_le_mul_left 20 ht)) (by decide)
/-- What fits is the program unrolled; what does not stays too long. -/
def Fits (L : Nat) (w u : List UInt8) : Prop := (L + u.length ≤ 60 → w = u) ∧ (60 < L + u.length → 60 < L + w.length)
theorem wrA_fits {f : Nat → List UInt8} {q : Node} (h : ∀ L, Fits L (f L) q.text) : ∀ j L, Fits L (wrA f j L) (againN q j).text
  | 0, L => ⟨fun _ => rfl, fun h => h⟩
  | j + 1, L => by
    have e : (againN q (j + 1)).text = [40, 46, 124, 40] ++ q.text ++ [59] ++ (againN q j).text ++ [41, 41] := by
      show 40 :: ([46] ++ 124 :: ((40 :: (q.text ++ 59 :: ((againN q j).text ++ [41]))) ++ [41])) = _
      simp
    rw [e]
    unfold wrA
    by_cases hL : 60 < L
    · rw [if_pos hL]
      constructor
      · intro hh; omega
      · intro _; simp only [List.length_cons, List.length_nil]; omega
    · rw [if_neg hL]
      obtain ⟨f1, f2⟩ := h (L + 4)
      obtain ⟨g1, g2⟩ := wrA_fits h j (L + 4 + (f (L + 4)).length + 1)
      constructor
      · intro hh
        simp only [List.length_append, List.length_cons, List.length_nil] at hh
        have e1 := f1 (by omega)
        rw [e1] at g1 ⊢
        rw [g1 (by omega)]
      · intro hh
        simp only [List.length_append, List.length_cons, List.length_nil] at hh ⊢
        by_cases hf : L + 4 + q.text.length ≤ 60
        · have e1 := f1 hf
          rw [e1] at g1 g2 ⊢
          by_cases hg : L + 4 + q.text.length + 1 + (againN q j).text.length ≤ 60
          · rw [g1 hg]; omega
          · have := g2 (by omega); omega
        · have := f2 (by omega)
          omega
theorem wrN_fits (k : Nat) : ∀ (nd : Node) (L : Nat), Fits L (wrN k nd L) (unrN k nd).text
  | .atom a, L => ⟨fun _ => rfl, fun h => h⟩
  | .loop p, L => wrA_fits (wrN_fits k p) k L
  | .pair c p q, L => by
    obtain ⟨f1, f2⟩ := wrN_fits k p (L + 1)
    obtain ⟨g1, g2⟩ := wrN_fits k q (L + 1 + (wrN k p (L + 1)).length + 1)
    have e : (unrN k (.pair c p q)).text = [40] ++ (unrN k p).text ++ [c] ++ (unrN k q).text ++ [41] := by
      show 40 :: ((unrN k p).text ++ c :: ((unrN k q).text ++ [41])) = _
      simp
    rw [e]
    unfold wrN
    constructor
    · intro hh
      simp only [List.length_append, List.length_cons, List.length_nil] at hh
      have e1 := f1 (by omega)
      rw [e1] at g1 ⊢
      rw [g1 (by omega)]
    · intro hh
      simp only [List.length_append, List.length_cons, List.length_nil] at hh ⊢
      by_cases hf : L + 1 + (unrN k p).text.length ≤ 60
      · have e1 := f1 hf
        rw [e1] at g1 g2 ⊢
        by_cases hg : L + 1 + (unrN k p).text.length + 1 + (unrN k q).text.length ≤ 60
        · rw [g1 hg]; omega
        · have := g2 (by omega); omega
      · have := f2 (by omega)
        omega

def uV (b : Nat) : Value := .iface 85 (.pointer (some ⟨b, 0, none⟩))
/-- So much has been written, and nothing else of old. -/
def Wrote (B b k : Nat) (bs : List Value) (l : List UInt8) (w : World) (e : Ending) (w' : World) : Prop := e = .returned (.tuple #[]) ∧ UIs B b k (bs ++ Lib.byteCells l) w' ∧ Below B w w'
def UVis (k : Nat) (nd : Node) : Prop := ∀ (B b : Nat) (bs : List Value) (w : World), UIs B b k bs w → B ≤ w.heap.size → bs.length + bnd k nd ≤ 140737488355328 →
  Calls Tryz.prog 52 #[nodeV nd, .iface 85 (.pointer (some ⟨b, 0, none⟩))] w (Wrote B b k bs (wrN k nd bs.length) w)
/-- One text more. -/
theorem uput (B b k : Nat) (bs : List Value) (l : List UInt8) (w : World) (h : UIs B b k bs w) (hBw : B ≤ w.heap.size) (hl : bs.length + l.length ≤ 140737488355328) :
    Calls Tryz.prog 143 #[.pointer (some ⟨b, 1, none⟩), .string ⟨l.toArray⟩] w fun e w' => (∃ n, e = .returned (.tuple #[.int .i64 n, .nilIface])) ∧ UIs B b k (bs ++ Lib.byteCells l) w' ∧ Below B w w' := by
  refine (uwrite B b k bs ⟨l.toArray⟩ w h (by exact hl) hBw).mono ?_
  rintro e w' ⟨rfl, h1, h2⟩
  exact ⟨⟨_, rfl⟩, .inr h1, h2⟩

theorem va_aa (v : ByteArray) (W : World) : (Instr.typeAssert (.iface 130 (.string v)) 55 130 true).run Tryz.prog W = .ok (.tuple #[.string v, .bool true]) W := by kernel_rfl
theorem va_sa (u v : Value) (W : World) : (Instr.typeAssert (.iface 119 (.agg #[u, v])) 55 130 true).run Tryz.prog W = .ok (.tuple #[.string ⟨#[]⟩, .bool false]) W := by kernel_rfl
theorem va_ss (u v : Value) (W : World) : (Instr.typeAssert (.iface 119 (.agg #[u, v])) 55 119 true).run Tryz.prog W = .ok (.tuple #[.agg #[u, v], .bool true]) W := by kernel_rfl
theorem va_ca (u v : Value) (W : World) : (Instr.typeAssert (.iface 122 (.agg #[u, v])) 55 130 true).run Tryz.prog W = .ok (.tuple #[.string ⟨#[]⟩, .bool false]) W := by kernel_rfl
theorem va_cs (u v : Value) (W : World) : (Instr.typeAssert (.iface 122 (.agg #[u, v])) 55 119 true).run Tryz.prog W = .ok (.tuple #[.agg #[.nilIface, .nilIface], .bool false]) W := by kernel_rfl
theorem va_cc (u v : Value) (W : World) : (Instr.typeAssert (.iface 122 (.agg #[u, v])) 55 122 true).run Tryz.prog W = .ok (.tuple #[.agg #[u, v], .bool true]) W := by kernel_rfl
theorem va_la (u : Value) (W : World) : (Instr.typeAssert (.iface 124 (.agg #[u])) 55 130 true).run Tryz.prog W = .ok (.tuple #[.string ⟨#[]⟩, .bool false]) W := by kernel_rfl
theorem va_ls (u : Value) (W : World) : (Instr.typeAssert (.iface 124 (.agg #[u])) 55 119 true).run Tryz.prog W = .ok (.tuple #[.agg #[.nilIface, .nilIface], .bool false]) W := by kernel_rfl
theorem va_lc (u : Value) (W : World) : (Instr.typeAssert (.iface 124 (.agg #[u])) 55 122 true).run Tryz.prog W = .ok (.tuple #[.agg #[.nilIface, .nilIface], .bool false]) W := by kernel_rfl
theorem va_ll (u : Value) (W : World) : (Instr.typeAssert (.iface 124 (.agg #[u])) 55 124 true).run Tryz.prog W = .ok (.tuple #[.agg #[u], .bool true]) W := by kernel_rfl

set_option maxHeartbeats 4000000 in
theorem u_atom (k : Nat) (a : List UInt8) (B b : Nat) (bs : List Value) (w : World) (h : UIs B b k bs w) (hB : B ≤ w.heap.size) (hl : bs.length + a.length ≤ 140737488355328) :
    Calls Tryz.prog 150 #[.pointer (some ⟨b, 0, none⟩), .string ⟨a.toArray⟩] w (Wrote B b k bs a w) := by
  have hw := uput B b k bs a w.drew h hB hl
  go_enter Tryz.func150, Tryz.ntmps150
  go_wp2_with fail
  go_region_with (first
    | (go_at_call 154; refine (text129 _ _).mono ?_; rintro e W1 ⟨rfl, rfl⟩)
    | (go_at_call 143; refine hw.mono ?_; rintro e W2 ⟨⟨n, rfl⟩, h1, h2⟩))
  all_goals go_wp2_with fail
  all_goals (go_end0; exact ⟨rfl, h1, (Below.refl B w).drew.trans h2⟩)

theorem um (b : Nat) (W : World) :
    (method 297 85 (.pointer (some ⟨b, 0, none⟩)) "loop.example/surelywrong/impl.atom").run Tryz.prog W = .ok (150, .pointer (some ⟨b, 0, none⟩)) W ∧
    (method 297 85 (.pointer (some ⟨b, 0, none⟩)) "loop.example/surelywrong/impl.sequence").run Tryz.prog W = .ok (153, .pointer (some ⟨b, 0, none⟩)) W ∧
    (method 297 85 (.pointer (some ⟨b, 0, none⟩)) "loop.example/surelywrong/impl.choice").run Tryz.prog W = .ok (151, .pointer (some ⟨b, 0, none⟩)) W ∧
    (method 297 85 (.pointer (some ⟨b, 0, none⟩)) "loop.example/surelywrong/impl.loop").run Tryz.prog W = .ok (152, .pointer (some ⟨b, 0, none⟩)) W := ⟨by kernel_rfl, by kernel_rfl, by kernel_rfl, by kernel_rfl⟩
set_option maxHeartbeats 4000000 in
theorem uvis_atom (k : Nat) (a : List UInt8) : UVis k (.atom a) := by
  intro B b bs w h hB hl
  have hw := u_atom k a B b bs w h hB hl
  have t1 := va_aa ⟨a.toArray⟩
  obtain ⟨m1, m2, m3, m4⟩ := um b w
  have hcf : ∀ v W, (callFunc 150 #[.pointer (some ⟨b, 0, none⟩), v]).run Tryz.prog W = .ok (.enter 150 #[.pointer (some ⟨b, 0, none⟩), v]) W := fun v W => by kernel_rfl
  unfold nodeV
  go_enter Tryz.func52, Tryz.ntmps52
  go_wp2_with (go_at_call 150; refine hw.mono ?_; rintro e W2 ⟨rfl, h1, h2⟩)
  go_end0
  exact ⟨rfl, h1, h2⟩

theorem bytes_add (bs : List Value) (l : List UInt8) : (bs ++ Lib.byteCells l).length = bs.length + l.length := by rw [List.length_append, Lib.byteCells_length]
theorem bytes_app (bs : List Value) (l r : List UInt8) : bs ++ Lib.byteCells l ++ Lib.byteCells r = bs ++ Lib.byteCells (l ++ r) := by unfold Lib.byteCells; rw [List.map_append, List.append_assoc]
set_option maxHeartbeats 4000000 in
theorem u_pair (k : Nat) (c : UInt8) (p q : Node) (hp : p.ok) (hq : q.ok) (HP : UVis k p) (HQ : UVis k q) (B b : Nat) (bs : List Value) (w : World) (h : UIs B b k bs w) (hB : B ≤ w.heap.size) (hl : bs.length + (bnd k p + bnd k q + 3) ≤ 140737488355328) :
    Calls Tryz.prog 155 #[.pointer (some ⟨b, 0, none⟩), nodeV p, .string ⟨#[c]⟩, nodeV q] w (Wrote B b k bs (wrN k (.pair c p q) bs.length) w) := by
  have l1 := wrN_le k p (bs.length + 1)
  have l2 := wrN_le k q (bs.length + 1 + (wrN k p (bs.length + 1)).length + 1)
  have H1 := HP B b (bs ++ Lib.byteCells [40])
  have e1 : (bs ++ Lib.byteCells [40]).length = bs.length + 1 := bytes_add _ _
  rw [e1] at H1
  have H2 := HQ B b (bs ++ Lib.byteCells ([40] ++ wrN k p (bs.length + 1) ++ [c]))
  have e2 : (bs ++ Lib.byteCells ([40] ++ wrN k p (bs.length + 1) ++ [c])).length = bs.length + 1 + (wrN k p (bs.length + 1)).length + 1 := by
    rw [bytes_add]; simp only [List.length_append, List.length_cons, List.length_nil]; omega
  rw [e2] at H2
  have e3 : wrN k (.pair c p q) bs.length = [40] ++ wrN k p (bs.length + 1) ++ [c] ++ wrN k q (bs.length + 1 + (wrN k p (bs.length + 1)).length + 1) ++ [41] := rfl
  rw [e3]
  generalize wrN k q (bs.length + 1 + (wrN k p (bs.length + 1)).length + 1) = lq at l2 H2 ⊢
  generalize wrN k p (bs.length + 1) = lp at l1 H1 H2 e2 ⊢
  unfold Wrote at H1 H2
  rw [nodeV_eq p hp] at H1 ⊢
  rw [nodeV_eq q hq] at H2 ⊢
  go_enter Tryz.func155, Tryz.ntmps155
  go_wp2_with fail
  refine (uput B b k bs [40] _ h hB (by simp only [List.length_cons, List.length_nil]; omega)).mono ?_
  rintro e W1 ⟨⟨n1, rfl⟩, h1, hb1⟩
  have hB1 := Nat.le_trans hB hb1.size
  go_wp2_with fail
  refine (H1 W1 h1 hB1 (by omega)).mono ?_
  rintro e W2 ⟨rfl, h2, hb2⟩
  rw [bytes_app] at h2
  have hB2 := Nat.le_trans hB1 hb2.size
  go_wp2_with fail
  refine (uput B b k _ [c] _ h2 hB2 (by rw [bytes_add]; simp only [List.length_append, List.length_cons, List.length_nil]; omega)).mono ?_
  rintro e W3 ⟨⟨n3, rfl⟩, h3, hb3⟩
  rw [bytes_app] at h3
  have hB3 := Nat.le_trans hB2 hb3.size
  go_wp2_with fail
  refine (H2 W3 h3 hB3 (by omega)).mono ?_
  rintro e W4 ⟨rfl, h4, hb4⟩
  rw [bytes_app] at h4
  have hB4 := Nat.le_trans hB3 hb4.size
  go_wp2_with fail
  refine (uput B b k _ [41] _ h4 hB4 (by rw [bytes_add]; simp only [List.length_append, List.length_cons, List.length_nil]; omega)).mono ?_
  rintro e W5 ⟨⟨n5, rfl⟩, h5, hb5⟩
  rw [bytes_app] at h5
  go_wp2_with fail
  go_end0
  exact ⟨rfl, h5, (((hb1.trans hb2).trans hb3).trans hb4).trans hb5⟩

theorem u_long (B b k : Nat) (bs : List Value) (w : World) (h : UIs B b k bs w) (hl : bs.length ≤ 140737488355328) :
    Calls Tryz.prog 53 #[.pointer (some ⟨b, 0, none⟩)] w fun e w' => e = .returned (.bool (decide (60 < bs.length))) ∧ w' = w := by
  have hu := ulen B b k bs w h
  generalize bs.length = L at hu hl ⊢
  by_cases hL : 60 < L
  · rw [decide_eq_true hL]
    have hLi : (60 : Int) < (L : Int) := by omega
    go_enter Tryz.func53, Tryz.ntmps53
    go_wp2_with (go_at_call 79; refine hu.mono ?_; rintro e w' ⟨rfl, rfl⟩)
    go_ret
    exact ⟨rfl, rfl⟩
  · rw [decide_eq_false hL]
    have hLi : (L : Int) ≤ 60 := by omega
    go_enter Tryz.func53, Tryz.ntmps53
    go_wp2_with (go_at_call 79; refine hu.mono ?_; rintro e w' ⟨rfl, rfl⟩)
    go_ret
    exact ⟨by show Ending.returned (.bool (decide ((60 : Int) < (L : Int)))) = _; rw [decide_eq_false (by omega)], rfl⟩
set_option maxHeartbeats 4000000 in
theorem u_again (k : Nat) (p : Node) (hp : p.ok) (HP : UVis k p) (B b : Nat) : ∀ (j : Nat), j ≤ 12 → ∀ (bs : List Value) (w : World), UIs B b k bs w → B ≤ w.heap.size → bs.length + (j * (bnd k p + 7) + 1) ≤ 140737488355328 →
    Calls Tryz.prog 156 #[.pointer (some ⟨b, 0, none⟩), nodeV p, .int .i64 (j : Int)] w (Wrote B b k bs (wrA (wrN k p) j bs.length) w)
  | 0, _, bs, w, h, hB, hl => by
    rw [nodeV_eq p hp]
    show Calls Tryz.prog _ #[_, _, .int .i64 0] w (Wrote B b k bs [46] w)
    go_enter Tryz.func156, Tryz.ntmps156
    go_wp2_with fail
    refine (uput B b k bs [46] _ h hB (by simp only [List.length_cons, List.length_nil]; omega)).mono ?_
    rintro e W1 ⟨⟨n1, rfl⟩, h1, hb1⟩
    go_wp2_with fail
    go_end0
    exact ⟨rfl, h1, hb1⟩
  | j + 1, hj, bs, w, h, hB, hl => by
    have IH := u_again k p hp HP B b j (by omega)
    have hlong := fun w' h' => u_long B b k bs w' h' (by omega)
    have l1 := wrN_le k p (bs.length + 4)
    have ej : ((j : Int) + 1 - 1) = (j : Int) := by omega
    have ej1 : (((j + 1 : Nat) : Int)) = (j : Int) + 1 := by omega
    have hj0 : (0 : Int) ≤ (j : Int) := by omega
    have hj12 : (j : Int) ≤ 12 := by omega
    rw [Nat.succ_mul] at hl
    by_cases hL : 60 < bs.length
    · rw [decide_eq_true hL] at hlong
      have e0 : wrA (wrN k p) (j + 1) bs.length = [46] := by unfold wrA; rw [if_pos hL]
      rw [e0, nodeV_eq p hp, ej1]
      clear IH
      go_enter Tryz.func156, Tryz.ntmps156
      go_wp2_with fail
      refine (hlong _ h).mono ?_
      rintro e w' ⟨rfl, rfl⟩
      go_wp2_with fail
      refine (uput B b k bs [46] _ h hB (by simp only [List.length_cons, List.length_nil]; omega)).mono ?_
      rintro e W1 ⟨⟨n1, rfl⟩, h1, hb1⟩
      go_wp2_with fail
      go_end0
      exact ⟨rfl, h1, hb1⟩
    · rw [decide_eq_false hL] at hlong
      have e0 : wrA (wrN k p) (j + 1) bs.length = [40, 46, 124, 40] ++ wrN k p (bs.length + 4) ++ [59] ++ wrA (wrN k p) j (bs.length + 4 + (wrN k p (bs.length + 4)).length + 1) ++ [41, 41] := by conv => lhs; unfold wrA; rw [if_neg hL]
      have H1 := HP B b (bs ++ Lib.byteCells [40, 46, 124, 40])
      have e1 : (bs ++ Lib.byteCells [40, 46, 124, 40]).length = bs.length + 4 := bytes_add _ _
      rw [e1] at H1
      have H2 := IH (bs ++ Lib.byteCells ([40, 46, 124, 40] ++ wrN k p (bs.length + 4) ++ [59]))
      have e2 : (bs ++ Lib.byteCells ([40, 46, 124, 40] ++ wrN k p (bs.length + 4) ++ [59])).length = bs.length + 4 + (wrN k p (bs.length + 4)).length + 1 := by
        rw [bytes_add]; simp only [List.length_append, List.length_cons, List.length_nil]; omega
      rw [e2] at H2
      have l2 := wrA_le (wrN_le k p) j (bs.length + 4 + (wrN k p (bs.length + 4)).length + 1)
      rw [e0, ej1]
      generalize wrA (wrN k p) j (bs.length + 4 + (wrN k p (bs.length + 4)).length + 1) = lq at l2 H2 ⊢
      generalize wrN k p (bs.length + 4) = lp at l1 H1 H2 e2 ⊢
      clear IH e0
      unfold Wrote at H1 H2
      rw [nodeV_eq p hp] at H1 H2 ⊢
      generalize j * (bnd k p + 7) = z at H2 hl l2
      go_enter Tryz.func156, Tryz.ntmps156
      go_wp2_with fail
      refine (hlong _ h).mono ?_
      rintro e w' ⟨rfl, rfl⟩
      go_wp2_with fail
      refine (uput B b k bs [40, 46, 124, 40] _ h hB (by simp only [List.length_cons, List.length_nil]; omega)).mono ?_
      rintro e W1 ⟨⟨n1, rfl⟩, h1, hb1⟩
      have hB1 := Nat.le_trans hB hb1.size
      go_wp2_with fail
      refine (H1 W1 h1 hB1 (by omega)).mono ?_
      rintro e W2 ⟨rfl, h2, hb2⟩
      rw [bytes_app] at h2
      have hB2 := Nat.le_trans hB1 hb2.size
      go_wp2_with fail
      refine (uput B b k _ [59] _ h2 hB2 (by rw [bytes_add]; simp only [List.length_append, List.length_cons, List.length_nil]; omega)).mono ?_
      rintro e W3 ⟨⟨n3, rfl⟩, h3, hb3⟩
      rw [bytes_app] at h3
      have hB3 := Nat.le_trans hB2 hb3.size
      go_wp2_with fail
      refine (H2 W3 h3 hB3 (by omega)).mono ?_
      rintro e W4 ⟨rfl, h4, hb4⟩
      rw [bytes_app] at h4
      have hB4 := Nat.le_trans hB3 hb4.size
      go_wp2_with fail
      refine (uput B b k _ [41, 41] _ h4 hB4 (by rw [bytes_add]; simp only [List.length_append, List.length_cons, List.length_nil]; omega)).mono ?_
      rintro e W5 ⟨⟨n5, rfl⟩, h5, hb5⟩
      rw [bytes_app] at h5
      go_wp2_with fail
      go_end0
      exact ⟨rfl, h5, (((hb1.trans hb2).trans hb3).trans hb4).trans hb5⟩

theorem UIs.alloc {B b k : Nat} {bs : List Value} {w : World} (h : UIs B b k bs w) (o : Obj) : UIs B b k bs (w.alloc o) := by
  have key : ∀ p, UAt B b k p bs w → UAt B b k p bs (w.alloc o) := fun p h => by
    have hlt := h.lt
    obtain ⟨hB, v, hb, hown, hne⟩ := h
    exact ⟨hB, v, (Lib.alloc_old w o b hlt).trans hb, hown.alloc o, hne⟩
  exact h.imp (key _) (key _)
theorem UIs.cell0 {B b k : Nat} {bs : List Value} {w : World} (h : UIs B b k bs w) : w.cell? ⟨b, 0, none⟩ = some (.int .i64 (k : Int)) := by
  obtain ⟨q, hq⟩ := UAt.any h
  obtain ⟨_, v, hbk, _⟩ := hq
  rw [Lib.cell_of_heap hbk]; rfl
set_option maxHeartbeats 4000000 in
theorem u_loop (k : Nat) (hk : k ≤ 12) (p : Node) (hp : p.ok) (HP : UVis k p) (B b : Nat) (bs : List Value) (w : World) (h : UIs B b k bs w) (hB : B ≤ w.heap.size) (hl : bs.length + bnd k (.loop p) ≤ 140737488355328) :
    Calls Tryz.prog 152 #[.pointer (some ⟨b, 0, none⟩), .agg #[.iface (nodeT p) (nodeX p)]] w (Wrote B b k bs (wrN k (.loop p) bs.length) w) := by
  have e0 : wrN k (.loop p) bs.length = wrA (wrN k p) k bs.length := rfl
  have hag := u_again k p hp HP B b k hk bs
  rw [nodeV_eq p hp] at hag
  rw [e0]
  generalize wrA (wrN k p) k bs.length = lp at hag ⊢
  have hl' : bs.length + (k * (bnd k p + 7) + 1) ≤ 140737488355328 := hl
  have hag := fun w' h1 h2 => hag w' h1 h2 hl'
  have h1 := h.alloc (.cells #[.iface (nodeT p) (nodeX p)] 124)
  have c0 := h1.cell0
  have hb1 : Below B w (w.alloc (.cells #[.iface (nodeT p) (nodeX p)] 124)) := (Below.refl B w).alloc hB _
  go_enter Tryz.func152, Tryz.ntmps152
  have hag' := hag (w.alloc (.cells #[.iface (nodeT p) (nodeX p)] 124)).drew h1 (Nat.le_trans hB hb1.size)
  go_wp2_with fail
  go_region_with (go_at_call 156; refine hag'.mono ?_; rintro e W2 ⟨rfl, h2, hb2⟩)
  all_goals go_wp2_with fail
  all_goals (go_end0; exact ⟨rfl, h2, hb1.drew.trans hb2⟩)
set_option maxHeartbeats 4000000 in
theorem u_seq (k : Nat) (p q : Node) (hp : p.ok) (hq : q.ok) (HP : UVis k p) (HQ : UVis k q) (B b : Nat) (bs : List Value) (w : World) (h : UIs B b k bs w) (hB : B ≤ w.heap.size) (hl : bs.length + (bnd k p + bnd k q + 3) ≤ 140737488355328) :
    Calls Tryz.prog 153 #[.pointer (some ⟨b, 0, none⟩), .agg #[.iface (nodeT p) (nodeX p), .iface (nodeT q) (nodeX q)]] w (Wrote B b k bs (wrN k (.pair 59 p q) bs.length) w) := by
  have hag := fun w' h1 h2 => u_pair k 59 p q hp hq HP HQ B b bs w' h1 h2 hl
  rw [nodeV_eq p hp, nodeV_eq q hq] at hag
  generalize wrN k (.pair 59 p q) bs.length = lp at hag ⊢
  have h1 := h.alloc (.cells #[.iface (nodeT p) (nodeX p), .iface (nodeT q) (nodeX q)] 119)
  have hb1 : Below B w (w.alloc (.cells #[.iface (nodeT p) (nodeX p), .iface (nodeT q) (nodeX q)] 119)) := (Below.refl B w).alloc hB _
  go_enter Tryz.func153, Tryz.ntmps153
  go_wp2_with fail
  refine (hag _ h1 (Nat.le_trans hB hb1.size)).mono ?_
  rintro e W2 ⟨rfl, h2, hb2⟩
  go_wp2_with fail
  go_end0
  exact ⟨rfl, h2, hb1.trans hb2⟩
set_option maxHeartbeats 4000000 in
theorem u_choice (k : Nat) (p q : Node) (hp : p.ok) (hq : q.ok) (HP : UVis k p) (HQ : UVis k q) (B b : Nat) (bs : List Value) (w : World) (h : UIs B b k bs w) (hB : B ≤ w.heap.size) (hl : bs.length + (bnd k p + bnd k q + 3) ≤ 140737488355328) :
    Calls Tryz.prog 151 #[.pointer (some ⟨b, 0, none⟩), .agg #[.iface (nodeT p) (nodeX p), .iface (nodeT q) (nodeX q)]] w (Wrote B b k bs (wrN k (.pair 124 p q) bs.length) w) := by
  have hag := fun w' h1 h2 => u_pair k 124 p q hp hq HP HQ B b bs w' h1 h2 hl
  rw [nodeV_eq p hp, nodeV_eq q hq] at hag
  generalize wrN k (.pair 124 p q) bs.length = lp at hag ⊢
  have h1 := h.alloc (.cells #[.iface (nodeT p) (nodeX p), .iface (nodeT q) (nodeX q)] 122)
  have hb1 : Below B w (w.alloc (.cells #[.iface (nodeT p) (nodeX p), .iface (nodeT q) (nodeX q)] 122)) := (Below.refl B w).alloc hB _
  go_enter Tryz.func151, Tryz.ntmps151
  go_wp2_with fail
  refine (hag _ h1 (Nat.le_trans hB hb1.size)).mono ?_
  rintro e W2 ⟨rfl, h2, hb2⟩
  go_wp2_with fail
  go_end0
  exact ⟨rfl, h2, hb1.trans hb2⟩

set_option maxHeartbeats 4000000 in
theorem uvis_loop (k : Nat) (hk : k ≤ 12) (p : Node) (hp : p.ok) (HP : UVis k p) : UVis k (.loop p) := by
  intro B b bs w h hB hl
  have h1 := h.alloc (.cells #[.iface (nodeT p) (nodeX p)] 124)
  have hb1 : Below B w (w.alloc (.cells #[.iface (nodeT p) (nodeX p)] 124)) := (Below.refl B w).alloc hB _
  have hw := u_loop k hk p hp HP B b bs _ h1 (Nat.le_trans hB hb1.size) hl
  unfold nodeV
  rw [nodeV_eq p hp]
  have hm := um b (w.alloc (.cells #[.iface (nodeT p) (nodeX p)] 124))
  obtain ⟨m1, m2, m3, m4⟩ := hm
  have hcf : ∀ v W, (callFunc 152 #[.pointer (some ⟨b, 0, none⟩), v]).run Tryz.prog W = .ok (.enter 152 #[.pointer (some ⟨b, 0, none⟩), v]) W := fun v W => by kernel_rfl
  have t1 := va_la (.iface (nodeT p) (nodeX p))
  have t2 := va_ls (.iface (nodeT p) (nodeX p))
  have t3 := va_lc (.iface (nodeT p) (nodeX p))
  have t4 := va_ll (.iface (nodeT p) (nodeX p))
  go_enter Tryz.func52, Tryz.ntmps52
  go_wp2_with fail
  refine hw.mono ?_
  rintro e W2 ⟨rfl, h2, hb2⟩
  go_wp2_with fail
  go_end0
  exact ⟨rfl, h2, hb1.trans hb2⟩
set_option maxHeartbeats 4000000 in
theorem uvis_seq (k : Nat) (p q : Node) (hp : p.ok) (hq : q.ok) (HP : UVis k p) (HQ : UVis k q) : UVis k (.pair 59 p q) := by
  intro B b bs w h hB hl
  have h1 := h.alloc (.cells #[.iface (nodeT p) (nodeX p), .iface (nodeT q) (nodeX q)] 119)
  have hb1 : Below B w (w.alloc (.cells #[.iface (nodeT p) (nodeX p), .iface (nodeT q) (nodeX q)] 119)) := (Below.refl B w).alloc hB _
  have hw := u_seq k p q hp hq HP HQ B b bs _ h1 (Nat.le_trans hB hb1.size) hl
  rw [nodeV_seq, nodeV_eq p hp, nodeV_eq q hq]
  have hm := um b (w.alloc (.cells #[.iface (nodeT p) (nodeX p), .iface (nodeT q) (nodeX q)] 119))
  obtain ⟨m1, m2, m3, m4⟩ := hm
  have hcf : ∀ v W, (callFunc 153 #[.pointer (some ⟨b, 0, none⟩), v]).run Tryz.prog W = .ok (.enter 153 #[.pointer (some ⟨b, 0, none⟩), v]) W := fun v W => by kernel_rfl
  have t1 := va_sa (.iface (nodeT p) (nodeX p)) (.iface (nodeT q) (nodeX q))
  have t2 := va_ss (.iface (nodeT p) (nodeX p)) (.iface (nodeT q) (nodeX q))
  go_enter Tryz.func52, Tryz.ntmps52
  go_wp2_with fail
  refine hw.mono ?_
  rintro e W2 ⟨rfl, h2, hb2⟩
  go_wp2_with fail
  go_end0
  exact ⟨rfl, h2, hb1.trans hb2⟩
set_option maxHeartbeats 4000000 in
theorem uvis_choice (k : Nat) (p q : Node) (hp : p.ok) (hq : q.ok) (HP : UVis k p) (HQ : UVis k q) : UVis k (.pair 124 p q) := by
  intro B b bs w h hB hl
  have h1 := h.alloc (.cells #[.iface (nodeT p) (nodeX p), .iface (nodeT q) (nodeX q)] 122)
  have hb1 : Below B w (w.alloc (.cells #[.iface (nodeT p) (nodeX p), .iface (nodeT q) (nodeX q)] 122)) := (Below.refl B w).alloc hB _
  have hw := u_choice k p q hp hq HP HQ B b bs _ h1 (Nat.le_trans hB hb1.size) hl
  rw [nodeV_choice, nodeV_eq p hp, nodeV_eq q hq]
  have hm := um b (w.alloc (.cells #[.iface (nodeT p) (nodeX p), .iface (nodeT q) (nodeX q)] 122))
  obtain ⟨m1, m2, m3, m4⟩ := hm
  have hcf : ∀ v W, (callFunc 151 #[.pointer (some ⟨b, 0, none⟩), v]).run Tryz.prog W = .ok (.enter 151 #[.pointer (some ⟨b, 0, none⟩), v]) W := fun v W => by kernel_rfl
  have t1 := va_ca (.iface (nodeT p) (nodeX p)) (.iface (nodeT q) (nodeX q))
  have t2 := va_cs (.iface (nodeT p) (nodeX p)) (.iface (nodeT q) (nodeX q))
  have t3 := va_cc (.iface (nodeT p) (nodeX p)) (.iface (nodeT q) (nodeX q))
  go_enter Tryz.func52, Tryz.ntmps52
  go_wp2_with fail
  refine hw.mono ?_
  rintro e W2 ⟨rfl, h2, hb2⟩
  go_wp2_with fail
  go_end0
  exact ⟨rfl, h2, hb1.trans hb2⟩
/-- **WHAT THE UNROLLER WRITES OF A PROGRAM.** -/
theorem uvisit (k : Nat) (hk : k ≤ 12) : ∀ nd : Node, nd.ok → UVis k nd
  | .atom a, _ => uvis_atom k a
  | .loop p, hok => uvis_loop k hk p hok (uvisit k hk p hok)
  | .pair c p q, hok => by
    obtain ⟨rfl | rfl, hp, hq⟩ := hok
    · exact uvis_seq k p q hp hq (uvisit k hk p hp) (uvisit k hk q hq)
    · exact uvis_choice k p q hp hq (uvisit k hk p hp) (uvisit k hk q hq)
end Go.Proofs.YtnejphdbnfdbhaaGreatDoor

