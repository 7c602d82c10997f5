/- Chapter 10, the program: a runner in its block; the end of a run; one choice taken. -/
import Derived.Test.YtfoifcbpognjaaaDoorJB
import Derived.Test.YtfoifcbpognjaaaDoorNA
import Derived.Lib.Hide
namespace Go.Proofs.YtfoifcbpognjaaaDoor
open Go.ChangeShapes Go.WideShapes Go.ChangeAt Go.RowKit Go.Shelf
attribute [local go_sem] Oper.semAt_some
set_option maxRecDepth 100000

/-- Block rb is a runner: the state, the choices that are left, the trace. -/
def PR (W : World) (rb : Nat) (s : Nat) (l : List UInt8) (tv : Value) : Prop := W.heap[rb]? = some (.cells #[.int .i64 (s : Int), .string ⟨l.toArray⟩, tv] 55 (0, 0))
theorem PR.lt {W : World} {rb s : Nat} {l : List UInt8} {tv : Value} (h : PR W rb s l tv) : rb < W.heap.size := (Array.getElem?_eq_some_iff.1 h).1
theorem PR.cells {W : World} {rb s : Nat} {l : List UInt8} {tv : Value} (h : PR W rb s l tv) :
    W.cell? ⟨rb, 0, none⟩ = some (.int .i64 (s : Int)) ∧ W.cell? ⟨rb, 1, none⟩ = some (.string ⟨l.toArray⟩) ∧ W.cell? ⟨rb, 2, none⟩ = some tv := by
  unfold PR at h
  exact ⟨by simp [World.cell?, h], by simp [World.cell?, h], by simp [World.cell?, h]⟩
theorem PR.frozen {W : World} {rb s : Nat} {l : List UInt8} {tv : Value} (h : PR W rb s l tv) : W.frozen? ⟨rb, 0, none⟩ = false ∧ W.frozen? ⟨rb, 1, none⟩ = false ∧ W.frozen? ⟨rb, 2, none⟩ = false := by
  unfold PR at h
  exact ⟨by simp [World.frozen?, h], by simp [World.frozen?, h], by simp [World.frozen?, h]⟩
theorem PR.kept {W W' : World} {rb s : Nat} {l : List UInt8} {tv : Value} (h : PR W rb s l tv) (hb : Below W.heap.size W W') : PR W' rb s l tv := (hb.block rb h.lt).trans h
theorem PR.set0 {W : World} {rb s : Nat} {l : List UInt8} {tv : Value} (h : PR W rb s l tv) (n : Nat) : PR (W.setCell ⟨rb, 0, none⟩ (.int .i64 (n : Int))) rb n l tv := by
  unfold PR at *
  rw [heap_setCell_same W rb 0 _ 55 _ h]; rfl
theorem PR.set1 {W : World} {rb s : Nat} {l : List UInt8} {tv : Value} (h : PR W rb s l tv) (m : List UInt8) : PR (W.setCell ⟨rb, 1, none⟩ (.string ⟨m.toArray⟩)) rb s m tv := by
  unfold PR at *
  rw [heap_setCell_same W rb 1 _ 55 _ h]; rfl
theorem PR.set2 {W : World} {rb s : Nat} {l : List UInt8} {tv : Value} (h : PR W rb s l tv) (u : Value) : PR (W.setCell ⟨rb, 2, none⟩ u) rb s l u := by
  unfold PR at *
  rw [heap_setCell_same W rb 2 _ 55 _ h]; rfl
theorem PR.apart {W : World} {rb s B : Nat} {l : List UInt8} {tv v : Value} {zs : List Int} (h : PR W rb s l tv) (hI : IRow W B v zs) : v.ownBlock ≠ some rb := by
  unfold PR at h
  unfold IRow at hI
  exact Lib.ownBlock_ne hI h (by decide)

theorem grown_setP (W : World) (rb j : Nat) (u : Value) : W.grownBy (W.setCell ⟨rb, j, none⟩ u) (some rb) :=
  ⟨rfl, rfl, rfl, by simp, fun k _ hk => heap_setCell_other W ⟨rb, j, none⟩ k _ (fun e => hk (by simp [e]))⟩
/-- The error of choices that are not right. -/
def NotRight (N : Nat) (W : World) : Prop := (∃ v, W.cell? ⟨1, 0, none⟩ = some (.iface 128 v)) ∧ 1 < N
theorem NotRight.below {N : Nat} {W W' : World} (h : NotRight N W) {n : Nat} (hb : Below n W W') (hn : N ≤ n) : NotRight N W' := by
  obtain ⟨⟨v, e⟩, hl⟩ := h
  exact ⟨⟨v, (hb.cell (p := ⟨1, 0, none⟩) (Nat.lt_of_lt_of_le hl hn)).trans e⟩, hl⟩
theorem NotRight.foot {N rb : Nat} {W W' : World} {o o' : Option Nat} (h : NotRight N W) (hf : Foot rb o o' W W') (hr : N ≤ rb) (ho : ∀ k, o = some k → N ≤ k) : NotRight N W' := by
  obtain ⟨⟨v, e⟩, hl⟩ := h
  have hlt : 1 < W.heap.size := World.block_lt_of_cell? W _ e
  exact ⟨⟨v, (World.cell?_of_block (w := W) (w' := W') (a := ⟨1, 0, none⟩) (hf.block 1 hlt (by omega) (fun q => by have := ho 1 q.symm; omega))).trans e⟩, hl⟩
/-- A panic by this error. -/
def Bad (e : Ending) : Prop := ∃ v, e = .panicked [{ v := .iface 128 v, recovered := false }]

theorem em_no (c : UInt8) (r : List UInt8) : (⟨(c :: r).toArray⟩ : ByteArray).toList.isEmpty = false := by rw [Lib.toList_data]; rfl
theorem em_yes : (⟨([] : List UInt8).toArray⟩ : ByteArray).toList.isEmpty = true := by rw [Lib.toList_data]; rfl
set_option maxHeartbeats 1000000 in
theorem pend_left {c : UInt8} {l : List UInt8} {rb s N : Nat} {tv : Value} (x : Int) {W : World} (h : PR W rb s (c :: l) tv) (hE : NotRight N W) (hN : N ≤ W.heap.size) :
    Calls Tryd.prog 24 #[.pointer (some ⟨rb, 0, none⟩), .int .i64 x] W fun e W' => Bad e ∧ Below W.heap.size W W' := by
  have hA : Below W.heap.size W (W.alloc (.cells #[.int .i64 0, .int .i64 0, .slice none 0 0] 36)) := (Below.refl _ _).alloc (Nat.le_refl _) _
  obtain ⟨c0, c1, c2⟩ := (h.kept hA).cells
  obtain ⟨⟨v, ce⟩, _⟩ := hE.below hA hN
  have he := em_no c l
  clear h
  go_enter Tryd.func24, Tryd.ntmps24
  go_wp2_with fail
  exact ⟨rfl, ⟨v, rfl⟩, hA⟩
set_option maxHeartbeats 1000000 in
theorem pend_ok {rb s n c : Nat} {a : Option Addr} (x : Int) {W : World} (h : PR W rb s [] (.slice a n c)) :
    Calls Tryd.prog 24 #[.pointer (some ⟨rb, 0, none⟩), .int .i64 x] W fun e W' => e = .returned (.agg #[.int .i64 x, .int .i64 (s : Int), .slice a n c]) ∧ Below W.heap.size W W' := by
  have hA : Below W.heap.size W (W.alloc (.cells #[.int .i64 0, .int .i64 0, .slice none 0 0] 36)) := (Below.refl _ _).alloc (Nat.le_refl _) _
  obtain ⟨c0, c1, c2⟩ := (h.kept hA).cells
  have he := em_yes
  clear h
  go_enter Tryd.func24, Tryd.ntmps24
  go_wp2_with fail
  go_region
  go_wp2_with fail
  have hL := heap_alloc_new W (.cells #[.int .i64 x, .int .i64 (s : Int), .slice a n c] 36)
  have hb : Below W.heap.size W (W.alloc (.cells #[.int .i64 x, .int .i64 (s : Int), .slice a n c] 36)).drew := ((Below.refl _ _).alloc (Nat.le_refl _) _).drew
  have s0 : (W.alloc (.cells #[.int .i64 x, .int .i64 (s : Int), .slice a n c] 36)).drew.cell? ⟨W.heap.size, 0, none⟩ = some (.int .i64 x) := by show (W.alloc _).cell? _ = _; rw [cell_of_row _ W.heap.size 0 _ 36 (0, 0) hL]; rfl
  have s1 : (W.alloc (.cells #[.int .i64 x, .int .i64 (s : Int), .slice a n c] 36)).drew.cell? ⟨W.heap.size, 1, none⟩ = some (.int .i64 (s : Int)) := by show (W.alloc _).cell? _ = _; rw [cell_of_row _ W.heap.size 1 _ 36 (0, 0) hL]; rfl
  have s2 : (W.alloc (.cells #[.int .i64 x, .int .i64 (s : Int), .slice a n c] 36)).drew.cell? ⟨W.heap.size, 2, none⟩ = some (.slice a n c) := by show (W.alloc _).cell? _ = _; rw [cell_of_row _ W.heap.size 2 _ 36 (0, 0) hL]; rfl
  generalize (W.alloc (.cells #[.int .i64 x, .int .i64 (s : Int), .slice a n c] 36)).drew = Z at *
  clear c0 c1 c2 he hA hL
  exact bodyPost_ret (v := .agg #[.int .i64 x, .int .i64 (s : Int), .slice a n c]) (by simp [results, Tryd.results24, go_sem, s0, s1, s2]) rfl ⟨rfl, hb⟩
set_option maxHeartbeats 1000000 in
theorem pchoose_none {rb s N : Nat} {tv : Value} {W : World} (h : PR W rb s [] tv) (hE : NotRight N W) :
    Calls Tryd.prog 46 #[.pointer (some ⟨rb, 0, none⟩)] W fun e W' => Bad e ∧ W = W' := by
  obtain ⟨c0, c1, c2⟩ := h.cells
  obtain ⟨⟨v, ce⟩, _⟩ := hE
  have he := em_yes
  clear h
  go_enter Tryd.func46, Tryd.ntmps46
  go_wp2_with fail
  exact ⟨rfl, ⟨v, rfl⟩, rfl⟩
set_option maxHeartbeats 1000000 in
theorem pchoose_some {c : UInt8} {l : List UInt8} {rb s : Nat} {tv : Value} {W : World} (h : PR W rb s (c :: l) tv) :
    Calls Tryd.prog 46 #[.pointer (some ⟨rb, 0, none⟩)] W fun e W' => e = .returned (.int .u8 (c.toNat : Int)) ∧ PR W' rb s l tv ∧ W.grownBy W' (some rb) := by
  obtain ⟨c0, c1, c2⟩ := h.cells
  obtain ⟨f0, f1, f2⟩ := h.frozen
  have he := em_no c l
  have hs : (⟨(c :: l).toArray⟩ : ByteArray).size = l.length + 1 := by show (c :: l).toArray.size = _; simp
  have hv : ∀ q : 0 < (⟨(c :: l).toArray⟩ : ByteArray).size, (⟨(c :: l).toArray⟩ : ByteArray)[0]'q = c := fun _ => rfl
  have e2 : (⟨(c :: l).toArray⟩ : ByteArray).extract 1 (l.length + 1) = ⟨l.toArray⟩ := ext_drop (c :: l) 1
  have n1 : (0 : Int) < ((l.length : Nat) : Int) + 1 := by omega
  have n2 : (1 : Int) ≤ ((l.length : Nat) : Int) + 1 := by omega
  have HS := Lib.hid (h.set1 l)
  clear h
  go_enter Tryd.func46, Tryd.ntmps46
  go_wp2_with fail
  go_ret
  exact ⟨rfl, HS.out, grown_setP _ _ _ _⟩
end Go.Proofs.YtfoifcbpognjaaaDoor

