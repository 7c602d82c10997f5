/- The program's reader of programs: taking bytes, going past a word. The program's nodes as values: their parts, how many programs and loops they have, their kinds and texts. The program's nodes as values: their texts and kinds. The program's nodes as values: how many loops lie within each other. -/
import Derived.Test.YtgkgkaapjljpcaaDoorTree
import Derived.Test.YtgkgkaapjljpcaaDoorA3
import Derived.LoopTactic
namespace Go.Proofs.YtgkgkaapjljpcaaDoor
open Go.ChangeShapes Go.WideShapes Go.ChangeAt Go.RowKit Go.Shelf
attribute [local go_sem] Oper.semAt_some
set_option maxRecDepth 100000

/-- Block rb is a reader of what is left. -/
def Rst (W : World) (rb : Nat) (l : List UInt8) : Prop := W.heap[rb]? = some (.cells #[.string ⟨l.toArray⟩] 103 (0, 0))
theorem Rst.lt {W : World} {rb : Nat} {l : List UInt8} (h : Rst W rb l) : rb < W.heap.size := (Array.getElem?_eq_some_iff.1 h).1
theorem Rst.cells {W : World} {rb : Nat} {l : List UInt8} (h : Rst W rb l) : W.cell? ⟨rb, 0, none⟩ = some (.string ⟨l.toArray⟩) ∧ W.frozen? ⟨rb, 0, none⟩ = false := by
  unfold Rst at h
  exact ⟨by simp [World.cell?, h], by simp [World.frozen?, h]⟩
theorem Rst.set {W : World} {rb : Nat} {l : List UInt8} (h : Rst W rb l) (m : List UInt8) :
    Rst (W.setCell ⟨rb, 0, none⟩ (.string ⟨m.toArray⟩)) rb m ∧ W.grownBy (W.setCell ⟨rb, 0, none⟩ (.string ⟨m.toArray⟩)) (some rb) := by
  refine ⟨?_, ⟨rfl, rfl, rfl, by simp, fun k _ hk => heap_setCell_other W ⟨rb, 0, none⟩ k _ (fun e => hk (by simp [e]))⟩⟩
  unfold Rst at *
  rw [heap_setCell_same W rb 0 _ 103 _ h]
  rfl
theorem Rst.grown {W W' : World} {rb : Nat} {l : List UInt8} {row : Option Nat} (h : Rst W rb l) (hg : W.grownBy W' row) (hne : some rb ≠ row) : Rst W' rb l := by
  unfold Rst at *
  rw [hg.block rb (Array.getElem?_eq_some_iff.1 h).1 hne]
  exact h

/-- What the package's variables hold; all of it lies below N. -/
def Laid3 (N : Nat) (W : World) : Prop := Laid N W ∧ (∃ g c, TableAt N 2 12 twos g c W) ∧ (∃ T v, W.cell? ⟨1, 0, none⟩ = some (.iface T v)) ∧ 1 < N
theorem Laid3.below {N : Nat} {W W' : World} (h : Laid3 N W) {n : Nat} (hb : Below n W W') (hn : N ≤ n) : Laid3 N W' := by
  obtain ⟨h0, ⟨g, c, h1⟩, ⟨T, v, h2⟩, hz⟩ := h
  exact ⟨h0.below hb hn, ⟨g, c, h1.below hb hn⟩, ⟨T, v, (hb.cell (p := ⟨1, 0, none⟩) (Nat.lt_of_lt_of_le hz hn)).trans h2⟩, hz⟩
theorem Laid3.grown {N : Nat} {W W' : World} (h : Laid3 N W) {r : Nat} (hb : W.grownBy W' (some r)) (hn : N ≤ r) : Laid3 N W' := by
  obtain ⟨h0, ⟨g, c, h1⟩, ⟨T, v, h2⟩, hz⟩ := h
  refine ⟨h0.grown hb hn, ⟨g, c, h1.grown hb h0.2.2 hn⟩, ⟨T, v, ?_⟩, hz⟩
  have := World.cell?_of_block (w := W) (w' := W') (a := ⟨1, 0, none⟩) (hb.block 1 (by have := h0.2.2; omega) (by simp; omega))
  exact this.trans h2
theorem Laid3.lt {N : Nat} {W : World} (h : Laid3 N W) : N ≤ W.heap.size := h.1.2.2
theorem Laid3.err {N : Nat} {W : World} (h : Laid3 N W) : ∃ T v, W.cell? ⟨1, 0, none⟩ = some (.iface T v) := h.2.2.1

theorem ext_take (l : List UInt8) (n : Nat) : (⟨l.toArray⟩ : ByteArray).extract 0 n = ⟨(l.take n).toArray⟩ := by
  apply ByteArray.ext
  apply Array.toList_inj.1
  rw [Lib.extract_data]
  simp
theorem ext_drop (l : List UInt8) (n : Nat) : (⟨l.toArray⟩ : ByteArray).extract n l.length = ⟨(l.drop n).toArray⟩ := by
  apply ByteArray.ext
  apply Array.toList_inj.1
  rw [Lib.extract_data]
  simp only
  rw [List.take_of_length_le (by simp)]

/-- A panic by the package's own error. -/
def Died (e : Ending) : Prop := ∃ T v, e = .panicked [{ v := .iface T v, recovered := false }]

set_option maxHeartbeats 1000000 in
theorem ptake_ok (l : List UInt8) (rb n : Nat) (hn : n ≤ l.length) (W : World) (h : Rst W rb l) :
    Calls Tryd.prog 98 #[.pointer (some ⟨rb, 0, none⟩), .int .i64 (n : Int)] W fun e W' => e = .returned (.string ⟨(l.take n).toArray⟩) ∧ Rst W' rb (l.drop n) ∧ W.grownBy W' (some rb) := by
  obtain ⟨c0, f0⟩ := h.cells
  have i1 : ¬ (l.length : Int) < (n : Int) := by omega
  have n0 : (0 : Int) ≤ (n : Int) := by omega
  have n1 : (n : Int) ≤ (l.length : Int) := by omega
  have e1 := ext_take l n
  have e2 := ext_drop l n
  have HS := Lib.hid (h.set (l.drop n))
  clear h
  go_enter Tryd.func98, Tryd.ntmps98
  go_wp2_with fail
  go_ret
  exact ⟨rfl, HS.out⟩

set_option maxHeartbeats 1000000 in
theorem ptake_bad (l : List UInt8) (rb n : Nat) (hn : l.length < n) (W : World) (h : Rst W rb l) {N : Nat} (hE : Laid3 N W) :
    Calls Tryd.prog 98 #[.pointer (some ⟨rb, 0, none⟩), .int .i64 (n : Int)] W fun e W' => Died e ∧ W = W' := by
  obtain ⟨c0, f0⟩ := h.cells
  obtain ⟨T, v, ce⟩ := hE.err
  have i1 : (l.length : Int) < (n : Int) := by omega
  clear h hE
  go_enter Tryd.func98, Tryd.ntmps98
  go_wp2_with fail
  exact ⟨rfl, ⟨T, v, rfl⟩, rfl⟩
end Go.Proofs.YtgkgkaapjljpcaaDoor

namespace Go.Proofs.YtgkgkaapjljpcaaDoor
open Go.ChangeShapes Go.WideShapes Go.ChangeAt Go.RowKit Go.Shelf
attribute [local go_sem] Oper.semAt_some
set_option maxRecDepth 100000

/-- The value of a program. -/
def nodeV : Node → Value
  | .atom a => .iface 133 (.string ⟨a.toArray⟩)
  | .loop p => .iface 117 (.agg #[nodeV p])
  | .pair k p q => if k = 59 then .iface 107 (.agg #[nodeV p, nodeV q]) else .iface 112 (.agg #[nodeV p, nodeV q])
theorem nodeV_seq (p q : Node) : nodeV (.pair 59 p q) = .iface 107 (.agg #[nodeV p, nodeV q]) := rfl
theorem nodeV_choice (p q : Node) : nodeV (.pair 124 p q) = .iface 112 (.agg #[nodeV p, nodeV q]) := rfl

theorem nodeV_iface : ∀ nd : Node, ∃ T x, nodeV nd = .iface T x
  | .atom _ => ⟨_, _, rfl⟩
  | .loop _ => ⟨_, _, rfl⟩
  | .pair k _ _ => by unfold nodeV; split <;> exact ⟨_, _, rfl⟩

theorem parts128 (s : ByteArray) (w : World) : Calls Tryd.prog 175 #[.string s] w fun e w' => e = .returned (.slice none 0 0) ∧ w = w' := by
  go_enter Tryd.func175, Tryd.ntmps175
  go_wp2
  go_ret
  exact ⟨rfl, rfl⟩
theorem parts121 (T : TypeId) (x : Value) (w : World) : Calls Tryd.prog 173 #[.agg #[.iface T x]] w fun e w' => ∃ g, e = .returned (.slice (some ⟨g, 0, none⟩) 1 1) ∧ g < w'.heap.size ∧ w'.cell? ⟨g, 0, none⟩ = some (.iface T x) ∧ Below w.heap.size w w' := by
  go_enter Tryd.func173, Tryd.ntmps173
  go_wp2
  go_ret
  have hc := heap_alloc_new (w.alloc (.cells #[.iface T x] 117)) (.cells #[.iface T x] 71)
  rw [World.size_alloc] at hc
  exact ⟨_, rfl, by simp, by rw [cell_of_row _ (w.heap.size + 1) 0 _ 71 (0, 0) hc]; rfl, ((Below.refl _ _).alloc (Nat.le_refl _) _).alloc (by simp) _⟩
theorem parts117 (T U : TypeId) (x y : Value) (w : World) : Calls Tryd.prog 169 #[.agg #[.iface T x, .iface U y]] w fun e w' => ∃ g, e = .returned (.slice (some ⟨g, 0, none⟩) 2 2) ∧ g < w'.heap.size ∧ w'.cell? ⟨g, 0, none⟩ = some (.iface T x) ∧ w'.cell? ⟨g, 1, none⟩ = some (.iface U y) ∧ Below w.heap.size w w' := by
  go_enter Tryd.func169, Tryd.ntmps169
  go_wp2
  go_ret
  have hc := heap_alloc_new (w.alloc (.cells #[.iface T x, .iface U y] 107)) (.cells #[.iface T x, .iface U y] 71)
  rw [World.size_alloc] at hc
  exact ⟨_, rfl, by simp, by rw [cell_of_row _ (w.heap.size + 1) 0 _ 71 (0, 0) hc]; rfl, by rw [cell_of_row _ (w.heap.size + 1) 1 _ 71 (0, 0) hc]; rfl, ((Below.refl _ _).alloc (Nat.le_refl _) _).alloc (by simp) _⟩
theorem parts119 (T U : TypeId) (x y : Value) (w : World) : Calls Tryd.prog 171 #[.agg #[.iface T x, .iface U y]] w fun e w' => ∃ g, e = .returned (.slice (some ⟨g, 0, none⟩) 2 2) ∧ g < w'.heap.size ∧ w'.cell? ⟨g, 0, none⟩ = some (.iface T x) ∧ w'.cell? ⟨g, 1, none⟩ = some (.iface U y) ∧ Below w.heap.size w w' := by
  go_enter Tryd.func171, Tryd.ntmps171
  go_wp2
  go_ret
  have hc := heap_alloc_new (w.alloc (.cells #[.iface T x, .iface U y] 112)) (.cells #[.iface T x, .iface U y] 71)
  rw [World.size_alloc] at hc
  exact ⟨_, rfl, by simp, by rw [cell_of_row _ (w.heap.size + 1) 0 _ 71 (0, 0) hc]; rfl, by rw [cell_of_row _ (w.heap.size + 1) 1 _ 71 (0, 0) hc]; rfl, ((Below.refl _ _).alloc (Nat.le_refl _) _).alloc (by simp) _⟩

theorem size_pos : ∀ nd : Node, 1 ≤ nd.size
  | .atom _ => Nat.le_refl _
  | .loop _ => by simp [Node.size]
  | .pair _ _ _ => by simp [Node.size]; omega

end Go.Proofs.YtgkgkaapjljpcaaDoor

namespace Go.Proofs.YtgkgkaapjljpcaaDoor
open Go.ChangeShapes Go.WideShapes Go.ChangeAt Go.RowKit Go.Shelf
attribute [local go_sem] Oper.semAt_some
set_option maxRecDepth 100000

/-- The method that gives a node's text, and what it is called with. -/
def textFn : Node → FuncId
  | .atom _ => 176
  | .loop _ => 174
  | .pair k _ _ => if k = 59 then 170 else 172
def nodeT : Node → TypeId
  | .atom _ => 133
  | .loop _ => 117
  | .pair k _ _ => if k = 59 then 107 else 112
def nodeX : Node → Value
  | .atom a => .string ⟨a.toArray⟩
  | .loop p => .agg #[nodeV p]
  | .pair _ p q => .agg #[nodeV p, nodeV q]
theorem nodeV_eq (nd : Node) (h : nd.ok) : nodeV nd = .iface (nodeT nd) (nodeX nd) := by
  cases nd with
  | atom a => rfl
  | loop p => rfl
  | pair k p q => obtain ⟨rfl | rfl, _, _⟩ := h <;> rfl
theorem meth_text (nd : Node) (h : nd.ok) (W : World) : (method 307 (nodeT nd) (nodeX nd) "loop.example/surelywrong/impl.text").run Tryd.prog W = .ok (textFn nd, nodeX nd) W := by
  cases nd with
  | atom a => exact (show (method 307 133 (.string ⟨a.toArray⟩) "loop.example/surelywrong/impl.text").run Tryd.prog W = .ok (176, .string ⟨a.toArray⟩) W by kernel_rfl)
  | loop p => exact (show (method 307 117 (.agg #[nodeV p]) "loop.example/surelywrong/impl.text").run Tryd.prog W = .ok (174, .agg #[nodeV p]) W by kernel_rfl)
  | pair k p q =>
    obtain ⟨rfl | rfl, _, _⟩ := h
    · exact (show (method 307 107 (.agg #[nodeV p, nodeV q]) "loop.example/surelywrong/impl.text").run Tryd.prog W = .ok (170, .agg #[nodeV p, nodeV q]) W by kernel_rfl)
    · exact (show (method 307 112 (.agg #[nodeV p, nodeV q]) "loop.example/surelywrong/impl.text").run Tryd.prog W = .ok (172, .agg #[nodeV p, nodeV q]) W by kernel_rfl)

theorem text129 (s : ByteArray) (w : World) : Calls Tryd.prog 176 #[.string s] w fun e w' => e = .returned (.string s) ∧ w = w' := by
  go_enter Tryd.func176, Tryd.ntmps176
  go_wp2
  go_ret
  exact ⟨rfl, rfl⟩

theorem call_text (nd : Node) (h : nd.ok) (W : World) : (callFunc (textFn nd) #[nodeX nd]).run Tryd.prog W = .ok (.enter (textFn nd) #[nodeX nd]) W := by
  cases nd with
  | atom a => exact (show (callFunc 176 #[.string ⟨a.toArray⟩]).run Tryd.prog W = .ok (.enter 176 #[.string ⟨a.toArray⟩]) W by kernel_rfl)
  | loop p => exact (show (callFunc 174 #[.agg #[nodeV p]]).run Tryd.prog W = .ok (.enter 174 #[.agg #[nodeV p]]) W by kernel_rfl)
  | pair k p q =>
    obtain ⟨rfl | rfl, _, _⟩ := h
    · exact (show (callFunc 170 #[.agg #[nodeV p, nodeV q]]).run Tryd.prog W = .ok (.enter 170 #[.agg #[nodeV p, nodeV q]]) W by kernel_rfl)
    · exact (show (callFunc 172 #[.agg #[nodeV p, nodeV q]]).run Tryd.prog W = .ok (.enter 172 #[.agg #[nodeV p, nodeV q]]) W by kernel_rfl)
theorem loop_text (p : Node) : (⟨(Node.loop p).text.toArray⟩ : ByteArray) = ⟨#[123]⟩ ++ ⟨p.text.toArray⟩ ++ ⟨#[125]⟩ := by
  apply ByteArray.ext
  simp [ByteArray.data_append, Node.text]
theorem pair_text (k : UInt8) (p q : Node) : (⟨(Node.pair k p q).text.toArray⟩ : ByteArray) = ⟨#[40]⟩ ++ ⟨p.text.toArray⟩ ++ ⟨#[k]⟩ ++ ⟨q.text.toArray⟩ ++ ⟨#[41]⟩ := by
  apply ByteArray.ext
  simp [ByteArray.data_append, Node.text]

set_option maxHeartbeats 4000000 in
theorem ptext : ∀ (nd : Node), nd.ok → nd.text.length ≤ 1000 → ∀ (w : World), Calls Tryd.prog (textFn nd) #[nodeX nd] w fun e w' => e = .returned (.string ⟨nd.text.toArray⟩) ∧ Below w.heap.size w w'
  | .atom a, _, _, w => (text129 ⟨a.toArray⟩ w).mono fun e w' ⟨h1, h2⟩ => ⟨h1, h2 ▸ Below.refl _ _⟩
  | .loop p, hok, hs, w => by
    have hpl : p.text.length ≤ 1000 := by simp [Node.text] at hs; omega
    have IH := ptext p hok hpl
    have hm := meth_text p hok
    have hcf := call_text p hok
    have hl1 : 1 + p.text.length ≤ 9223372036854775807 := by omega
    have hl2 : 1 + p.text.length + 1 ≤ 9223372036854775807 := by omega
    show Calls Tryd.prog 174 #[.agg #[nodeV p]] w _
    rw [nodeV_eq p hok, loop_text]
    go_enter Tryd.func174, Tryd.ntmps174
    go_wp2_with (refine (IH _).mono ?_; rintro e W2 ⟨rfl, hB2⟩)
    go_ret
    exact ⟨rfl, ((Below.refl _ _).alloc (Nat.le_refl _) _).trans (hB2.mono (by simp))⟩
  | .pair k p q, hok, hs, w => by
    have hpl : p.text.length + q.text.length ≤ 1000 := by simp [Node.text] at hs; omega
    have IH1 := ptext p hok.2.1 (by omega)
    have IH2 := ptext q hok.2.2 (by omega)
    have hm1 := meth_text p hok.2.1
    have hm2 := meth_text q hok.2.2
    have hcf1 := call_text p hok.2.1
    have hcf2 := call_text q hok.2.2
    obtain ⟨hk, h1, h2⟩ := hok
    have hl1 : 1 + p.text.length ≤ 9223372036854775807 := by omega
    have hl2 : 1 + p.text.length + 1 ≤ 9223372036854775807 := by omega
    have hl3 : 1 + p.text.length + 1 + q.text.length ≤ 9223372036854775807 := by omega
    have hl4 : 1 + p.text.length + 1 + q.text.length + 1 ≤ 9223372036854775807 := by omega
    rcases hk with rfl | rfl
    · show Calls Tryd.prog 170 #[.agg #[nodeV p, nodeV q]] w _
      rw [nodeV_eq p h1, nodeV_eq q h2, pair_text]
      obtain ⟨g0, hg0⟩ : ∃ g0, g0 = w.heap.size := ⟨_, rfl⟩
      obtain ⟨V, hV⟩ : ∃ V, V = w.alloc (.cells #[.iface (nodeT p) (nodeX p), .iface (nodeT q) (nodeX q)] 107) := ⟨_, rfl⟩
      have hA : Below w.heap.size w V := by rw [hV]; exact (Below.refl _ _).alloc (Nat.le_refl _) _
      have hn := heap_alloc_new w (.cells #[.iface (nodeT p) (nodeX p), .iface (nodeT q) (nodeX q)] 107)
      have x0 : V.cell? ⟨g0, 0, none⟩ = some (.iface (nodeT p) (nodeX p)) := by rw [hV, hg0, cell_of_row _ w.heap.size 0 _ 107 (0, 0) hn]; rfl
      have x1 : V.cell? ⟨g0, 1, none⟩ = some (.iface (nodeT q) (nodeX q)) := by rw [hV, hg0, cell_of_row _ w.heap.size 1 _ 107 (0, 0) hn]; rfl
      have gV : g0 < V.heap.size := by rw [hV, hg0]; simp
      go_enter Tryd.func170, Tryd.ntmps170
      go_wp2_with fail
      rw [← hV, ← hg0]
      have HV := Lib.hid hV
      have HG := Lib.hid hg0
      have HA := Lib.hid hA
      clear hV hg0 hA hn
      go_region_held (fun w' => w'.cell? ⟨g0, 0, none⟩ = some (.iface (nodeT p) (nodeX p)) ∧ w'.cell? ⟨g0, 1, none⟩ = some (.iface (nodeT q) (nodeX q)))
        (first | exact ⟨x0, x1⟩ | exact ⟨y0, y1⟩ | exact ⟨z0, z1⟩ | go_keep)
        (first
          | (refine (IH1 _).mono ?_; rintro e W2 ⟨rfl, hB2⟩; have y0 := (hB2.cell (p := ⟨g0, 0, none⟩) gV).trans x0; have y1 := (hB2.cell (p := ⟨g0, 1, none⟩) gV).trans x1; have gW : g0 < W2.heap.size := Nat.lt_of_lt_of_le gV hB2.size)
          | (refine (IH2 _).mono ?_; rintro e W3 ⟨rfl, hB3⟩; have z0 := (hB3.cell (p := ⟨g0, 0, none⟩) gW).trans y0; have z1 := (hB3.cell (p := ⟨g0, 1, none⟩) gW).trans y1))
      all_goals go_wp2_with fail
      all_goals
        go_ret
        have hA := HA.out
        have b2 : Below w.heap.size w W2 := by first | exact hA.trans (hB2.mono hA.size) | exact hA.drew.trans (hB2.mono hA.size) | exact hA.drew.drew.trans (hB2.mono hA.size)
        have b3 : Below w.heap.size w W3 := by first | exact b2.trans (hB3.mono b2.size) | exact b2.drew.trans (hB3.mono b2.size) | exact b2.drew.drew.trans (hB3.mono b2.size)
        first | exact ⟨rfl, b3⟩ | exact ⟨rfl, b3.drew⟩
    · show Calls Tryd.prog 172 #[.agg #[nodeV p, nodeV q]] w _
      rw [nodeV_eq p h1, nodeV_eq q h2, pair_text]
      obtain ⟨g0, hg0⟩ : ∃ g0, g0 = w.heap.size := ⟨_, rfl⟩
      obtain ⟨V, hV⟩ : ∃ V, V = w.alloc (.cells #[.iface (nodeT p) (nodeX p), .iface (nodeT q) (nodeX q)] 112) := ⟨_, rfl⟩
      have hA : Below w.heap.size w V := by rw [hV]; exact (Below.refl _ _).alloc (Nat.le_refl _) _
      have hn := heap_alloc_new w (.cells #[.iface (nodeT p) (nodeX p), .iface (nodeT q) (nodeX q)] 112)
      have x0 : V.cell? ⟨g0, 0, none⟩ = some (.iface (nodeT p) (nodeX p)) := by rw [hV, hg0, cell_of_row _ w.heap.size 0 _ 112 (0, 0) hn]; rfl
      have x1 : V.cell? ⟨g0, 1, none⟩ = some (.iface (nodeT q) (nodeX q)) := by rw [hV, hg0, cell_of_row _ w.heap.size 1 _ 112 (0, 0) hn]; rfl
      have gV : g0 < V.heap.size := by rw [hV, hg0]; simp
      go_enter Tryd.func172, Tryd.ntmps172
      go_wp2_with fail
      rw [← hV, ← hg0]
      have HV := Lib.hid hV
      have HG := Lib.hid hg0
      have HA := Lib.hid hA
      clear hV hg0 hA hn
      go_region_held (fun w' => w'.cell? ⟨g0, 0, none⟩ = some (.iface (nodeT p) (nodeX p)) ∧ w'.cell? ⟨g0, 1, none⟩ = some (.iface (nodeT q) (nodeX q)))
        (first | exact ⟨x0, x1⟩ | exact ⟨y0, y1⟩ | exact ⟨z0, z1⟩ | go_keep)
        (first
          | (refine (IH1 _).mono ?_; rintro e W2 ⟨rfl, hB2⟩; have y0 := (hB2.cell (p := ⟨g0, 0, none⟩) gV).trans x0; have y1 := (hB2.cell (p := ⟨g0, 1, none⟩) gV).trans x1; have gW : g0 < W2.heap.size := Nat.lt_of_lt_of_le gV hB2.size)
          | (refine (IH2 _).mono ?_; rintro e W3 ⟨rfl, hB3⟩; have z0 := (hB3.cell (p := ⟨g0, 0, none⟩) gW).trans y0; have z1 := (hB3.cell (p := ⟨g0, 1, none⟩) gW).trans y1))
      all_goals go_wp2_with fail
      all_goals
        go_ret
        have hA := HA.out
        have b2 : Below w.heap.size w W2 := by first | exact hA.trans (hB2.mono hA.size) | exact hA.drew.trans (hB2.mono hA.size) | exact hA.drew.drew.trans (hB2.mono hA.size)
        have b3 : Below w.heap.size w W3 := by first | exact b2.trans (hB3.mono b2.size) | exact b2.drew.trans (hB3.mono b2.size) | exact b2.drew.drew.trans (hB3.mono b2.size)
        first | exact ⟨rfl, b3⟩ | exact ⟨rfl, b3.drew⟩

theorem as93_77 (v : ByteArray) (W : World) : (Instr.typeAssert (.iface 133 (.string v)) 71 107 true).run Tryd.prog W = .ok (.tuple #[.agg #[.nilIface, .nilIface], .bool false]) W := by kernel_rfl
theorem as93_79 (v : ByteArray) (W : World) : (Instr.typeAssert (.iface 133 (.string v)) 71 112 true).run Tryd.prog W = .ok (.tuple #[.agg #[.nilIface, .nilIface], .bool false]) W := by kernel_rfl
theorem as93_81 (v : ByteArray) (W : World) : (Instr.typeAssert (.iface 133 (.string v)) 71 117 true).run Tryd.prog W = .ok (.tuple #[.agg #[.nilIface], .bool false]) W := by kernel_rfl
theorem as81_77 (x : Value) (W : World) : (Instr.typeAssert (.iface 117 (.agg #[x])) 71 107 true).run Tryd.prog W = .ok (.tuple #[.agg #[.nilIface, .nilIface], .bool false]) W := by kernel_rfl
theorem as81_79 (x : Value) (W : World) : (Instr.typeAssert (.iface 117 (.agg #[x])) 71 112 true).run Tryd.prog W = .ok (.tuple #[.agg #[.nilIface, .nilIface], .bool false]) W := by kernel_rfl
theorem as81_81 (x : Value) (W : World) : (Instr.typeAssert (.iface 117 (.agg #[x])) 71 117 true).run Tryd.prog W = .ok (.tuple #[.agg #[x], .bool true]) W := by kernel_rfl
theorem as77_77 (x y : Value) (W : World) : (Instr.typeAssert (.iface 107 (.agg #[x, y])) 71 107 true).run Tryd.prog W = .ok (.tuple #[.agg #[x, y], .bool true]) W := by kernel_rfl
theorem as79_77 (x y : Value) (W : World) : (Instr.typeAssert (.iface 112 (.agg #[x, y])) 71 107 true).run Tryd.prog W = .ok (.tuple #[.agg #[.nilIface, .nilIface], .bool false]) W := by kernel_rfl
theorem as79_79 (x y : Value) (W : World) : (Instr.typeAssert (.iface 112 (.agg #[x, y])) 71 112 true).run Tryd.prog W = .ok (.tuple #[.agg #[x, y], .bool true]) W := by kernel_rfl

set_option maxHeartbeats 1000000 in
theorem pkind41 (nd : Node) (hok : nd.ok) (w : World) : Calls Tryd.prog 103 #[nodeV nd] w fun e w' => e = .returned (.string ⟨(match nd with | .atom a => a | .loop _ => [123] | .pair k _ _ => [k]).toArray⟩) ∧ Below w.heap.size w w' := by
  cases nd with
  | atom a =>
    have hm := meth_text (.atom a) hok
    have hcf := call_text (.atom a) hok
    unfold nodeT nodeX textFn at hm
    unfold textFn nodeX at hcf
    unfold nodeV
    have t1 := as93_77 ⟨a.toArray⟩
    have t2 := as93_79 ⟨a.toArray⟩
    have t3 := as93_81 ⟨a.toArray⟩
    go_enter Tryd.func103, Tryd.ntmps103
    go_wp2_with (go_at_call 176; refine (text129 _ _).mono ?_; rintro e W1 ⟨rfl, rfl⟩)
    go_ret
    exact ⟨rfl, Below.refl _ _⟩
  | loop p =>
    unfold nodeV
    obtain ⟨T, x, hv⟩ := nodeV_iface p
    rw [hv]
    have t1 := as81_77 (.iface T x)
    have t2 := as81_79 (.iface T x)
    have t3 := as81_81 (.iface T x)
    go_enter Tryd.func103, Tryd.ntmps103
    go_wp2_with fail
    go_ret
    exact ⟨rfl, (Below.refl _ _).alloc (Nat.le_refl _) _⟩
  | pair k p q =>
    obtain ⟨T, x, hv⟩ := nodeV_iface p
    obtain ⟨U, y, hv2⟩ := nodeV_iface q
    obtain ⟨rfl | rfl, _, _⟩ := hok
    · rw [nodeV_seq, hv, hv2]
      have t1 := as77_77 (.iface T x) (.iface U y)
      go_enter Tryd.func103, Tryd.ntmps103
      go_wp2_with fail
      go_ret
      exact ⟨rfl, (Below.refl _ _).alloc (Nat.le_refl _) _⟩
    · rw [nodeV_choice, hv, hv2]
      have t1 := as79_77 (.iface T x) (.iface U y)
      have t2 := as79_79 (.iface T x) (.iface U y)
      go_enter Tryd.func103, Tryd.ntmps103
      go_wp2_with fail
      go_ret
      exact ⟨rfl, (Below.refl _ _).alloc (Nat.le_refl _) _⟩
end Go.Proofs.YtgkgkaapjljpcaaDoor

namespace Go.Proofs.YtgkgkaapjljpcaaDoor
open Go.ChangeShapes Go.WideShapes Go.ChangeAt Go.RowKit Go.Shelf
attribute [local go_sem] Oper.semAt_some
set_option maxRecDepth 100000


set_option maxHeartbeats 2000000 in
theorem ploops46 : ∀ (nd : Node), nd.ok → nd.loops ≤ 1000 → ∀ (w : World), Calls Tryd.prog 69 #[nodeV nd] w fun e w' => e = .returned (.int .i64 (nd.loops : Int)) ∧ Below w.heap.size w w'
  | .atom a, hok, _, w => by
    have hkd := pkind41 (.atom a) hok
    have hane : (a == [123]) = false := by
      simp only [beq_eq_false_iff_ne, ne_eq]
      rintro rfl
      rcases hok with h | h | h | ⟨t, _, h⟩
      · cases h
      · cases h
      · revert h; decide
      · cases h
    clear hok
    unfold nodeV at hkd ⊢
    have hm : ∀ W : World, (method 307 133 (.string ⟨a.toArray⟩) "loop.example/surelywrong/impl.parts").run Tryd.prog W = .ok (175, .string ⟨a.toArray⟩) W := fun _ => by kernel_rfl
    go_enter Tryd.func69, Tryd.ntmps69
    go_wp2_with (go_at_call 175; refine (parts128 _ _).mono ?_; rintro e W1 ⟨rfl, rfl⟩)
    go_loopw [3, 9] (fun o i wr => o = .int .i64 0 ∧ i = .int .i64 0 ∧ wr = w) (fun _ _ _ => 0)
    case atStart => exact ⟨rfl, rfl, rfl⟩
    case round =>
      obtain ⟨rfl, rfl, rfl⟩ := hrel
      go_wp2_with (go_at_call 103; refine (hkd _).mono ?_; rintro e W2 ⟨rfl, hb2⟩)
      go_ret
      exact ⟨rfl, hb2⟩
  | .loop p, hok, hs, w => by
    have hpl : (p.loops : Int) ≤ 1000 := by simp [Node.loops] at hs; omega
    have IH := ploops46 p hok (by omega)
    have hkd := pkind41 (.loop p) hok
    obtain ⟨T, x, hv⟩ := nodeV_iface p
    unfold nodeV at hkd ⊢
    rw [hv] at IH hkd ⊢
    have hp0 : (0 : Int) ≤ (p.loops : Int) := by omega
    have hm : ∀ W : World, (method 307 117 (.agg #[.iface T x]) "loop.example/surelywrong/impl.parts").run Tryd.prog W = .ok (173, .agg #[.iface T x]) W := fun _ => by kernel_rfl
    go_enter Tryd.func69, Tryd.ntmps69
    go_wp2_with (go_at_call 173; refine (parts121 T x _).mono ?_; rintro e W1 ⟨g, rfl, hg, c0, hb1⟩)
    go_loopw [3, 9] (fun o i wr => ((o = .int .i64 0 ∧ i = .int .i64 0) ∨ (o = .int .i64 (p.loops : Int) ∧ i = .int .i64 1)) ∧ Below W1.heap.size W1 wr) (fun _ i _ => 1 - (intOf i).toNat)
    case atStart => exact ⟨.inl ⟨rfl, rfl⟩, Below.refl _ _⟩
    case round =>
      obtain ⟨hor, hB⟩ := hrel
      rcases hor with ⟨rfl, rfl⟩ | ⟨rfl, rfl⟩
      · have e0 := (hB.cell (p := ⟨g, 0, none⟩) hg).trans c0
        go_wp2_with (go_at_call 69; refine (IH _).mono ?_; rintro e W2 ⟨rfl, hb2⟩)
        go_roundw
        case rel => exact ⟨.inr ⟨by go_num, rfl⟩, hB.trans (hb2.mono hB.size)⟩
        case measure => simp [intOf]
      · go_wp2_with (go_at_call 103; refine (hkd _).mono ?_; rintro e W2 ⟨rfl, hb2⟩)
        go_ret
        exact ⟨rfl, (hb1.trans (hB.mono hb1.size)).trans (hb2.mono (Nat.le_trans hb1.size hB.size))⟩
  | .pair k p q, hok, hs, w => by
    have hpl1 : (p.loops : Int) ≤ 1000 := by simp [Node.loops] at hs; omega
    have hql1 : (q.loops : Int) ≤ 1000 := by simp [Node.loops] at hs; omega
    have IH1 := ploops46 p hok.2.1 (by omega)
    have IH2 := ploops46 q hok.2.2 (by omega)
    have hp0 : (0 : Int) ≤ (p.loops : Int) := by omega
    have hq0 : (0 : Int) ≤ (q.loops : Int) := by omega
    obtain ⟨T, x, hv⟩ := nodeV_iface p
    obtain ⟨U, y, hv2⟩ := nodeV_iface q
    obtain ⟨hk, h1, h2⟩ := hok
    rcases hk with rfl | rfl
    · have hnd : (.pair 59 p q : Node).ok := ⟨by simp, h1, h2⟩
      have hkd := pkind41 (.pair 59 p q) hnd
      rw [nodeV_seq] at hkd ⊢
      rw [hv] at IH1 hkd ⊢
      rw [hv2] at IH2 hkd ⊢
      clear hnd h1 h2 hv hv2
      have hm : ∀ W : World, (method 307 107 (.agg #[.iface T x, .iface U y]) "loop.example/surelywrong/impl.parts").run Tryd.prog W = .ok (169, .agg #[.iface T x, .iface U y]) W := fun _ => by kernel_rfl
      go_enter Tryd.func69, Tryd.ntmps69
      go_wp2_with (go_at_call 169; refine (parts117 T U x y _).mono ?_; rintro e W1 ⟨g, rfl, hg, c0, c1, hb1⟩)
      go_loopw [3, 9] (fun o i wr => ((o = .int .i64 0 ∧ i = .int .i64 0) ∨ (o = .int .i64 (p.loops : Int) ∧ i = .int .i64 1) ∨ (o = .int .i64 (max p.loops q.loops : Nat) ∧ i = .int .i64 2)) ∧ Below W1.heap.size W1 wr) (fun _ i _ => 2 - (intOf i).toNat)
      case atStart => exact ⟨.inl ⟨rfl, rfl⟩, Below.refl _ _⟩
      case round =>
        obtain ⟨hor, hB⟩ := hrel
        rcases hor with ⟨rfl, rfl⟩ | ⟨rfl, rfl⟩ | ⟨rfl, rfl⟩
        · have e0 := (hB.cell (p := ⟨g, 0, none⟩) hg).trans c0
          go_wp2_with (go_at_call 69; refine (IH1 _).mono ?_; rintro e W2 ⟨rfl, hb2⟩)
          go_roundw
          case rel => exact ⟨.inr (.inl ⟨by go_num, rfl⟩), hB.trans (hb2.mono hB.size)⟩
          case measure => simp [intOf]
        · have e0 := (hB.cell (p := ⟨g, 1, none⟩) hg).trans c1
          go_wp2_with (go_at_call 69; refine (IH2 _).mono ?_; rintro e W2 ⟨rfl, hb2⟩)
          go_roundw
          case rel => exact ⟨.inr (.inr ⟨by go_num, rfl⟩), hB.trans (hb2.mono hB.size)⟩
          case measure => simp [intOf]
        · go_wp2_with (go_at_call 103; refine (hkd _).mono ?_; rintro e W2 ⟨rfl, hb2⟩)
          go_ret
          exact ⟨rfl, (hb1.trans (hB.mono hb1.size)).trans (hb2.mono (Nat.le_trans hb1.size hB.size))⟩
    · have hnd : (.pair 124 p q : Node).ok := ⟨by simp, h1, h2⟩
      have hkd := pkind41 (.pair 124 p q) hnd
      rw [nodeV_choice] at hkd ⊢
      rw [hv] at IH1 hkd ⊢
      rw [hv2] at IH2 hkd ⊢
      clear hnd h1 h2 hv hv2
      have hm : ∀ W : World, (method 307 112 (.agg #[.iface T x, .iface U y]) "loop.example/surelywrong/impl.parts").run Tryd.prog W = .ok (171, .agg #[.iface T x, .iface U y]) W := fun _ => by kernel_rfl
      go_enter Tryd.func69, Tryd.ntmps69
      go_wp2_with (go_at_call 171; refine (parts119 T U x y _).mono ?_; rintro e W1 ⟨g, rfl, hg, c0, c1, hb1⟩)
      go_loopw [3, 9] (fun o i wr => ((o = .int .i64 0 ∧ i = .int .i64 0) ∨ (o = .int .i64 (p.loops : Int) ∧ i = .int .i64 1) ∨ (o = .int .i64 (max p.loops q.loops : Nat) ∧ i = .int .i64 2)) ∧ Below W1.heap.size W1 wr) (fun _ i _ => 2 - (intOf i).toNat)
      case atStart => exact ⟨.inl ⟨rfl, rfl⟩, Below.refl _ _⟩
      case round =>
        obtain ⟨hor, hB⟩ := hrel
        rcases hor with ⟨rfl, rfl⟩ | ⟨rfl, rfl⟩ | ⟨rfl, rfl⟩
        · have e0 := (hB.cell (p := ⟨g, 0, none⟩) hg).trans c0
          go_wp2_with (go_at_call 69; refine (IH1 _).mono ?_; rintro e W2 ⟨rfl, hb2⟩)
          go_roundw
          case rel => exact ⟨.inr (.inl ⟨by go_num, rfl⟩), hB.trans (hb2.mono hB.size)⟩
          case measure => simp [intOf]
        · have e0 := (hB.cell (p := ⟨g, 1, none⟩) hg).trans c1
          go_wp2_with (go_at_call 69; refine (IH2 _).mono ?_; rintro e W2 ⟨rfl, hb2⟩)
          go_roundw
          case rel => exact ⟨.inr (.inr ⟨by go_num, rfl⟩), hB.trans (hb2.mono hB.size)⟩
          case measure => simp [intOf]
        · go_wp2_with (go_at_call 103; refine (hkd _).mono ?_; rintro e W2 ⟨rfl, hb2⟩)
          go_ret
          exact ⟨rfl, (hb1.trans (hB.mono hb1.size)).trans (hb2.mono (Nat.le_trans hb1.size hB.size))⟩
end Go.Proofs.YtgkgkaapjljpcaaDoor

