/- The program's nodes as values: their texts and kinds. -/
import Derived.Test.YtemilnkglkpnjaaDoorN2

namespace Go.Proofs.YtemilnkglkpnjaaDoor
open Go.ChangeShapes Go.WideShapes Go.ChangeAt Go.RowKit Go.Shelf
attribute [local go_sem] Oper.semAt_some
set_option maxRecDepth 100000

/-- The method that gives a node's text, and what it is called with. -/
def textFn : Node → FuncId
  | .atom _ => 129
  | .loop _ => 122
  | .pair k _ _ => if k = 59 then 118 else 120
def nodeT : Node → TypeId
  | .atom _ => 93
  | .loop _ => 81
  | .pair k _ _ => if k = 59 then 77 else 79
def nodeX : Node → Value
  | .atom a => .string ⟨a.toArray⟩
  | .loop p => .agg #[nodeV p]
  | .pair _ p q => .agg #[nodeV p, nodeV q]
theorem nodeV_eq (nd : Node) (h : nd.ok) : nodeV nd = .iface (nodeT nd) (nodeX nd) := by
  cases nd with
  | atom a => rfl
  | loop p => rfl
  | pair k p q => obtain ⟨rfl | rfl, _, _⟩ := h <;> rfl
theorem meth_text (nd : Node) (h : nd.ok) (W : World) : (method 248 (nodeT nd) (nodeX nd) "loop.example/surelywrong/impl.text").run Tryd.prog W = .ok (textFn nd, nodeX nd) W := by
  cases nd with
  | atom a => exact (show (method 248 93 (.string ⟨a.toArray⟩) "loop.example/surelywrong/impl.text").run Tryd.prog W = .ok (129, .string ⟨a.toArray⟩) W by kernel_rfl)
  | loop p => exact (show (method 248 81 (.agg #[nodeV p]) "loop.example/surelywrong/impl.text").run Tryd.prog W = .ok (122, .agg #[nodeV p]) W by kernel_rfl)
  | pair k p q =>
    obtain ⟨rfl | rfl, _, _⟩ := h
    · exact (show (method 248 77 (.agg #[nodeV p, nodeV q]) "loop.example/surelywrong/impl.text").run Tryd.prog W = .ok (118, .agg #[nodeV p, nodeV q]) W by kernel_rfl)
    · exact (show (method 248 79 (.agg #[nodeV p, nodeV q]) "loop.example/surelywrong/impl.text").run Tryd.prog W = .ok (120, .agg #[nodeV p, nodeV q]) W by kernel_rfl)

theorem text129 (s : ByteArray) (w : World) : Calls Tryd.prog 129 #[.string s] w fun e w' => e = .returned (.string s) ∧ w = w' := by
  go_enter Tryd.func129, Tryd.ntmps129
  go_wp2
  go_ret
  exact ⟨rfl, rfl⟩

theorem call_text (nd : Node) (h : nd.ok) (W : World) : (callFunc (textFn nd) #[nodeX nd]).run Tryd.prog W = .ok (.enter (textFn nd) #[nodeX nd]) W := by
  cases nd with
  | atom a => exact (show (callFunc 129 #[.string ⟨a.toArray⟩]).run Tryd.prog W = .ok (.enter 129 #[.string ⟨a.toArray⟩]) W by kernel_rfl)
  | loop p => exact (show (callFunc 122 #[.agg #[nodeV p]]).run Tryd.prog W = .ok (.enter 122 #[.agg #[nodeV p]]) W by kernel_rfl)
  | pair k p q =>
    obtain ⟨rfl | rfl, _, _⟩ := h
    · exact (show (callFunc 118 #[.agg #[nodeV p, nodeV q]]).run Tryd.prog W = .ok (.enter 118 #[.agg #[nodeV p, nodeV q]]) W by kernel_rfl)
    · exact (show (callFunc 120 #[.agg #[nodeV p, nodeV q]]).run Tryd.prog W = .ok (.enter 120 #[.agg #[nodeV p, nodeV q]]) W by kernel_rfl)
theorem loop_text (p : Node) : (⟨(Node.loop p).text.toArray⟩ : ByteArray) = ⟨#[123]⟩ ++ ⟨p.text.toArray⟩ ++ ⟨#[125]⟩ := by
  apply ByteArray.ext
  simp [ByteArray.data_append, Node.text]
theorem pair_text (k : UInt8) (p q : Node) : (⟨(Node.pair k p q).text.toArray⟩ : ByteArray) = ⟨#[40]⟩ ++ ⟨p.text.toArray⟩ ++ ⟨#[k]⟩ ++ ⟨q.text.toArray⟩ ++ ⟨#[41]⟩ := by
  apply ByteArray.ext
  simp [ByteArray.data_append, Node.text]

set_option maxHeartbeats 4000000 in
theorem ptext : ∀ (nd : Node), nd.ok → nd.text.length ≤ 1000 → ∀ (w : World), Calls Tryd.prog (textFn nd) #[nodeX nd] w fun e w' => e = .returned (.string ⟨nd.text.toArray⟩) ∧ Below w.heap.size w w'
  | .atom a, _, _, w => (text129 ⟨a.toArray⟩ w).mono fun e w' ⟨h1, h2⟩ => ⟨h1, h2 ▸ Below.refl _ _⟩
  | .loop p, hok, hs, w => by
    have hpl : p.text.length ≤ 1000 := by simp [Node.text] at hs; omega
    have IH := ptext p hok hpl
    have hm := meth_text p hok
    have hcf := call_text p hok
    have hl1 : 1 + p.text.length ≤ 9223372036854775807 := by omega
    have hl2 : 1 + p.text.length + 1 ≤ 9223372036854775807 := by omega
    show Calls Tryd.prog 122 #[.agg #[nodeV p]] w _
    rw [nodeV_eq p hok, loop_text]
    go_enter Tryd.func122, Tryd.ntmps122
    go_wp2_with (refine (IH _).mono ?_; rintro e W2 ⟨rfl, hB2⟩)
    go_ret
    exact ⟨rfl, ((Below.refl _ _).alloc (Nat.le_refl _) _).trans (hB2.mono (by simp))⟩
  | .pair k p q, hok, hs, w => by
    have hpl : p.text.length + q.text.length ≤ 1000 := by simp [Node.text] at hs; omega
    have IH1 := ptext p hok.2.1 (by omega)
    have IH2 := ptext q hok.2.2 (by omega)
    have hm1 := meth_text p hok.2.1
    have hm2 := meth_text q hok.2.2
    have hcf1 := call_text p hok.2.1
    have hcf2 := call_text q hok.2.2
    obtain ⟨hk, h1, h2⟩ := hok
    have hl1 : 1 + p.text.length ≤ 9223372036854775807 := by omega
    have hl2 : 1 + p.text.length + 1 ≤ 9223372036854775807 := by omega
    have hl3 : 1 + p.text.length + 1 + q.text.length ≤ 9223372036854775807 := by omega
    have hl4 : 1 + p.text.length + 1 + q.text.length + 1 ≤ 9223372036854775807 := by omega
    rcases hk with rfl | rfl
    · show Calls Tryd.prog 118 #[.agg #[nodeV p, nodeV q]] w _
      rw [nodeV_eq p h1, nodeV_eq q h2, pair_text]
      obtain ⟨g0, hg0⟩ : ∃ g0, g0 = w.heap.size := ⟨_, rfl⟩
      obtain ⟨V, hV⟩ : ∃ V, V = w.alloc (.cells #[.iface (nodeT p) (nodeX p), .iface (nodeT q) (nodeX q)] 77) := ⟨_, rfl⟩
      have hA : Below w.heap.size w V := by rw [hV]; exact (Below.refl _ _).alloc (Nat.le_refl _) _
      have hn := heap_alloc_new w (.cells #[.iface (nodeT p) (nodeX p), .iface (nodeT q) (nodeX q)] 77)
      have x0 : V.cell? ⟨g0, 0, none⟩ = some (.iface (nodeT p) (nodeX p)) := by rw [hV, hg0, cell_of_row _ w.heap.size 0 _ 77 (0, 0) hn]; rfl
      have x1 : V.cell? ⟨g0, 1, none⟩ = some (.iface (nodeT q) (nodeX q)) := by rw [hV, hg0, cell_of_row _ w.heap.size 1 _ 77 (0, 0) hn]; rfl
      have gV : g0 < V.heap.size := by rw [hV, hg0]; simp
      go_enter Tryd.func118, Tryd.ntmps118
      go_wp2_with fail
      rw [← hV, ← hg0]
      have HV := Lib.hid hV
      have HG := Lib.hid hg0
      have HA := Lib.hid hA
      clear hV hg0 hA hn
      go_region_held (fun w' => w'.cell? ⟨g0, 0, none⟩ = some (.iface (nodeT p) (nodeX p)) ∧ w'.cell? ⟨g0, 1, none⟩ = some (.iface (nodeT q) (nodeX q)))
        (first | exact ⟨x0, x1⟩ | exact ⟨y0, y1⟩ | exact ⟨z0, z1⟩ | go_keep)
        (first
          | (refine (IH1 _).mono ?_; rintro e W2 ⟨rfl, hB2⟩; have y0 := (hB2.cell (p := ⟨g0, 0, none⟩) gV).trans x0; have y1 := (hB2.cell (p := ⟨g0, 1, none⟩) gV).trans x1; have gW : g0 < W2.heap.size := Nat.lt_of_lt_of_le gV hB2.size)
          | (refine (IH2 _).mono ?_; rintro e W3 ⟨rfl, hB3⟩; have z0 := (hB3.cell (p := ⟨g0, 0, none⟩) gW).trans y0; have z1 := (hB3.cell (p := ⟨g0, 1, none⟩) gW).trans y1))
      all_goals go_wp2_with fail
      all_goals
        go_ret
        have hA := HA.out
        have b2 : Below w.heap.size w W2 := by first | exact hA.trans (hB2.mono hA.size) | exact hA.drew.trans (hB2.mono hA.size) | exact hA.drew.drew.trans (hB2.mono hA.size)
        have b3 : Below w.heap.size w W3 := by first | exact b2.trans (hB3.mono b2.size) | exact b2.drew.trans (hB3.mono b2.size) | exact b2.drew.drew.trans (hB3.mono b2.size)
        first | exact ⟨rfl, b3⟩ | exact ⟨rfl, b3.drew⟩
    · show Calls Tryd.prog 120 #[.agg #[nodeV p, nodeV q]] w _
      rw [nodeV_eq p h1, nodeV_eq q h2, pair_text]
      obtain ⟨g0, hg0⟩ : ∃ g0, g0 = w.heap.size := ⟨_, rfl⟩
      obtain ⟨V, hV⟩ : ∃ V, V = w.alloc (.cells #[.iface (nodeT p) (nodeX p), .iface (nodeT q) (nodeX q)] 79) := ⟨_, rfl⟩
      have hA : Below w.heap.size w V := by rw [hV]; exact (Below.refl _ _).alloc (Nat.le_refl _) _
      have hn := heap_alloc_new w (.cells #[.iface (nodeT p) (nodeX p), .iface (nodeT q) (nodeX q)] 79)
      have x0 : V.cell? ⟨g0, 0, none⟩ = some (.iface (nodeT p) (nodeX p)) := by rw [hV, hg0, cell_of_row _ w.heap.size 0 _ 79 (0, 0) hn]; rfl
      have x1 : V.cell? ⟨g0, 1, none⟩ = some (.iface (nodeT q) (nodeX q)) := by rw [hV, hg0, cell_of_row _ w.heap.size 1 _ 79 (0, 0) hn]; rfl
      have gV : g0 < V.heap.size := by rw [hV, hg0]; simp
      go_enter Tryd.func120, Tryd.ntmps120
      go_wp2_with fail
      rw [← hV, ← hg0]
      have HV := Lib.hid hV
      have HG := Lib.hid hg0
      have HA := Lib.hid hA
      clear hV hg0 hA hn
      go_region_held (fun w' => w'.cell? ⟨g0, 0, none⟩ = some (.iface (nodeT p) (nodeX p)) ∧ w'.cell? ⟨g0, 1, none⟩ = some (.iface (nodeT q) (nodeX q)))
        (first | exact ⟨x0, x1⟩ | exact ⟨y0, y1⟩ | exact ⟨z0, z1⟩ | go_keep)
        (first
          | (refine (IH1 _).mono ?_; rintro e W2 ⟨rfl, hB2⟩; have y0 := (hB2.cell (p := ⟨g0, 0, none⟩) gV).trans x0; have y1 := (hB2.cell (p := ⟨g0, 1, none⟩) gV).trans x1; have gW : g0 < W2.heap.size := Nat.lt_of_lt_of_le gV hB2.size)
          | (refine (IH2 _).mono ?_; rintro e W3 ⟨rfl, hB3⟩; have z0 := (hB3.cell (p := ⟨g0, 0, none⟩) gW).trans y0; have z1 := (hB3.cell (p := ⟨g0, 1, none⟩) gW).trans y1))
      all_goals go_wp2_with fail
      all_goals
        go_ret
        have hA := HA.out
        have b2 : Below w.heap.size w W2 := by first | exact hA.trans (hB2.mono hA.size) | exact hA.drew.trans (hB2.mono hA.size) | exact hA.drew.drew.trans (hB2.mono hA.size)
        have b3 : Below w.heap.size w W3 := by first | exact b2.trans (hB3.mono b2.size) | exact b2.drew.trans (hB3.mono b2.size) | exact b2.drew.drew.trans (hB3.mono b2.size)
        first | exact ⟨rfl, b3⟩ | exact ⟨rfl, b3.drew⟩

theorem as93_77 (v : ByteArray) (W : World) : (Instr.typeAssert (.iface 93 (.string v)) 44 77 true).run Tryd.prog W = .ok (.tuple #[.agg #[.nilIface, .nilIface], .bool false]) W := by kernel_rfl
theorem as93_79 (v : ByteArray) (W : World) : (Instr.typeAssert (.iface 93 (.string v)) 44 79 true).run Tryd.prog W = .ok (.tuple #[.agg #[.nilIface, .nilIface], .bool false]) W := by kernel_rfl
theorem as93_81 (v : ByteArray) (W : World) : (Instr.typeAssert (.iface 93 (.string v)) 44 81 true).run Tryd.prog W = .ok (.tuple #[.agg #[.nilIface], .bool false]) W := by kernel_rfl
theorem as81_77 (x : Value) (W : World) : (Instr.typeAssert (.iface 81 (.agg #[x])) 44 77 true).run Tryd.prog W = .ok (.tuple #[.agg #[.nilIface, .nilIface], .bool false]) W := by kernel_rfl
theorem as81_79 (x : Value) (W : World) : (Instr.typeAssert (.iface 81 (.agg #[x])) 44 79 true).run Tryd.prog W = .ok (.tuple #[.agg #[.nilIface, .nilIface], .bool false]) W := by kernel_rfl
theorem as81_81 (x : Value) (W : World) : (Instr.typeAssert (.iface 81 (.agg #[x])) 44 81 true).run Tryd.prog W = .ok (.tuple #[.agg #[x], .bool true]) W := by kernel_rfl
theorem as77_77 (x y : Value) (W : World) : (Instr.typeAssert (.iface 77 (.agg #[x, y])) 44 77 true).run Tryd.prog W = .ok (.tuple #[.agg #[x, y], .bool true]) W := by kernel_rfl
theorem as79_77 (x y : Value) (W : World) : (Instr.typeAssert (.iface 79 (.agg #[x, y])) 44 77 true).run Tryd.prog W = .ok (.tuple #[.agg #[.nilIface, .nilIface], .bool false]) W := by kernel_rfl
theorem as79_79 (x y : Value) (W : World) : (Instr.typeAssert (.iface 79 (.agg #[x, y])) 44 79 true).run Tryd.prog W = .ok (.tuple #[.agg #[x, y], .bool true]) W := by kernel_rfl

set_option maxHeartbeats 1000000 in
theorem pkind41 (nd : Node) (hok : nd.ok) (w : World) : Calls Tryd.prog 41 #[nodeV nd] w fun e w' => e = .returned (.string ⟨(match nd with | .atom a => a | .loop _ => [123] | .pair k _ _ => [k]).toArray⟩) ∧ Below w.heap.size w w' := by
  cases nd with
  | atom a =>
    have hm := meth_text (.atom a) hok
    have hcf := call_text (.atom a) hok
    unfold nodeT nodeX textFn at hm
    unfold textFn nodeX at hcf
    unfold nodeV
    have t1 := as93_77 ⟨a.toArray⟩
    have t2 := as93_79 ⟨a.toArray⟩
    have t3 := as93_81 ⟨a.toArray⟩
    go_enter Tryd.func41, Tryd.ntmps41
    go_wp2_with (go_at_call 129; refine (text129 _ _).mono ?_; rintro e W1 ⟨rfl, rfl⟩)
    go_ret
    exact ⟨rfl, Below.refl _ _⟩
  | loop p =>
    unfold nodeV
    obtain ⟨T, x, hv⟩ := nodeV_iface p
    rw [hv]
    have t1 := as81_77 (.iface T x)
    have t2 := as81_79 (.iface T x)
    have t3 := as81_81 (.iface T x)
    go_enter Tryd.func41, Tryd.ntmps41
    go_wp2_with fail
    go_ret
    exact ⟨rfl, (Below.refl _ _).alloc (Nat.le_refl _) _⟩
  | pair k p q =>
    obtain ⟨T, x, hv⟩ := nodeV_iface p
    obtain ⟨U, y, hv2⟩ := nodeV_iface q
    obtain ⟨rfl | rfl, _, _⟩ := hok
    · rw [nodeV_seq, hv, hv2]
      have t1 := as77_77 (.iface T x) (.iface U y)
      go_enter Tryd.func41, Tryd.ntmps41
      go_wp2_with fail
      go_ret
      exact ⟨rfl, (Below.refl _ _).alloc (Nat.le_refl _) _⟩
    · rw [nodeV_choice, hv, hv2]
      have t1 := as79_77 (.iface T x) (.iface U y)
      have t2 := as79_79 (.iface T x) (.iface U y)
      go_enter Tryd.func41, Tryd.ntmps41
      go_wp2_with fail
      go_ret
      exact ⟨rfl, (Below.refl _ _).alloc (Nat.le_refl _) _⟩
end Go.Proofs.YtemilnkglkpnjaaDoor
