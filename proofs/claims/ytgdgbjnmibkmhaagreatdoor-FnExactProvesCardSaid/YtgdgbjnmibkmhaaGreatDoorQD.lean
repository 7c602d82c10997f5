/- The model's text of a program in memory (three and a half minutes to compile). The model's PartsOf. -/
import Derived.Test.YtgdgbjnmibkmhaaGreatDoorQC
import Derived.Test.YtgdgbjnmibkmhaaGreatDoorNC
namespace Go.Proofs.YtgdgbjnmibkmhaaGreatDoor
open Go.ChangeShapes Go.WideShapes Go.ChangeAt Go.RowKit Go.Shelf
attribute [local go_sem] Oper.semAt_some
set_option maxRecDepth 100000

theorem cat_lists (a b : List UInt8) : (⟨a.toArray⟩ : ByteArray) ++ ⟨b.toArray⟩ = ⟨(a ++ b).toArray⟩ := by
  apply ByteArray.ext
  rw [ByteArray.data_append]
  simp

theorem conv_at (Z : World) (g : Nat) (k : UInt8) (hc : Z.cell? ⟨g, 0, none⟩ = some (.int .u8 (k.toNat : Int))) :
    (convert 115 9 (.slice (some ⟨g, 0, none⟩) 1 1)).run Tryz.prog Z = .ok (.string ⟨#[k]⟩) Z := by
  rw [← one_byte k]
  refine run_convert_bytes_arg _ 115 5 Tryz.underlying115 Tryz.underlying5 g 0 1 1 [(k.toNat : Int)] rfl (fun i hi => ?_) 9 Tryz.underlying9
  match i, hi with
  | 0, _ => exact hc
theorem conv_new (X : World) (k : UInt8) : (convert 115 9 (.slice (some ⟨X.heap.size, 0, none⟩) 1 1)).run Tryz.prog (X.alloc (.cells #[.int .u8 (k.toNat : Int)] 5)) = .ok (.string ⟨#[k]⟩) (X.alloc (.cells #[.int .u8 (k.toNat : Int)] 5)) :=
  conv_at _ _ _ (cellNew X _ 5).1

theorem conv_drew (X : World) (k : UInt8) : (convert 115 9 (.slice (some ⟨X.heap.size, 0, none⟩) 1 1)).run Tryz.prog (X.alloc (.cells #[.int .u8 (k.toNat : Int)] 5)).drew = .ok (.string ⟨#[k]⟩) (X.alloc (.cells #[.int .u8 (k.toNat : Int)] 5)).drew :=
  conv_at _ _ _ (cellNew X _ 5).1

set_option maxHeartbeats 6000000 in
theorem text43 : ∀ (nd : Node) (W : World) (lo hi : Nat) (k : Int) (s : ByteArray) (ad : Option Addr) (n cap : Nat), NodeIs W lo hi nd k s ad n cap → hi ≤ W.heap.size → nd.ok → nd.text.length ≤ 1048576 →
    Calls Tryz.prog 92 #[.agg #[.int .u8 k, .string s, .slice ad n cap]] W fun e w' => e = .returned (.string ⟨nd.text.toArray⟩) ∧ Below W.heap.size W w'
  | .atom a, W, lo, hi, k, s, ad, n, cap, h, hhi, hok, hl => by
    obtain ⟨rfl, rfl, rfl⟩ := h
    obtain ⟨x0, x1, x2, _⟩ := (Var.new W 97 ⟨a.toArray⟩ ad 0 cap).cells
    go_enter Tryz.func92, Tryz.ntmps92
    go_wp2
    go_ret
    exact ⟨rfl, (Below.refl _ _).alloc (Nat.le_refl _) _⟩
  | .loop p, W, lo, hi, k, s, ad, n, cap, h, hhi, hok, hl => by
    obtain ⟨rfl, rfl, rfl, g, rfl, hg1, hg2, k1, s1, ad1, n1, cap1, c0, c1, c2, hp⟩ := h
    have hpl : p.text.length ≤ 1048574 := by simp [Node.text] at hl; omega
    have hA : Below W.heap.size W (W.alloc (.cells #[.int .u8 123, .string ⟨#[]⟩, .slice (some ⟨g, 0, none⟩) 1 cap] 129)) := (Below.refl _ _).alloc (Nat.le_refl _) _
    obtain ⟨x0, x1, x2, _⟩ := (Var.new W 123 ⟨#[]⟩ (some ⟨g, 0, none⟩) 1 cap).cells
    have e0 := (hA.cell (p := ⟨g, 0, none⟩) (Nat.lt_of_lt_of_le hg2 hhi)).trans c0
    have e1 := (hA.cell (p := ⟨g, 1, none⟩) (Nat.lt_of_lt_of_le hg2 hhi)).trans c1
    have e2 := (hA.cell (p := ⟨g, 2, none⟩) (Nat.lt_of_lt_of_le hg2 hhi)).trans c2
    have cat1 : (⟨#[123]⟩ : ByteArray) ++ ⟨p.text.toArray⟩ = ⟨(123 :: p.text).toArray⟩ := cat_lists [123] p.text
    have cat2 : (⟨(123 :: p.text).toArray⟩ : ByteArray) ++ ⟨#[125]⟩ = ⟨(Node.loop p).text.toArray⟩ := cat_lists (123 :: p.text) [125]
    have L1 : 1 + p.text.length ≤ 9223372036854775807 := by omega
    have L2 : p.text.length + 1 + 1 ≤ 9223372036854775807 := by omega
    go_enter Tryz.func92, Tryz.ntmps92
    go_wp2_with fail
    go_at_call 92
    refine (text43 p _ lo hi k1 s1 ad1 n1 cap1 (hp.below hA hhi) (Nat.le_trans hhi hA.size) hok (by omega)).mono ?_
    rintro e W2 ⟨rfl, hb2⟩
    go_wp2
    go_ret
    exact ⟨rfl, hA.trans (hb2.mono hA.size)⟩
  | .pair k0 p q, W, lo, hi, k, s, ad, n, cap, h, hhi, hok, hl => by
    obtain ⟨rfl, rfl, rfl, g, rfl, hg1, hg2, k1, s1, ad1, n1, cap1, k2, s2, ad2, n2, cap2, ⟨c0, c1, c2⟩, ⟨c3, c4, c5⟩, hp, hq⟩ := h
    obtain ⟨hk0, hokp, hokq⟩ := hok
    have hpl : p.text.length + q.text.length ≤ 1048573 := by simp [Node.text] at hl; omega
    have hA : Below W.heap.size W (W.alloc (.cells #[.int .u8 (k0.toNat : Int), .string ⟨#[]⟩, .slice (some ⟨g, 0, none⟩) 2 cap] 129)) := (Below.refl _ _).alloc (Nat.le_refl _) _
    obtain ⟨x0, x1, x2, _⟩ := (Var.new W (k0.toNat : Int) ⟨#[]⟩ (some ⟨g, 0, none⟩) 2 cap).cells
    have gl : g < W.heap.size := Nat.lt_of_lt_of_le hg2 hhi
    have e0 := (hA.cell (p := ⟨g, 0, none⟩) gl).trans c0
    have e1 := (hA.cell (p := ⟨g, 1, none⟩) gl).trans c1
    have e2 := (hA.cell (p := ⟨g, 2, none⟩) gl).trans c2
    have e3 := (hA.cell (p := ⟨g, 3, none⟩) gl).trans c3
    have e4 := (hA.cell (p := ⟨g, 4, none⟩) gl).trans c4
    have e5 := (hA.cell (p := ⟨g, 5, none⟩) gl).trans c5
    have hne : ((k0.toNat : Int) == 123) = false := by rcases hk0 with rfl | rfl <;> decide
    have hne2 : ((k0.toNat : Int) == 97) = false := by rcases hk0 with rfl | rfl <;> decide
    have cat1 : (⟨#[40]⟩ : ByteArray) ++ ⟨p.text.toArray⟩ = ⟨(40 :: p.text).toArray⟩ := cat_lists [40] p.text
    have cat2 : (⟨(40 :: p.text).toArray⟩ : ByteArray) ++ ⟨#[k0]⟩ = ⟨(40 :: p.text ++ [k0]).toArray⟩ := cat_lists (40 :: p.text) [k0]
    have cat3 : (⟨(40 :: p.text ++ [k0]).toArray⟩ : ByteArray) ++ ⟨q.text.toArray⟩ = ⟨(40 :: p.text ++ [k0] ++ q.text).toArray⟩ := cat_lists _ _
    have cat4 : (⟨(40 :: p.text ++ [k0] ++ q.text).toArray⟩ : ByteArray) ++ ⟨#[41]⟩ = ⟨(Node.pair k0 p q).text.toArray⟩ := by
      rw [show (⟨#[41]⟩ : ByteArray) = ⟨([41] : List UInt8).toArray⟩ from rfl, cat_lists]
      simp [Node.text]
    have hfin : (⟨(40 :: (p.text ++ [k0])).toArray⟩ : ByteArray) ++ ⟨q.text.toArray⟩ ++ ⟨#[41]⟩ = ⟨(Node.pair k0 p q).text.toArray⟩ := by
      have h3 := cat3
      have h4 := cat4
      simp only [List.cons_append] at h3 h4
      rw [h3, h4]
    have HF := Lib.hid hfin
    clear hfin
    have hcv := fun X => conv_new X k0
    have hcd := fun X => conv_drew X k0
    have L1 : 1 + p.text.length ≤ 9223372036854775807 := by omega
    have L2 : p.text.length + 1 + 1 ≤ 9223372036854775807 := by omega
    have L3 : p.text.length + 1 + 1 + q.text.length ≤ 9223372036854775807 := by omega
    have L4 : p.text.length + 1 + 1 + q.text.length + 1 ≤ 9223372036854775807 := by omega
    have L5 : p.text.length + (1 + q.text.length) + 1 ≤ 9223372036854775807 := by omega
    have L6 : p.text.length + 1 + (q.text.length + 1) ≤ 9223372036854775807 := by omega
    obtain ⟨V, hV⟩ : ∃ V, V = W.alloc (.cells #[.int .u8 (k0.toNat : Int), .string ⟨#[]⟩, .slice (some ⟨g, 0, none⟩) 2 cap] 129) := ⟨_, rfl⟩
    have hVs : V.heap.size = W.heap.size + 1 := by rw [hV]; simp
    obtain ⟨g0, hg0⟩ : ∃ g0, g0 = W.heap.size := ⟨_, rfl⟩
    have gV : g < V.heap.size := by omega
    have g0V : g0 < V.heap.size := by omega
    have hAV : Below W.heap.size W V := by rw [hV]; exact hA
    have TP : ∀ W0, Below V.heap.size V W0 → Calls Tryz.prog 92 #[.agg #[.int .u8 k1, .string s1, .slice ad1 n1 cap1]] W0 fun e w' => e = .returned (.string ⟨p.text.toArray⟩) ∧ Below V.heap.size V w' ∧ Below W0.heap.size W0 w' := fun W0 hB =>
      (text43 p W0 lo hi k1 s1 ad1 n1 cap1 (hp.below (hAV.trans (hB.mono (by omega))) hhi) (by have := hB.size; omega) hokp (by omega)).mono fun e w' h => ⟨h.1, hB.trans (h.2.mono hB.size), h.2⟩
    have TQ : ∀ W0, Below V.heap.size V W0 → Calls Tryz.prog 92 #[.agg #[.int .u8 k2, .string s2, .slice ad2 n2 cap2]] W0 fun e w' => e = .returned (.string ⟨q.text.toArray⟩) ∧ Below V.heap.size V w' ∧ Below W0.heap.size W0 w' := fun W0 hB =>
      (text43 q W0 lo hi k2 s2 ad2 n2 cap2 (hq.below (hAV.trans (hB.mono (by omega))) hhi) (by have := hB.size; omega) hokq (by omega)).mono fun e w' h => ⟨h.1, hB.trans (h.2.mono hB.size), h.2⟩
    have hBd : Below V.heap.size V V.drew := (Below.refl _ _).drew
    go_enter Tryz.func92, Tryz.ntmps92
    go_wp2_with fail
    rw [← hV, ← hg0]
    rw [← hV] at x0 x2 e0 e1 e2 e3 e4 e5
    rw [← hg0] at x0 x2
    have HV := Lib.hid hV
    have HG := Lib.hid hg0
    have HAV := Lib.hid hAV
    have HVs := Lib.hid hVs
    clear hV hg0 hA hAV hVs
    go_region_held (fun w' => w'.cell? ⟨g0, 0, none⟩ = some (.int .u8 (k0.toNat : Int)) ∧ w'.cell? ⟨g0, 2, none⟩ = some (.slice (some ⟨g, 0, none⟩) 2 cap) ∧ w'.cell? ⟨g, 0, none⟩ = some (.int .u8 k1) ∧ w'.cell? ⟨g, 1, none⟩ = some (.string s1) ∧ w'.cell? ⟨g, 2, none⟩ = some (.slice ad1 n1 cap1) ∧ w'.cell? ⟨g, 3, none⟩ = some (.int .u8 k2) ∧ w'.cell? ⟨g, 4, none⟩ = some (.string s2) ∧ w'.cell? ⟨g, 5, none⟩ = some (.slice ad2 n2 cap2))
      (first | exact ⟨x0, x2, e0, e1, e2, e3, e4, e5⟩ | exact ⟨(hB3.cell (p := ⟨g0, 0, none⟩) g0V).trans x0, (hB3.cell (p := ⟨g0, 2, none⟩) g0V).trans x2, (hB3.cell (p := ⟨g, 0, none⟩) gV).trans e0, (hB3.cell (p := ⟨g, 1, none⟩) gV).trans e1, (hB3.cell (p := ⟨g, 2, none⟩) gV).trans e2, (hB3.cell (p := ⟨g, 3, none⟩) gV).trans e3, (hB3.cell (p := ⟨g, 4, none⟩) gV).trans e4, (hB3.cell (p := ⟨g, 5, none⟩) gV).trans e5⟩ | exact ⟨(hB2.cell (p := ⟨g0, 0, none⟩) g0V).trans x0, (hB2.cell (p := ⟨g0, 2, none⟩) g0V).trans x2, (hB2.cell (p := ⟨g, 0, none⟩) gV).trans e0, (hB2.cell (p := ⟨g, 1, none⟩) gV).trans e1, (hB2.cell (p := ⟨g, 2, none⟩) gV).trans e2, (hB2.cell (p := ⟨g, 3, none⟩) gV).trans e3, (hB2.cell (p := ⟨g, 4, none⟩) gV).trans e4, (hB2.cell (p := ⟨g, 5, none⟩) gV).trans e5⟩ | go_keep)
      (first
        | (go_at_call_of 92 (Value.agg #[Value.int IntKind.u8 k1, Value.string s1, Value.slice ad1 n1 cap1]); refine (TP _ ?_).mono ?_; (first | exact hBd | exact hBd.alloc hBd.size _); rintro e W2 ⟨rfl, hB2, hbb⟩
           (first
            | (have hlt2 : V.heap.size < W2.heap.size := Nat.lt_of_lt_of_le (by simp) hbb.size
               have hce : W2.cell? ⟨V.heap.size, 0, none⟩ = some (.int .u8 (k0.toNat : Int)) := (hbb.cell (p := ⟨V.heap.size, 0, none⟩) (by simp)).trans (cellNew V.drew (.int .u8 (k0.toNat : Int)) 5).1
               have hcc := conv_at W2 V.heap.size k0 hce)
            | skip))
        | (go_at_call_of 92 (Value.agg #[Value.int IntKind.u8 k2, Value.string s2, Value.slice ad2 n2 cap2]); refine (TQ _ ?_).mono ?_; (first | exact hB2 | exact hB2.alloc hB2.size _); rintro e W3 ⟨rfl, hB3, hbb3⟩
           (first
            | (have hcc3 := conv_at W3 V.heap.size k0 ((hbb3.cell (p := ⟨V.heap.size, 0, none⟩) hlt2).trans hce))
            | (have hcc3 := conv_at W3 W2.heap.size k0 ((hbb3.cell (p := ⟨W2.heap.size, 0, none⟩) (by simp)).trans (cellNew W2 (.int .u8 (k0.toNat : Int)) 5).1))
            | skip)))
    all_goals go_wp2_with fail
    all_goals
      go_ret
      have hE : Below W.heap.size W W3 := HAV.out.trans (hB3.mono HAV.out.size)
      first
        | exact ⟨congrArg (fun z => Ending.returned (Value.string z)) HF.out, hE⟩
        | exact ⟨congrArg (fun z => Ending.returned (Value.string z)) HF.out, hE.alloc hE.size _⟩
        | exact ⟨rfl, hE⟩
        | exact ⟨rfl, hE.alloc hE.size _⟩
end Go.Proofs.YtgdgbjnmibkmhaaGreatDoor

namespace Go.Proofs.YtgdgbjnmibkmhaaGreatDoor
open Go.ChangeShapes Go.WideShapes Go.ChangeAt Go.RowKit Go.Shelf
attribute [local go_sem] Oper.semAt_some
set_option maxRecDepth 100000

theorem own_empty (w : World) : (w.alloc (.cells #[] 9)).ownsRow w.heap.size 9 1 (.slice (some ⟨w.heap.size, 0, none⟩) 0 0) 0 (texts []) :=
  ⟨by simp [texts], .inr ⟨w.heap.size, 0, #[], rfl, Nat.le_refl _, heap_alloc_new w _, Nat.le_refl _, Nat.zero_le _, rfl, rfl⟩⟩

set_option maxHeartbeats 2000000 in
theorem mparts_none (t : ByteArray) (ht : t.size ≤ 9000000) (w : World) (hP : readP t.toList = none) :
    Calls Tryz.prog 68 #[.string t] w fun e w' => ∃ v, e = .returned v ∧ w'.ownsRow w.heap.size 9 1 v 0 (texts []) ∧ Below w.heap.size w w' := by
  have hr := fun (X : World) => read42 t ht X
  have HP := Lib.hid hP
  have hA : Below w.heap.size w (w.alloc (.cells #[] 9)) := (Below.refl _ _).alloc (Nat.le_refl _) _
  have HO := Lib.hid (own_empty w)
  clear hP
  go_enter Tryz.func68, Tryz.ntmps68
  go_wp2_with (go_at_call 91; refine (hr _).mono ?_; rintro e W1 ⟨hb, hm⟩; rw [HP.out] at hm; obtain rfl := hm)
  have HW := Lib.hid (own_below HO.out hb)
  have hB0 := hA.trans (hb.mono (by simp))
  go_loopw [3, 17] (fun o i wr => i = .int .i64 0 ∧ o = .slice (some ⟨w.heap.size, 0, none⟩) 0 0 ∧ wr.ownsRow w.heap.size 9 1 o 0 (texts []) ∧ Below w.heap.size w wr) (fun _ _ _ => 0)
  case atStart => exact ⟨rfl, rfl, HW.out.alloc _, hB0.alloc hB0.size _⟩
  case round =>
    obtain ⟨rfl, rfl, hown, hB⟩ := hrel
    go_wp2
    go_ret
    exact ⟨_, rfl, hown, hB⟩

set_option maxHeartbeats 2000000 in
theorem mparts_atom (t : ByteArray) (ht : t.size ≤ 9000000) (w : World) {a : List UInt8} (hP : readP t.toList = some (.atom a)) :
    Calls Tryz.prog 68 #[.string t] w fun e w' => ∃ v, e = .returned v ∧ w'.ownsRow w.heap.size 9 1 v 0 (texts []) ∧ Below w.heap.size w w' := by
  have hr := fun (X : World) => read42 t ht X
  have HP := Lib.hid hP
  have hA : Below w.heap.size w (w.alloc (.cells #[] 9)) := (Below.refl _ _).alloc (Nat.le_refl _) _
  have HO := Lib.hid (own_empty w)
  clear hP
  go_enter Tryz.func68, Tryz.ntmps68
  go_wp2_with (go_at_call 91; refine (hr _).mono ?_; rintro e W1 ⟨hb, hm⟩; rw [HP.out] at hm; obtain ⟨k, s, ad, m, cap, rfl, rfl, rfl, rfl⟩ := hm; obtain ⟨v0, v1, v2, _⟩ := (Var.new W1 97 ⟨a.toArray⟩ ad 0 cap).cells)
  have HW := Lib.hid (own_below HO.out hb)
  have hB0 := hA.trans (hb.mono (by simp))
  go_loopw [3, 17] (fun o i wr => i = .int .i64 0 ∧ o = .slice (some ⟨w.heap.size, 0, none⟩) 0 0 ∧ wr.ownsRow w.heap.size 9 1 o 0 (texts []) ∧ Below w.heap.size w wr) (fun _ _ _ => 0)
  case atStart => exact ⟨rfl, rfl, HW.out.alloc _, hB0.alloc hB0.size _⟩
  case round =>
    obtain ⟨rfl, rfl, hown, hB⟩ := hrel
    go_wp2
    go_ret
    exact ⟨_, rfl, hown, hB⟩

set_option maxHeartbeats 4000000 in
theorem mparts_loop (t : ByteArray) (ht : t.size ≤ 9000000) (w : World) {p : Node} (hP : readP t.toList = some (.loop p)) :
    Calls Tryz.prog 68 #[.string t] w fun e w' => ∃ v, e = .returned v ∧ w'.ownsRow w.heap.size 9 1 v 1 (texts [p.text]) ∧ Below w.heap.size w w' := by
  have hr := fun (X : World) => read42 t ht X
  obtain ⟨hok, htx, h60, h6⟩ := readP_iff.1 hP
  have hok1 : p.ok := hok
  have hpl : p.text.length ≤ 1000 := by rw [htx] at h60; simp [Node.text] at h60; omega
  have HP := Lib.hid hP
  obtain ⟨i0, hi, hz0, hz1, hz2⟩ := info_parts Tryz.info9
  have hA : Below w.heap.size w (w.alloc (.cells #[] 9)) := (Below.refl _ _).alloc (Nat.le_refl _) _
  have HO := Lib.hid (own_empty w)
  clear hP htx h60 h6
  go_enter Tryz.func68, Tryz.ntmps68
  go_wp2_with (go_at_call 91; refine (hr _).mono ?_; rintro e W1 ⟨hb, hm⟩; rw [HP.out] at hm; obtain ⟨k, s, ad, m, cap, rfl, rfl, rfl, rfl, g, rfl, hg1, hg2, k1, s1, ad1, n1, cap1, c0, c1, c2, hN1⟩ := hm; obtain ⟨v0, v1, v2, _⟩ := (Var.new W1 123 ⟨#[]⟩ (some ⟨g, 0, none⟩) 1 cap).cells)
  have HW := Lib.hid (own_below HO.out hb)
  have hB0 := hA.trans (hb.mono (by simp))
  go_loopw [3, 17] (fun o i wr => (i = .int .i64 0 ∧ o = .slice (some ⟨w.heap.size, 0, none⟩) 0 0 ∧ wr.ownsRow w.heap.size 9 1 o 0 (texts []) ∧ Below w.heap.size w wr ∧ Below W1.heap.size W1 wr) ∨ (i = .int .i64 1 ∧ wr.ownsRow w.heap.size 9 1 o 1 (texts [p.text]) ∧ Below w.heap.size w wr)) (fun _ i _ => 1 - (intOf i).toNat)
  case atStart => exact .inl ⟨rfl, rfl, HW.out.alloc _, hB0.alloc hB0.size _, (Below.refl _ _).alloc (Nat.le_refl _) _⟩
  case round =>
    rcases hrel with ⟨rfl, rfl, hown, hB, hC⟩ | ⟨rfl, hown, hB⟩
    · have hcell := fun (o : Nat) => hC.cell (p := ⟨g, o, none⟩) hg2
      have e0 := (hcell 0).trans c0
      have e1 := (hcell 1).trans c1
      have e2 := (hcell 2).trans c2
      have hNr := hN1.below hC (Nat.le_refl _)
      obtain ⟨x0, x1, x2, _⟩ := (Var.new wr k1 s1 ad1 n1 cap1).cells
      have hVb : Below wr.heap.size wr (wr.alloc (.cells #[.int .u8 k1, .string s1, .slice ad1 n1 cap1] 129)) := (Below.refl _ _).alloc (Nat.le_refl _) _
      have hNv := hNr.below hVb hC.size
      have hownv := own_below hown hVb
      have hBv := hB.trans (hVb.mono hB.size)
      go_wp2_with (first
        | (go_at_call 92; refine (text43 p _ _ _ _ _ _ _ _ hNv (Nat.le_trans hC.size hVb.size) hok1 (by omega)).mono ?_; rintro e W3 ⟨rfl, hb3⟩; have hB3 := hBv.trans (hb3.mono hBv.size); have hown3 := own_below hownv hb3)
        | (at_builtin; refine wpList_append_own _ rfl _ _ 74 rfl w.heap.size 9 i0 (.string ⟨#[]⟩) 1 16 Tryz.underlying74 hi hz0 hz1 hz2 rfl (by decide) _ 0 (texts []) rfl (hown3.alloc _) ⟨W3.heap.size, 0, none⟩ 1 1 [.string ⟨p.text.toArray⟩] rfl (by rfl) (cell_one_new _ _ _) (by simp [Value.oneCell']) (by unfold maxLen; omega) (by omega) (by have := hB3.size; simp; omega) ?_; intro v' w1 hown' hgrow _; have hE4 := (hB3.alloc hB3.size _).grown hgrow (by have := hB3.size; simp; omega) (fun i e => (hown3.lt i e).1); clear hgrow))
      go_roundw
      case rel => exact .inr ⟨rfl, hown', hE4⟩
      case measure => simp [intOf]
    · go_wp2
      go_ret
      exact ⟨_, rfl, hown, hB⟩

set_option maxHeartbeats 4000000 in
theorem mparts_pair (t : ByteArray) (ht : t.size ≤ 9000000) (w : World) {k0 : UInt8} {p q : Node} (hP : readP t.toList = some (.pair k0 p q)) :
    Calls Tryz.prog 68 #[.string t] w fun e w' => ∃ v, e = .returned v ∧ w'.ownsRow w.heap.size 9 1 v 2 (texts [p.text, q.text]) ∧ Below w.heap.size w w' := by
  have hr := fun (X : World) => read42 t ht X
  obtain ⟨hok, htx, h60, h6⟩ := readP_iff.1 hP
  obtain ⟨_, hok1, hok2⟩ := hok
  have hpl : p.text.length ≤ 1000 ∧ q.text.length ≤ 1000 := by rw [htx] at h60; simp [Node.text] at h60; omega
  have HP := Lib.hid hP
  obtain ⟨i0, hi, hz0, hz1, hz2⟩ := info_parts Tryz.info9
  have hA : Below w.heap.size w (w.alloc (.cells #[] 9)) := (Below.refl _ _).alloc (Nat.le_refl _) _
  have HO := Lib.hid (own_empty w)
  clear hP htx h60 h6
  go_enter Tryz.func68, Tryz.ntmps68
  go_wp2_with (go_at_call 91; refine (hr _).mono ?_; rintro e W1 ⟨hb, hm⟩; rw [HP.out] at hm; obtain ⟨k, s, ad, m, cap, rfl, rfl, rfl, rfl, g, rfl, hg1, hg2, k1, s1, ad1, n1, cap1, k2, s2, ad2, n2, cap2, ⟨c0, c1, c2⟩, ⟨c3, c4, c5⟩, hN1, hN2⟩ := hm; obtain ⟨v0, v1, v2, _⟩ := (Var.new W1 (k0.toNat : Int) ⟨#[]⟩ (some ⟨g, 0, none⟩) 2 cap).cells)
  have HW := Lib.hid (own_below HO.out hb)
  have hB0 := hA.trans (hb.mono (by simp))
  have hg1' : w.heap.size + 1 ≤ g := by simpa using hg1
  go_loopw [3, 17] (fun o i wr => (i = .int .i64 0 ∧ o = .slice (some ⟨w.heap.size, 0, none⟩) 0 0 ∧ wr.ownsRow w.heap.size 9 1 o 0 (texts []) ∧ Below w.heap.size w wr ∧ Below W1.heap.size W1 wr) ∨ (i = .int .i64 1 ∧ wr.ownsRow w.heap.size 9 1 o 1 (texts [p.text]) ∧ Below w.heap.size w wr ∧ Same (w.heap.size + 1) W1.heap.size W1 wr ∧ W1.heap.size ≤ wr.heap.size) ∨ (i = .int .i64 2 ∧ wr.ownsRow w.heap.size 9 1 o 2 (texts [p.text, q.text]) ∧ Below w.heap.size w wr)) (fun _ i _ => 2 - (intOf i).toNat)
  case atStart => exact .inl ⟨rfl, rfl, HW.out.alloc _, hB0.alloc hB0.size _, (Below.refl _ _).alloc (Nat.le_refl _) _⟩
  case round =>
    rcases hrel with ⟨rfl, rfl, hown, hB, hC⟩ | ⟨rfl, hown, hB, hS, hsz⟩ | ⟨rfl, hown, hB⟩
    · have hcell := fun (o : Nat) => hC.cell (p := ⟨g, o, none⟩) hg2
      have e0 := (hcell 0).trans c0
      have e1 := (hcell 1).trans c1
      have e2 := (hcell 2).trans c2
      have hNr := hN1.below hC (Nat.le_refl _)
      obtain ⟨x0, x1, x2, _⟩ := (Var.new wr k1 s1 ad1 n1 cap1).cells
      have hVb : Below wr.heap.size wr (wr.alloc (.cells #[.int .u8 k1, .string s1, .slice ad1 n1 cap1] 129)) := (Below.refl _ _).alloc (Nat.le_refl _) _
      have hNv := hNr.below hVb hC.size
      have hownv := own_below hown hVb
      have hBv := hB.trans (hVb.mono hB.size)
      go_wp2_with (first
        | (go_at_call 92; refine (text43 p _ _ _ _ _ _ _ _ hNv (Nat.le_trans hC.size hVb.size) hok1 (by omega)).mono ?_; rintro e W3 ⟨rfl, hb3⟩; have hB3 := hBv.trans (hb3.mono hBv.size); have hown3 := own_below hownv hb3)
        | (at_builtin; refine wpList_append_own _ rfl _ _ 74 rfl w.heap.size 9 i0 (.string ⟨#[]⟩) 1 16 Tryz.underlying74 hi hz0 hz1 hz2 rfl (by decide) _ 0 (texts []) rfl (hown3.alloc _) ⟨W3.heap.size, 0, none⟩ 1 1 [.string ⟨p.text.toArray⟩] rfl (by rfl) (cell_one_new _ _ _) (by simp [Value.oneCell']) (by unfold maxLen; omega) (by omega) (by have := hB3.size; simp; omega) ?_; intro v' w1 hown' hgrow _; have hE4 := (hB3.alloc hB3.size _).grown hgrow (by have := hB3.size; simp; omega) (fun i e => (hown3.lt i e).1); have hC3 := (hC.trans (hVb.mono hC.size)).trans (hb3.mono (Nat.le_trans hC.size hVb.size)); have hS4 : Same (w.heap.size + 1) W1.heap.size W1 w1 := (fun b hb1 hb2 => (hgrow.block b (Nat.lt_of_lt_of_le hb2 (hC3.alloc hC3.size _).size) (by show some b ≠ some w.heap.size; intro e; cases e; omega)).trans ((hC3.alloc hC3.size _).block b hb2)); have hsz4 := Nat.le_trans (hC3.alloc hC3.size _).size hgrow.size; clear hgrow))
      go_roundw
      case rel => exact .inr (.inl ⟨rfl, hown', hE4, hS4, hsz4⟩)
      case measure => simp [intOf]
    · have hcell := fun (o : Nat) => cell_same hS hg1' hg2 o
      have hlo : w.heap.size + 1 ≤ (w.alloc (.cells #[] 9)).heap.size := by simp
      have e0 := (hcell 3).trans c3
      have e1 := (hcell 4).trans c4
      have e2 := (hcell 5).trans c5
      have hNr := (hN2.wide hlo (Nat.le_refl _)).same hS
      obtain ⟨x0, x1, x2, _⟩ := (Var.new wr k2 s2 ad2 n2 cap2).cells
      have hVb : Below wr.heap.size wr (wr.alloc (.cells #[.int .u8 k2, .string s2, .slice ad2 n2 cap2] 129)) := (Below.refl _ _).alloc (Nat.le_refl _) _
      have hNv := hNr.below hVb hsz
      have hownv := own_below hown hVb
      have hBv := hB.trans (hVb.mono hB.size)
      go_wp2_with (first
        | (go_at_call 92; refine (text43 q _ _ _ _ _ _ _ _ hNv (Nat.le_trans hsz hVb.size) hok2 (by omega)).mono ?_; rintro e W3 ⟨rfl, hb3⟩; have hB3 := hBv.trans (hb3.mono hBv.size); have hown3 := own_below hownv hb3)
        | (at_builtin; refine wpList_append_own _ rfl _ _ 74 rfl w.heap.size 9 i0 (.string ⟨#[]⟩) 1 16 Tryz.underlying74 hi hz0 hz1 hz2 rfl (by decide) _ 1 (texts [p.text]) rfl (hown3.alloc _) ⟨W3.heap.size, 0, none⟩ 1 1 [.string ⟨q.text.toArray⟩] rfl (by rfl) (cell_one_new _ _ _) (by simp [Value.oneCell']) (by unfold maxLen; omega) (by omega) (by have := hB3.size; simp; omega) ?_; intro v' w1 hown' hgrow _; have hE4 := (hB3.alloc hB3.size _).grown hgrow (by have := hB3.size; simp; omega) (fun i e => (hown3.lt i e).1); clear hgrow))
      go_roundw
      case rel => exact .inr (.inr ⟨rfl, hown', hE4⟩)
      case measure => simp [intOf]
    · go_wp2
      go_ret
      exact ⟨_, rfl, hown, hB⟩

theorem mparts18 (t : ByteArray) (ht : t.size ≤ 9000000) (w : World) :
    Calls Tryz.prog 68 #[.string t] w fun e w' => ∃ v, e = .returned v ∧ w'.ownsRow w.heap.size 9 1 v (partsP t.toList).length (texts (partsP t.toList)) ∧ Below w.heap.size w w' := by
  cases hP : readP t.toList with
  | none =>
    have hp : partsP t.toList = [] := by unfold partsP; rw [hP]
    rw [hp]
    exact mparts_none t ht w hP
  | some nd =>
    cases nd with
    | atom a =>
      have hp : partsP t.toList = [] := by unfold partsP; rw [hP]
      rw [hp]
      exact mparts_atom t ht w hP
    | loop p =>
      have hp : partsP t.toList = [p.text] := by unfold partsP; rw [hP]
      rw [hp]
      exact mparts_loop t ht w hP
    | pair k p q =>
      have hp : partsP t.toList = [p.text, q.text] := by unfold partsP; rw [hP]
      rw [hp]
      exact mparts_pair t ht w hP
end Go.Proofs.YtgdgbjnmibkmhaaGreatDoor

