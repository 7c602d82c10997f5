/- The model's text of a program in memory (three and a half minutes to compile). The model's PartsOf. -/
import Derived.Test.YtgkgkaapjljpcaaDoorQC
import Derived.Test.YtgkgkaapjljpcaaDoorNC
namespace Go.Proofs.YtgkgkaapjljpcaaDoor
open Go.ChangeShapes Go.WideShapes Go.ChangeAt Go.RowKit Go.Shelf
attribute [local go_sem] Oper.semAt_some
set_option maxRecDepth 100000

theorem cat_lists (a b : List UInt8) : (⟨a.toArray⟩ : ByteArray) ++ ⟨b.toArray⟩ = ⟨(a ++ b).toArray⟩ := by
  apply ByteArray.ext
  rw [ByteArray.data_append]
  simp

theorem conv_at (Z : World) (g : Nat) (k : UInt8) (hc : Z.cell? ⟨g, 0, none⟩ = some (.int .u8 (k.toNat : Int))) :
    (convert 22 9 (.slice (some ⟨g, 0, none⟩) 1 1)).run Tryd.prog Z = .ok (.string ⟨#[k]⟩) Z := by
  rw [← one_byte k]
  refine run_convert_bytes_arg _ 22 5 Tryd.underlying22 Tryd.underlying5 g 0 1 1 [(k.toNat : Int)] rfl (fun i hi => ?_) 9 Tryd.underlying9
  match i, hi with
  | 0, _ => exact hc
theorem conv_new (X : World) (k : UInt8) : (convert 22 9 (.slice (some ⟨X.heap.size, 0, none⟩) 1 1)).run Tryd.prog (X.alloc (.cells #[.int .u8 (k.toNat : Int)] 5)) = .ok (.string ⟨#[k]⟩) (X.alloc (.cells #[.int .u8 (k.toNat : Int)] 5)) :=
  conv_at _ _ _ (cellNew X _ 5).1

theorem conv_drew (X : World) (k : UInt8) : (convert 22 9 (.slice (some ⟨X.heap.size, 0, none⟩) 1 1)).run Tryd.prog (X.alloc (.cells #[.int .u8 (k.toNat : Int)] 5)).drew = .ok (.string ⟨#[k]⟩) (X.alloc (.cells #[.int .u8 (k.toNat : Int)] 5)).drew :=
  conv_at _ _ _ (cellNew X _ 5).1

set_option maxHeartbeats 6000000 in
theorem text43 : ∀ (nd : Node) (W : World) (lo hi : Nat) (k : Int) (s : ByteArray) (ad : Option Addr) (n cap : Nat), NodeIs W lo hi nd k s ad n cap → hi ≤ W.heap.size → nd.ok → nd.text.length ≤ 1048576 →
    Calls Tryd.prog 47 #[.agg #[.int .u8 k, .string s, .slice ad n cap]] W fun e w' => e = .returned (.string ⟨nd.text.toArray⟩) ∧ Below W.heap.size W w'
  | .atom a, W, lo, hi, k, s, ad, n, cap, h, hhi, hok, hl => by
    obtain ⟨rfl, rfl, rfl⟩ := h
    obtain ⟨x0, x1, x2, _⟩ := (Var.new W 97 ⟨a.toArray⟩ ad 0 cap).cells
    go_enter Tryd.func47, Tryd.ntmps47
    go_wp2
    go_ret
    exact ⟨rfl, (Below.refl _ _).alloc (Nat.le_refl _) _⟩
  | .loop p, W, lo, hi, k, s, ad, n, cap, h, hhi, hok, hl => by
    obtain ⟨rfl, rfl, rfl, g, rfl, hg1, hg2, k1, s1, ad1, n1, cap1, c0, c1, c2, hp⟩ := h
    have hpl : p.text.length ≤ 1048574 := by simp [Node.text] at hl; omega
    have hA : Below W.heap.size W (W.alloc (.cells #[.int .u8 123, .string ⟨#[]⟩, .slice (some ⟨g, 0, none⟩) 1 cap] 52)) := (Below.refl _ _).alloc (Nat.le_refl _) _
    obtain ⟨x0, x1, x2, _⟩ := (Var.new W 123 ⟨#[]⟩ (some ⟨g, 0, none⟩) 1 cap).cells
    have e0 := (hA.cell (p := ⟨g, 0, none⟩) (Nat.lt_of_lt_of_le hg2 hhi)).trans c0
    have e1 := (hA.cell (p := ⟨g, 1, none⟩) (Nat.lt_of_lt_of_le hg2 hhi)).trans c1
    have e2 := (hA.cell (p := ⟨g, 2, none⟩) (Nat.lt_of_lt_of_le hg2 hhi)).trans c2
    have cat1 : (⟨#[123]⟩ : ByteArray) ++ ⟨p.text.toArray⟩ = ⟨(123 :: p.text).toArray⟩ := cat_lists [123] p.text
    have cat2 : (⟨(123 :: p.text).toArray⟩ : ByteArray) ++ ⟨#[125]⟩ = ⟨(Node.loop p).text.toArray⟩ := cat_lists (123 :: p.text) [125]
    have L1 : 1 + p.text.length ≤ 9223372036854775807 := by omega
    have L2 : p.text.length + 1 + 1 ≤ 9223372036854775807 := by omega
    go_enter Tryd.func47, Tryd.ntmps47
    go_wp2_with fail
    go_at_call 47
    refine (text43 p _ lo hi k1 s1 ad1 n1 cap1 (hp.below hA hhi) (Nat.le_trans hhi hA.size) hok (by omega)).mono ?_
    rintro e W2 ⟨rfl, hb2⟩
    go_wp2
    go_ret
    exact ⟨rfl, hA.trans (hb2.mono hA.size)⟩
  | .pair k0 p q, W, lo, hi, k, s, ad, n, cap, h, hhi, hok, hl => by
    obtain ⟨rfl, rfl, rfl, g, rfl, hg1, hg2, k1, s1, ad1, n1, cap1, k2, s2, ad2, n2, cap2, ⟨c0, c1, c2⟩, ⟨c3, c4, c5⟩, hp, hq⟩ := h
    obtain ⟨hk0, hokp, hokq⟩ := hok
    have hpl : p.text.length + q.text.length ≤ 1048573 := by simp [Node.text] at hl; omega
    have hA : Below W.heap.size W (W.alloc (.cells #[.int .u8 (k0.toNat : Int), .string ⟨#[]⟩, .slice (some ⟨g, 0, none⟩) 2 cap] 52)) := (Below.refl _ _).alloc (Nat.le_refl _) _
    obtain ⟨x0, x1, x2, _⟩ := (Var.new W (k0.toNat : Int) ⟨#[]⟩ (some ⟨g, 0, none⟩) 2 cap).cells
    have gl : g < W.heap.size := Nat.lt_of_lt_of_le hg2 hhi
    have e0 := (hA.cell (p := ⟨g, 0, none⟩) gl).trans c0
    have e1 := (hA.cell (p := ⟨g, 1, none⟩) gl).trans c1
    have e2 := (hA.cell (p := ⟨g, 2, none⟩) gl).trans c2
    have e3 := (hA.cell (p := ⟨g, 3, none⟩) gl).trans c3
    have e4 := (hA.cell (p := ⟨g, 4, none⟩) gl).trans c4
    have e5 := (hA.cell (p := ⟨g, 5, none⟩) gl).trans c5
    have hne : ((k0.toNat : Int) == 123) = false := by rcases hk0 with rfl | rfl <;> decide
    have hne2 : ((k0.toNat : Int) == 97) = false := by rcases hk0 with rfl | rfl <;> decide
    have cat1 : (⟨#[40]⟩ : ByteArray) ++ ⟨p.text.toArray⟩ = ⟨(40 :: p.text).toArray⟩ := cat_lists [40] p.text
    have cat2 : (⟨(40 :: p.text).toArray⟩ : ByteArray) ++ ⟨#[k0]⟩ = ⟨(40 :: p.text ++ [k0]).toArray⟩ := cat_lists (40 :: p.text) [k0]
    have cat3 : (⟨(40 :: p.text ++ [k0]).toArray⟩ : ByteArray) ++ ⟨q.text.toArray⟩ = ⟨(40 :: p.text ++ [k0] ++ q.text).toArray⟩ := cat_lists _ _
    have cat4 : (⟨(40 :: p.text ++ [k0] ++ q.text).toArray⟩ : ByteArray) ++ ⟨#[41]⟩ = ⟨(Node.pair k0 p q).text.toArray⟩ := by
      rw [show (⟨#[41]⟩ : ByteArray) = ⟨([41] : List UInt8).toArray⟩ from rfl, cat_lists]
      simp [Node.text]
    have hfin : (⟨(40 :: (p.text ++ [k0])).toArray⟩ : ByteArray) ++ ⟨q.text.toArray⟩ ++ ⟨#[41]⟩ = ⟨(Node.pair k0 p q).text.toArray⟩ := by
      have h3 := cat3
      have h4 := cat4
      simp only [List.cons_append] at h3 h4
      rw [h3, h4]
    have HF := Lib.hid hfin
    clear hfin
    have hcv := fun X => conv_new X k0
    have hcd := fun X => conv_drew X k0
    have L1 : 1 + p.text.length ≤ 9223372036854775807 := by omega
    have L2 : p.text.length + 1 + 1 ≤ 9223372036854775807 := by omega
    have L3 : p.text.length + 1 + 1 + q.text.length ≤ 9223372036854775807 := by omega
    have L4 : p.text.length + 1 + 1 + q.text.length + 1 ≤ 9223372036854775807 := by omega
    have L5 : p.text.length + (1 + q.text.length) + 1 ≤ 9223372036854775807 := by omega
    have L6 : p.text.length + 1 + (q.text.length + 1) ≤ 9223372036854775807 := by omega
    obtain ⟨V, hV⟩ : ∃ V, V = W.alloc (.cells #[.int .u8 (k0.toNat : Int), .string ⟨#[]⟩, .slice (some ⟨g, 0, none⟩) 2 cap] 52) := ⟨_, rfl⟩
    have hVs : V.heap.size = W.heap.size + 1 := by rw [hV]; simp
    obtain ⟨g0, hg0⟩ : ∃ g0, g0 = W.heap.size := ⟨_, rfl⟩
    have gV : g < V.heap.size := by omega
    have g0V : g0 < V.heap.size := by omega
    have hAV : Below W.heap.size W V := by rw [hV]; exact hA
    have TP : ∀ W0, Below V.heap.size V W0 → Calls Tryd.prog 47 #[.agg #[.int .u8 k1, .string s1, .slice ad1 n1 cap1]] W0 fun e w' => e = .returned (.string ⟨p.text.toArray⟩) ∧ Below V.heap.size V w' ∧ Below W0.heap.size W0 w' := fun W0 hB =>
      (text43 p W0 lo hi k1 s1 ad1 n1 cap1 (hp.below (hAV.trans (hB.mono (by omega))) hhi) (by have := hB.size; omega) hokp (by omega)).mono fun e w' h => ⟨h.1, hB.trans (h.2.mono hB.size), h.2⟩
    have TQ : ∀ W0, Below V.heap.size V W0 → Calls Tryd.prog 47 #[.agg #[.int .u8 k2, .string s2, .slice ad2 n2 cap2]] W0 fun e w' => e = .returned (.string ⟨q.text.toArray⟩) ∧ Below V.heap.size V w' ∧ Below W0.heap.size W0 w' := fun W0 hB =>
      (text43 q W0 lo hi k2 s2 ad2 n2 cap2 (hq.below (hAV.trans (hB.mono (by omega))) hhi) (by have := hB.size; omega) hokq (by omega)).mono fun e w' h => ⟨h.1, hB.trans (h.2.mono hB.size), h.2⟩
    have hBd : Below V.heap.size V V.drew := (Below.refl _ _).drew
    go_enter Tryd.func47, Tryd.ntmps47
    go_wp2_with fail
    rw [← hV, ← hg0]
    rw [← hV] at x0 x2 e0 e1 e2 e3 e4 e5
    rw [← hg0] at x0 x2
    have HV := Lib.hid hV
    have HG := Lib.hid hg0
    have HAV := Lib.hid hAV
    have HVs := Lib.hid hVs
    clear hV hg0 hA hAV hVs
    go_region_held (fun w' => w'.cell? ⟨g0, 0, none⟩ = some (.int .u8 (k0.toNat : Int)) ∧ w'.cell? ⟨g0, 2, none⟩ = some (.slice (some ⟨g, 0, none⟩) 2 cap) ∧ w'.cell? ⟨g, 0, none⟩ = some (.int .u8 k1) ∧ w'.cell? ⟨g, 1, none⟩ = some (.string s1) ∧ w'.cell? ⟨g, 2, none⟩ = some (.slice ad1 n1 cap1) ∧ w'.cell? ⟨g, 3, none⟩ = some (.int .u8 k2) ∧ w'.cell? ⟨g, 4, none⟩ = some (.string s2) ∧ w'.cell? ⟨g, 5, none⟩ = some (.slice ad2 n2 cap2))
      (first | exact ⟨x0, x2, e0, e1, e2, e3, e4, e5⟩ | exact ⟨(hB3.cell (p := ⟨g0, 0, none⟩) g0V).trans x0, (hB3.cell (p := ⟨g0, 2, none⟩) g0V).trans x2, (hB3.cell (p := ⟨g, 0, none⟩) gV).trans e0, (hB3.cell (p := ⟨g, 1, none⟩) gV).trans e1, (hB3.cell (p := ⟨g, 2, none⟩) gV).trans e2, (hB3.cell (p := ⟨g, 3, none⟩) gV).trans e3, (hB3.cell (p := ⟨g, 4, none⟩) gV).trans e4, (hB3.cell (p := ⟨g, 5, none⟩) gV).trans e5⟩ | exact ⟨(hB2.cell (p := ⟨g0, 0, none⟩) g0V).trans x0, (hB2.cell (p := ⟨g0, 2, none⟩) g0V).trans x2, (hB2.cell (p := ⟨g, 0, none⟩) gV).trans e0, (hB2.cell (p := ⟨g, 1, none⟩) gV).trans e1, (hB2.cell (p := ⟨g, 2, none⟩) gV).trans e2, (hB2.cell (p := ⟨g, 3, none⟩) gV).trans e3, (hB2.cell (p := ⟨g, 4, none⟩) gV).trans e4, (hB2.cell (p := ⟨g, 5, none⟩) gV).trans e5⟩ | go_keep)
      (first
        | (go_at_call_of 47 (Value.agg #[Value.int IntKind.u8 k1, Value.string s1, Value.slice ad1 n1 cap1]); refine (TP _ ?_).mono ?_; (first | exact hBd | exact hBd.alloc hBd.size _); rintro e W2 ⟨rfl, hB2, hbb⟩
           (first
            | (have hlt2 : V.heap.size < W2.heap.size := Nat.lt_of_lt_of_le (by simp) hbb.size
               have hce : W2.cell? ⟨V.heap.size, 0, none⟩ = some (.int .u8 (k0.toNat : Int)) := (hbb.cell (p := ⟨V.heap.size, 0, none⟩) (by simp)).trans (cellNew V.drew (.int .u8 (k0.toNat : Int)) 5).1
               have hcc := conv_at W2 V.heap.size k0 hce)
            | skip))
        | (go_at_call_of 47 (Value.agg #[Value.int IntKind.u8 k2, Value.string s2, Value.slice ad2 n2 cap2]); refine (TQ _ ?_).mono ?_; (first | exact hB2 | exact hB2.alloc hB2.size _); rintro e W3 ⟨rfl, hB3, hbb3⟩
           (first
            | (have hcc3 := conv_at W3 V.heap.size k0 ((hbb3.cell (p := ⟨V.heap.size, 0, none⟩) hlt2).trans hce))
            | (have hcc3 := conv_at W3 W2.heap.size k0 ((hbb3.cell (p := ⟨W2.heap.size, 0, none⟩) (by simp)).trans (cellNew W2 (.int .u8 (k0.toNat : Int)) 5).1))
            | skip)))
    all_goals go_wp2_with fail
    all_goals
      go_ret
      have hE : Below W.heap.size W W3 := HAV.out.trans (hB3.mono HAV.out.size)
      first
        | exact ⟨congrArg (fun z => Ending.returned (Value.string z)) HF.out, hE⟩
        | exact ⟨congrArg (fun z => Ending.returned (Value.string z)) HF.out, hE.alloc hE.size _⟩
        | exact ⟨rfl, hE⟩
        | exact ⟨rfl, hE.alloc hE.size _⟩
end Go.Proofs.YtgkgkaapjljpcaaDoor

namespace Go.Proofs.YtgkgkaapjljpcaaDoor
open Go.ChangeShapes Go.WideShapes Go.ChangeAt Go.RowKit Go.Shelf
attribute [local go_sem] Oper.semAt_some
set_option maxRecDepth 100000

theorem own_empty (w : World) : (w.alloc (.cells #[] 9)).ownsRow w.heap.size 9 1 (.slice (some ⟨w.heap.size, 0, none⟩) 0 0) 0 (texts []) :=
  ⟨by simp [texts], .inr ⟨w.heap.size, 0, #[], rfl, Nat.le_refl _, heap_alloc_new w _, Nat.le_refl _, Nat.zero_le _, rfl, rfl⟩⟩





end Go.Proofs.YtgkgkaapjljpcaaDoor

