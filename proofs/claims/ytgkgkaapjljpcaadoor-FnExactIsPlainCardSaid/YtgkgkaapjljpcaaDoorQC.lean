/- The model's programs in memory: how many loops, how many programs. The model's programs in memory: how many programs. The model's reading of a whole text: a program, or none. The model's answers on one text: is it a program, its kind, its size, its loops. The model's maker of programs: a program that is made of programs. The model's LoopOf, SequenceOf, ChoiceOf. The model's IfOf. -/
import Derived.Test.YtgkgkaapjljpcaaDoorQA
import Derived.Test.YtgkgkaapjljpcaaDoorQB
import Derived.Test.YtgkgkaapjljpcaaDoorA2
import Derived.Laws.BytesArg
namespace Go.Proofs.YtgkgkaapjljpcaaDoor
open Go.ChangeShapes Go.WideShapes Go.ChangeAt Go.RowKit Go.Shelf
attribute [local go_sem] Oper.semAt_some
set_option maxRecDepth 100000

theorem NodeIs.kind {W : World} {lo hi : Nat} {nd : Node} {k : Int} {s : ByteArray} {ad : Option Addr} {n cap : Nat} (h : NodeIs W lo hi nd k s ad n cap) : 0 ≤ k ∧ k ≤ 255 := by
  cases nd with
  | atom a => obtain ⟨rfl, _⟩ := h; omega
  | loop p => obtain ⟨rfl, _⟩ := h; omega
  | pair k0 p q => obtain ⟨rfl, _⟩ := h; have := k0.toNat_lt; omega
theorem NodeIs.below {W W' : World} {lo hi : Nat} {nd : Node} {k : Int} {s : ByteArray} {ad : Option Addr} {n cap : Nat} (h : NodeIs W lo hi nd k s ad n cap) (hb : Below W.heap.size W W') (hhi : hi ≤ W.heap.size) : NodeIs W' lo hi nd k s ad n cap :=
  h.same (fun b _ h2 => hb.block b (Nat.lt_of_lt_of_le h2 hhi))

theorem Var.stay {W W' : World} {g : Nat} {k : Int} {s : ByteArray} {ad : Option Addr} {m cap : Nat} (h : Var W g k s ad m cap) (hb : Below (g + 1) W W') : Var W' g k s ad m cap := by
  unfold Var at *
  rw [hb.block g (Nat.lt_succ_self _)]
  exact h

set_option maxHeartbeats 2000000 in
theorem loops47 : ∀ (nd : Node) (W : World) (lo hi : Nat) (k : Int) (s : ByteArray) (ad : Option Addr) (n cap : Nat), NodeIs W lo hi nd k s ad n cap → hi ≤ W.heap.size → nd.ok → nd.loops ≤ 9000000 →
    Calls Tryd.prog 61 #[.agg #[.int .u8 k, .string s, .slice ad n cap]] W fun e w' => e = .returned (.int .i64 (nd.loops : Int)) ∧ Below W.heap.size W w'
  | .atom a, W, lo, hi, k, s, ad, n, cap, h, hhi, hok, hl => by
    obtain ⟨rfl, rfl, rfl⟩ := h
    have hA : Below W.heap.size W (W.alloc (.cells #[.int .u8 97, .string ⟨a.toArray⟩, .slice ad 0 cap] 52)) := (Below.refl _ _).alloc (Nat.le_refl _) _
    obtain ⟨x0, x1, x2, _⟩ := (Var.new W 97 ⟨a.toArray⟩ ad 0 cap).cells
    go_enter Tryd.func61, Tryd.ntmps61
    go_wp2_with fail
    go_loopw [3, 9] (fun o i wr => o = .int .i64 0 ∧ i = .int .i64 0 ∧ wr = W.alloc (.cells #[.int .u8 97, .string ⟨a.toArray⟩, .slice ad 0 cap] 52)) (fun _ _ _ => 0)
    case atStart => exact ⟨rfl, rfl, rfl⟩
    case round =>
      obtain ⟨rfl, rfl, rfl⟩ := hrel
      go_wp2
      go_ret
      exact ⟨rfl, hA⟩
  | .loop p, W, lo, hi, k, s, ad, n, cap, h, hhi, hok, hl => by
    obtain ⟨rfl, rfl, rfl, g, rfl, hg1, hg2, k1, s1, ad1, n1, cap1, c0, c1, c2, hp⟩ := h
    have hpl : p.loops ≤ 8999999 := by simp [Node.loops] at hl; omega
    have hpl1 : (p.loops : Int) ≤ 8999999 := by omega
    have hA : Below W.heap.size W (W.alloc (.cells #[.int .u8 123, .string ⟨#[]⟩, .slice (some ⟨g, 0, none⟩) 1 cap] 52)) := (Below.refl _ _).alloc (Nat.le_refl _) _
    have hv := Var.new W 123 ⟨#[]⟩ (some ⟨g, 0, none⟩) 1 cap
    go_enter Tryd.func61, Tryd.ntmps61
    obtain ⟨x0, x1, x2, _⟩ := hv.cells
    go_wp2_with fail
    clear x0 x1 x2
    go_loopw [3, 9] (fun o i wr => ((o = .int .i64 0 ∧ i = .int .i64 0) ∨ (o = .int .i64 (p.loops : Int) ∧ i = .int .i64 1)) ∧ Below (W.heap.size + 1) (W.alloc (.cells #[.int .u8 123, .string ⟨#[]⟩, .slice (some ⟨g, 0, none⟩) 1 cap] 52)) wr) (fun _ i _ => 1 - (intOf i).toNat)
    case atStart => exact ⟨.inl ⟨rfl, rfl⟩, Below.refl _ _⟩
    case round =>
      obtain ⟨hor, hB⟩ := hrel
      rcases hor with ⟨rfl, rfl⟩ | ⟨rfl, rfl⟩
      · have hBW : Below W.heap.size W wr := hA.trans (hB.mono (Nat.le_succ _))
        have e0 := (hBW.cell (p := ⟨g, 0, none⟩) (Nat.lt_of_lt_of_le hg2 hhi)).trans c0
        have e1 := (hBW.cell (p := ⟨g, 1, none⟩) (Nat.lt_of_lt_of_le hg2 hhi)).trans c1
        have e2 := (hBW.cell (p := ⟨g, 2, none⟩) (Nat.lt_of_lt_of_le hg2 hhi)).trans c2
        have hpw := hp.below hBW hhi
        go_wp2_with fail
        go_at_call 61
        refine (loops47 p _ lo hi k1 s1 ad1 n1 cap1 (hpw.below ((Below.refl _ _).alloc (Nat.le_refl _) _) (Nat.le_trans hhi hBW.size)) (by have := hBW.size; simp; omega) hok (by omega)).mono ?_
        rintro e W2 ⟨rfl, hb2⟩
        have hB2 : Below (W.heap.size + 1) (W.alloc (.cells #[.int .u8 123, .string ⟨#[]⟩, .slice (some ⟨g, 0, none⟩) 1 cap] 52)) W2 := by
          have s1 := hB.size
          rw [World.size_alloc] at s1
          exact (hB.alloc s1 _).trans (hb2.mono (by simp; omega))
        go_wp2_with fail
        go_roundw
        case rel => exact ⟨.inr ⟨by congr 1; split <;> omega, rfl⟩, hB2⟩
        case measure => simp [intOf]
      · obtain ⟨y0, y1, y2, _⟩ := (hv.stay hB).cells
        go_wp2
        go_ret
        exact ⟨rfl, hA.trans (hB.mono (Nat.le_succ _))⟩
  | .pair k0 p q, W, lo, hi, k, s, ad, n, cap, h, hhi, hok, hl => by
    obtain ⟨rfl, rfl, rfl, g, rfl, hg1, hg2, k1, s1, ad1, n1, cap1, k2, s2, ad2, n2, cap2, ⟨c0, c1, c2⟩, ⟨c3, c4, c5⟩, hp, hq⟩ := h
    obtain ⟨hk0, hokp, hokq⟩ := hok
    have hpl : p.loops ≤ 9000000 ∧ q.loops ≤ 9000000 := by simp [Node.loops] at hl; omega
    have hpl1 : (p.loops : Int) ≤ 9000000 := by omega
    have hql1 : (q.loops : Int) ≤ 9000000 := by omega
    have hA : Below W.heap.size W (W.alloc (.cells #[.int .u8 (k0.toNat : Int), .string ⟨#[]⟩, .slice (some ⟨g, 0, none⟩) 2 cap] 52)) := (Below.refl _ _).alloc (Nat.le_refl _) _
    have hv := Var.new W (k0.toNat : Int) ⟨#[]⟩ (some ⟨g, 0, none⟩) 2 cap
    have hne : ((k0.toNat : Int) == 123) = false := by rcases hk0 with rfl | rfl <;> decide
    go_enter Tryd.func61, Tryd.ntmps61
    obtain ⟨x0, x1, x2, _⟩ := hv.cells
    go_wp2_with fail
    clear x0 x1 x2
    go_loopw [3, 9] (fun o i wr => ((o = .int .i64 0 ∧ i = .int .i64 0) ∨ (o = .int .i64 (p.loops : Int) ∧ i = .int .i64 1) ∨ (o = .int .i64 ((max p.loops q.loops : Nat) : Int) ∧ i = .int .i64 2)) ∧ Below (W.heap.size + 1) (W.alloc (.cells #[.int .u8 (k0.toNat : Int), .string ⟨#[]⟩, .slice (some ⟨g, 0, none⟩) 2 cap] 52)) wr) (fun _ i _ => 2 - (intOf i).toNat)
    case atStart => exact ⟨.inl ⟨rfl, rfl⟩, Below.refl _ _⟩
    case round =>
      obtain ⟨hor, hB⟩ := hrel
      have hBW : Below W.heap.size W wr := hA.trans (hB.mono (Nat.le_succ _))
      rcases hor with ⟨rfl, rfl⟩ | ⟨rfl, rfl⟩ | ⟨rfl, rfl⟩
      · have e0 := (hBW.cell (p := ⟨g, 0, none⟩) (Nat.lt_of_lt_of_le hg2 hhi)).trans c0
        have e1 := (hBW.cell (p := ⟨g, 1, none⟩) (Nat.lt_of_lt_of_le hg2 hhi)).trans c1
        have e2 := (hBW.cell (p := ⟨g, 2, none⟩) (Nat.lt_of_lt_of_le hg2 hhi)).trans c2
        have hpw := hp.below hBW hhi
        go_wp2_with fail
        go_at_call 61
        refine (loops47 p _ lo hi k1 s1 ad1 n1 cap1 (hpw.below ((Below.refl _ _).alloc (Nat.le_refl _) _) (Nat.le_trans hhi hBW.size)) (by have := hBW.size; simp; omega) hokp hpl.1).mono ?_
        rintro e W2 ⟨rfl, hb2⟩
        have hB2 : Below (W.heap.size + 1) (W.alloc (.cells #[.int .u8 (k0.toNat : Int), .string ⟨#[]⟩, .slice (some ⟨g, 0, none⟩) 2 cap] 52)) W2 := by
          have s1 := hB.size
          rw [World.size_alloc] at s1
          exact (hB.alloc s1 _).trans (hb2.mono (by simp; omega))
        go_wp2_with fail
        go_roundw
        case rel => exact ⟨.inr (.inl ⟨by congr 1; split <;> omega, rfl⟩), hB2⟩
        case measure => simp [intOf]
      · have e0 := (hBW.cell (p := ⟨g, 3, none⟩) (Nat.lt_of_lt_of_le hg2 hhi)).trans c3
        have e1 := (hBW.cell (p := ⟨g, 4, none⟩) (Nat.lt_of_lt_of_le hg2 hhi)).trans c4
        have e2 := (hBW.cell (p := ⟨g, 5, none⟩) (Nat.lt_of_lt_of_le hg2 hhi)).trans c5
        have hqw := hq.below hBW hhi
        go_wp2_with fail
        go_at_call 61
        refine (loops47 q _ lo hi k2 s2 ad2 n2 cap2 (hqw.below ((Below.refl _ _).alloc (Nat.le_refl _) _) (Nat.le_trans hhi hBW.size)) (by have := hBW.size; simp; omega) hokq hpl.2).mono ?_
        rintro e W2 ⟨rfl, hb2⟩
        have hB2 : Below (W.heap.size + 1) (W.alloc (.cells #[.int .u8 (k0.toNat : Int), .string ⟨#[]⟩, .slice (some ⟨g, 0, none⟩) 2 cap] 52)) W2 := by
          have s1 := hB.size
          rw [World.size_alloc] at s1
          exact (hB.alloc s1 _).trans (hb2.mono (by simp; omega))
        go_wp2_with fail
        go_roundw
        case rel => exact ⟨.inr (.inr ⟨by congr 1; split <;> omega, rfl⟩), hB2⟩
        case measure => simp [intOf]
      · obtain ⟨y0, y1, y2, _⟩ := (hv.stay hB).cells
        go_wp2
        go_ret
        exact ⟨rfl, hBW⟩
end Go.Proofs.YtgkgkaapjljpcaaDoor

namespace Go.Proofs.YtgkgkaapjljpcaaDoor
open Go.ChangeShapes Go.WideShapes Go.ChangeAt Go.RowKit Go.Shelf
attribute [local go_sem] Oper.semAt_some
set_option maxRecDepth 100000

end Go.Proofs.YtgkgkaapjljpcaaDoor

namespace Go.Proofs.YtgkgkaapjljpcaaDoor
open Go.ChangeShapes Go.WideShapes Go.ChangeAt Go.RowKit Go.Shelf
attribute [local go_sem] Oper.semAt_some
set_option maxRecDepth 100000

theorem loops_le : ∀ nd : Node, nd.loops ≤ nd.text.length
  | .atom _ => Nat.zero_le _
  | .loop p => by have := loops_le p; simp [Node.loops, Node.text]; omega
  | .pair k p q => by have := loops_le p; have := loops_le q; simp [Node.loops, Node.text]; omega
theorem size_le_text : ∀ nd : Node, nd.ok → nd.size ≤ nd.text.length
  | .atom a, h => by have := text_pos (.atom a) h; simp [Node.size]; omega
  | .loop p, h => by have := size_le_text p h; simp [Node.size, Node.text]; omega
  | .pair k p q, h => by have := size_le_text p h.2.1; have := size_le_text q h.2.2; simp [Node.size, Node.text]; omega

theorem ret_read {Z : World} {a : Act} {k : Int} {s : ByteArray} {ad : Option Addr} {m cap g : Nat} {b : Bool} {R : Ending → World → Prop} (hv : Var Z g k s ad m cap) (ha : a.tmps[2]?.getD undef = .pointer (some ⟨g, 0, none⟩)) (hb : a.tmps[3]?.getD undef = .bool b) (hdf : a.defers = [])
    (h : R (.returned (.tuple #[.agg #[.int .u8 k, .string s, .slice ad m cap], .bool b])) Z) : bodyPost Tryd.prog Tryd.f42 R Exit.ret a Z := by
  obtain ⟨c0, c1, c2, _⟩ := hv.cells
  refine bodyPost_ret (v := .tuple #[.agg #[.int .u8 k, .string s, .slice ad m cap], .bool b]) ?_ hdf h
  simp [results, Tryd.results42, go_sem, ha, hb, c0, c1, c2]

/-- What reading a whole text leaves. -/
def Whole (t : ByteArray) (W : World) (e : Ending) (W' : World) : Prop := Below W.heap.size W W' ∧
  match readP t.toList with
  | some nd => ∃ k s ad m cap, e = .returned (.tuple #[.agg #[.int .u8 k, .string s, .slice ad m cap], .bool true]) ∧ NodeIs W' W.heap.size W'.heap.size nd k s ad m cap
  | none => e = .returned (.tuple #[.agg #[.int .u8 0, .string ⟨#[]⟩, .slice none 0 0], .bool false])

theorem below_of {W Z : World} {rb : Nat} (h : W.grownBy Z (some rb)) (hrb : W.heap.size ≤ rb) : Below W.heap.size W Z :=
  (Below.refl _ _).grown h (Nat.le_refl _) (fun j e => by cases e; exact hrb)

theorem whole_none {t : ByteArray} {W Z : World} (h : readP t.toList = none) (hB : Below W.heap.size W Z) : Whole t W (.returned (.tuple #[.agg #[.int .u8 0, .string ⟨#[]⟩, .slice none 0 0], .bool false])) Z := by
  refine ⟨hB, ?_⟩
  rw [h]
theorem whole_some {t : ByteArray} {W Z : World} {nd : Node} {k : Int} {s : ByteArray} {ad : Option Addr} {m cap : Nat} (h : readP t.toList = some nd) (hB : Below W.heap.size W Z) (hN : NodeIs Z W.heap.size Z.heap.size nd k s ad m cap) :
    Whole t W (.returned (.tuple #[.agg #[.int .u8 k, .string s, .slice ad m cap], .bool true])) Z := by
  refine ⟨hB, ?_⟩
  rw [h]
  exact ⟨k, s, ad, m, cap, rfl, hN⟩

set_option maxHeartbeats 4000000 in
theorem read42 (t : ByteArray) (ht : t.size ≤ 9000000) (W : World) : Calls Tryd.prog 42 #[.string t] W (Whole t W) := by
  have hlen : t.toList.length = t.size := by rw [Lib.toList_data, Array.length_toList]; rfl
  have ht1 : (t.size : Int) ≤ 9000000 := by omega
  have hd0 : t.toList.drop 0 = t.toList := rfl
  obtain ⟨rb, hrb⟩ : ∃ rb, rb = W.heap.size + 1 := ⟨_, rfl⟩
  obtain ⟨WB, hWB⟩ : ∃ WB, WB = (W.alloc (.cells #[.int .u8 0, .string ⟨#[]⟩, .slice none 0 0] 52)).alloc (.cells #[.string t, .int .i64 0, .bool false] 93) := ⟨_, rfl⟩
  have hr : Rdr WB rb t 0 false := by
    rw [hWB, hrb]
    have := heap_alloc_new (W.alloc (.cells #[.int .u8 0, .string ⟨#[]⟩, .slice none 0 0] 52)) (.cells #[.string t, .int .i64 0, .bool false] 93)
    rw [World.size_alloc] at this
    exact this
  have hv : Var WB W.heap.size 0 ⟨#[]⟩ none 0 0 := by
    rw [hWB]
    exact (Var.new W 0 ⟨#[]⟩ none 0 0).grown (World.grownBy_alloc _ _ none) (by simp)
  have hGB : W.grownBy WB (some rb) := by rw [hWB]; exact grown_alloc (World.grownBy_alloc W _ _) _
  have hsB : WB.heap.size = W.heap.size + 2 := by rw [hWB]; simp
  have hrbW : W.heap.size ≤ rb := by omega
  go_enter Tryd.func42, Tryd.ntmps42
  go_wp2_with fail
  rw [← hWB, ← hrb]
  go_at_call 60
  refine (part_read t rb t.size 0 (reads_all t ht rb t.size) WB (Nat.zero_le _) (by rw [hd0, hlen]; exact Nat.le_refl _) hr).mono ?_
  rintro e W2 ⟨k, s, ad, m, cap, rfl, hg2, hm⟩
  rw [hd0] at hm
  have s2 := hg2.size
  have hv2 := hv.grown hg2 (by simp; omega)
  have hG2 := grown_trans2 hGB hg2
  have hA := World.grownBy_alloc W2 (.cells #[.int .u8 k, .string s, .slice ad m cap] 52) none
  have hv3 := hv2.grown hA (by simp)
  have hy3 := Var.new W2 k s ad m cap
  have hG3 := grown_alloc hG2 (.cells #[.int .u8 k, .string s, .slice ad m cap] 52)
  obtain ⟨x0, x1, x2, z0, z1, z2⟩ := hv3.cells
  obtain ⟨p0, p1, p2, _⟩ := hy3.cells
  have hWh : Below W.heap.size W (set3 (W2.alloc (.cells #[.int .u8 k, .string s, .slice ad m cap] 52)) W.heap.size 0 ⟨#[]⟩ none 0 0) := below_of (set3_grown hG3 (Nat.le_refl _) _ _ _ _ _) (by omega)
  cases hrn : rd t.size t.toList with
  | none =>
    have hP : readP t.toList = none := by unfold readP; rw [hlen, hrn]
    rw [hrn] at hm
    obtain ⟨j, hj, hr2⟩ := hm
    have hr3 := hr2.grown hA (by simp)
    obtain ⟨d0, d1, d2, k1, k2⟩ := hr3.cells
    have HP := Lib.hid hP
    clear hWB hrb
    go_wp2_with fail
    exact ret_read (set3_var hv3 _ _ _ _ _) rfl rfl rfl (whole_none HP.out hWh)
  | some x =>
    obtain ⟨nd, r⟩ := x
    obtain ⟨htx, hok⟩ := rd_text _ _ _ _ hrn
    rw [hrn] at hm
    obtain ⟨j, hj, hjd, hr2, hnd⟩ := hm
    have hr3 := hr2.grown hA (by simp)
    obtain ⟨d0, d1, d2, k1, k2⟩ := hr3.cells
    cases r with
    | cons e r' =>
      have hP : readP t.toList = none := by unfold readP; rw [hlen, hrn]
      have HP := Lib.hid hP
      obtain ⟨_, hj2, _⟩ := ext_cons hjd
      have hne : ((j : Int) != (t.size : Int)) = true := by simp; omega
      have hne2 : ((j : Int) == (t.size : Int)) = false := by simp; omega
      clear hWB hrb hP
      go_wp2_with fail
      exact ret_read (set3_var hv3 _ _ _ _ _) rfl rfl rfl (whole_none HP.out hWh)
    | nil =>
      have hjs : j = t.size := by have := List.drop_eq_nil_iff.1 hjd; omega
      subst hjs
      by_cases h60 : t.size ≤ 60
      · have h60i : (t.size : Int) ≤ 60 := by omega
        have hll := loops_le nd
        have htl : t.toList.length = nd.text.length := by rw [htx]; simp
        have hl1 : nd.loops ≤ 9000000 := by omega
        have hbA : Below W2.heap.size W2 (W2.alloc (.cells #[.int .u8 k, .string s, .slice ad m cap] 52)) := (Below.refl _ _).alloc (Nat.le_refl _) _
        have hndA := hnd.below hbA (Nat.le_refl _)
        by_cases h6 : nd.loops ≤ 6
        · have h6i : (nd.loops : Int) ≤ 6 := by omega
          have hP : readP t.toList = some nd := by unfold readP; rw [hlen, hrn]; dsimp only; rw [if_pos ⟨h60, h6⟩]
          have HP := Lib.hid hP
          clear hWB hrb hP
          go_wp2_with fail
          go_at_call 61
          refine (loops47 nd _ _ _ k s ad m cap hndA (by rw [World.size_alloc]; omega) hok hl1).mono ?_
          rintro e W4 ⟨rfl, hb4⟩
          have hv4 := hv3.grown (below_grown hb4 none) (by simp)
          have hy4 := hy3.grown (below_grown hb4 none) (by simp)
          have hG4 := grown_trans2 hG3 (below_grown hb4 (some rb))
          have hnd4 := hndA.below hb4 (by rw [World.size_alloc]; omega)
          obtain ⟨x0, x1, x2, z0, z1, z2⟩ := hv4.cells
          obtain ⟨p0, p1, p2, _⟩ := hy4.cells
          have s4 := hb4.size
          rw [World.size_alloc] at s4
          go_wp2_with fail
          have hszZ := set3_size W4 W.heap.size k s ad m cap
          have hndZ := ((hnd4.same (fun b hb1 hb2 => set3_block (g := W.heap.size) (U := W4) (by omega) k s ad m cap)).wide (lo' := W.heap.size) (hi' := (set3 W4 W.heap.size k s ad m cap).heap.size) (by omega) (by omega))
          exact ret_read (set3_var hv4 _ _ _ _ _) rfl rfl rfl (whole_some HP.out (below_of (set3_grown hG4 (Nat.le_refl _) _ _ _ _ _) (by omega)) hndZ)
        · have h6i : (6 : Int) < (nd.loops : Int) := by omega
          have hP : readP t.toList = none := by unfold readP; rw [hlen, hrn]; dsimp only; rw [if_neg (fun h => h6 h.2)]
          have HP := Lib.hid hP
          clear hWB hrb hP
          go_wp2_with fail
          go_at_call 61
          refine (loops47 nd _ _ _ k s ad m cap hndA (by rw [World.size_alloc]; omega) hok hl1).mono ?_
          rintro e W4 ⟨rfl, hb4⟩
          have hv4 := hv3.grown (below_grown hb4 none) (by simp)
          have hG4 := grown_trans2 hG3 (below_grown hb4 (some rb))
          obtain ⟨x0, x1, x2, z0, z1, z2⟩ := hv4.cells
          go_wp2_with fail
          exact ret_read (set3_var hv4 _ _ _ _ _) rfl rfl rfl (whole_none HP.out (below_of (set3_grown hG4 (Nat.le_refl _) _ _ _ _ _) (by omega)))
      · have h60i : (60 : Int) < (t.size : Int) := by omega
        have hP : readP t.toList = none := by unfold readP; rw [hlen, hrn]; dsimp only; rw [if_neg (fun h => h60 h.1)]
        have HP := Lib.hid hP
        clear hWB hrb hP
        go_wp2_with fail
        exact ret_read (set3_var hv3 _ _ _ _ _) rfl rfl rfl (whole_none HP.out hWh)
end Go.Proofs.YtgkgkaapjljpcaaDoor

namespace Go.Proofs.YtgkgkaapjljpcaaDoor
open Go.ChangeShapes Go.WideShapes Go.ChangeAt Go.RowKit Go.Shelf
attribute [local go_sem] Oper.semAt_some
set_option maxRecDepth 100000

theorem valid21 (t : ByteArray) (ht : t.size ≤ 9000000) (W : World) :
    Calls Tryd.prog 84 #[.string t] W fun e W' => e = .returned (.bool (isP t.toList)) ∧ Below W.heap.size W W' := by
  cases hP : readP t.toList with
  | none =>
    have HP := Lib.hid hP
    have hi : isP t.toList = false := by unfold isP; rw [hP]; rfl
    rw [hi]
    clear hP hi
    go_enter Tryd.func84, Tryd.ntmps84
    go_wp2_with (go_at_call 42; refine (read42 t ht _).mono ?_; rintro e W1 ⟨hb, hm⟩; rw [HP.out] at hm; obtain rfl := hm)
    go_ret
    exact ⟨rfl, hb.alloc hb.size _⟩
  | some nd =>
    have HP := Lib.hid hP
    have hi : isP t.toList = true := by unfold isP; rw [hP]; rfl
    rw [hi]
    clear hP hi
    go_enter Tryd.func84, Tryd.ntmps84
    go_wp2_with (go_at_call 42; refine (read42 t ht _).mono ?_; rintro e W1 ⟨hb, hm⟩; rw [HP.out] at hm; obtain ⟨k, s, ad, m, cap, rfl, hN⟩ := hm)
    go_ret
    exact ⟨rfl, hb.alloc hb.size _⟩



theorem conv_one (X : World) (p : Int) (g : Nat) (hg : g = X.heap.size) :
    (convert 22 9 (.slice (some ⟨g, 0, none⟩) 1 1)).run Tryd.prog (X.alloc (.cells #[.int .u8 p] 5)) = .ok (.string (strOfNums [p])) (X.alloc (.cells #[.int .u8 p] 5)) := by
  subst hg
  refine run_convert_bytes_arg _ 22 5 Tryd.underlying22 Tryd.underlying5 X.heap.size 0 1 1 [p] rfl (fun i hi => ?_) 9 Tryd.underlying9
  match i, hi with
  | 0, _ => simp
theorem one_byte (k : UInt8) : strOfNums [(k.toNat : Int)] = ⟨#[k]⟩ := by
  unfold strOfNums
  simp

end Go.Proofs.YtgkgkaapjljpcaaDoor

namespace Go.Proofs.YtgkgkaapjljpcaaDoor
open Go.ChangeShapes Go.WideShapes Go.ChangeAt Go.RowKit Go.Shelf
attribute [local go_sem] Oper.semAt_some
set_option maxRecDepth 100000

/-- All parts are programs, and the whole is one. -/
def madeOk (out : ByteArray) (ts : List ByteArray) : Bool := (ts.all fun t => isP t.toList) && isP out.toList
/-- What the maker answers. -/
def madeV (out : ByteArray) (ts : List ByteArray) : Value :=
  .tuple #[.string (if madeOk out ts then out else ⟨#[]⟩), .bool (madeOk out ts)]

theorem made_miss {out : ByteArray} {ts : List ByteArray} {k : Nat} {p : ByteArray} (hp : ts[k]? = some p) (h : isP p.toList = false) : madeOk out ts = false := by
  have hall : (ts.all fun t => isP t.toList) = false := by
    rw [List.all_eq_false]
    exact ⟨p, List.mem_of_getElem? hp, by rw [h]; simp⟩
  unfold madeOk
  rw [hall]; rfl

theorem made_hit {ts : List ByteArray} {k : Nat} {p : ByteArray} (hp : ts[k]? = some p) (h : isP p.toList = true) (ha : ((ts.take k).all fun t => isP t.toList) = true) : ((ts.take (k + 1)).all fun t => isP t.toList) = true := by
  rw [List.take_add_one, hp, List.all_append, ha]
  simp [h]

end Go.Proofs.YtgkgkaapjljpcaaDoor

namespace Go.Proofs.YtgkgkaapjljpcaaDoor
open Go.ChangeShapes Go.WideShapes Go.ChangeAt Go.RowKit Go.Shelf
attribute [local go_sem] Oper.semAt_some
set_option maxRecDepth 100000



theorem madeV_tuple (out : ByteArray) (ts : List ByteArray) : ∃ s b, madeV out ts = .tuple #[.string s, .bool b] := ⟨_, _, rfl⟩

/-- The whole of a loop, and of a pair. -/
def loopTx (p : ByteArray) : ByteArray := ⟨#[123]⟩ ++ p ++ ⟨#[125]⟩
def pairTx (sign : UInt8) (p q : ByteArray) : ByteArray := ⟨#[40]⟩ ++ p ++ ⟨#[sign]⟩ ++ q ++ ⟨#[41]⟩



end Go.Proofs.YtgkgkaapjljpcaaDoor

namespace Go.Proofs.YtgkgkaapjljpcaaDoor
open Go.ChangeShapes Go.WideShapes Go.ChangeAt Go.RowKit Go.Shelf
attribute [local go_sem] Oper.semAt_some
set_option maxRecDepth 100000

/-- The whole of a choice by a test and its opposite. -/
def ifTx (t o p q : ByteArray) : ByteArray := ⟨#[40, 40, 91]⟩ ++ t ++ ⟨#[93, 59]⟩ ++ p ++ ⟨#[41, 124, 40, 91]⟩ ++ o ++ ⟨#[93, 59]⟩ ++ q ++ ⟨#[41, 41]⟩
/-- What IfOf answers. -/
def ifV (t p q : ByteArray) : Value :=
  match oppL t with
  | [] => .tuple #[.string ⟨#[]⟩, .bool false]
  | o :: _ => madeV (ifTx t ⟨o.toArray⟩ p q) [p, q]

theorem ifV_nil {t : ByteArray} (h : oppL t = []) (p q : ByteArray) : ifV t p q = .tuple #[.string ⟨#[]⟩, .bool false] := by unfold ifV; rw [h]
theorem ifV_cons {t : ByteArray} {o : List UInt8} {r : List (List UInt8)} (h : oppL t = o :: r) (p q : ByteArray) : ifV t p q = madeV (ifTx t ⟨o.toArray⟩ p q) [p, q] := by unfold ifV; rw [h]
theorem tests_by3 : ∀ p ∈ tests, p.length = 3 := by decide

end Go.Proofs.YtgkgkaapjljpcaaDoor

