/- The model's reading of a whole text: a program, or none. -/
import Derived.Test.YtemilnkglkpnjaaDoorQ9
import Derived.Test.YtemilnkglkpnjaaDoorQ11
namespace Go.Proofs.YtemilnkglkpnjaaDoor
open Go.ChangeShapes Go.WideShapes Go.ChangeAt Go.RowKit Go.Shelf
attribute [local go_sem] Oper.semAt_some
set_option maxRecDepth 100000

theorem loops_le : ∀ nd : Node, nd.loops ≤ nd.text.length
  | .atom _ => Nat.zero_le _
  | .loop p => by have := loops_le p; simp [Node.loops, Node.text]; omega
  | .pair k p q => by have := loops_le p; have := loops_le q; simp [Node.loops, Node.text]; omega
theorem size_le_text : ∀ nd : Node, nd.ok → nd.size ≤ nd.text.length
  | .atom a, h => by have := text_pos (.atom a) h; simp [Node.size]; omega
  | .loop p, h => by have := size_le_text p h; simp [Node.size, Node.text]; omega
  | .pair k p q, h => by have := size_le_text p h.2.1; have := size_le_text q h.2.2; simp [Node.size, Node.text]; omega

theorem ret_read {Z : World} {a : Act} {k : Int} {s : ByteArray} {ad : Option Addr} {m cap g : Nat} {b : Bool} {R : Ending → World → Prop} (hv : Var Z g k s ad m cap) (ha : a.tmps[2]?.getD undef = .pointer (some ⟨g, 0, none⟩)) (hb : a.tmps[3]?.getD undef = .bool b) (hdf : a.defers = [])
    (h : R (.returned (.tuple #[.agg #[.int .u8 k, .string s, .slice ad m cap], .bool b])) Z) : bodyPost Tryd.prog Tryd.f42 R Exit.ret a Z := by
  obtain ⟨c0, c1, c2, _⟩ := hv.cells
  refine bodyPost_ret (v := .tuple #[.agg #[.int .u8 k, .string s, .slice ad m cap], .bool b]) ?_ hdf h
  simp [results, Tryd.results42, go_sem, ha, hb, c0, c1, c2]

/-- What reading a whole text leaves. -/
def Whole (t : ByteArray) (W : World) (e : Ending) (W' : World) : Prop := Below W.heap.size W W' ∧
  match readP t.toList with
  | some nd => ∃ k s ad m cap, e = .returned (.tuple #[.agg #[.int .u8 k, .string s, .slice ad m cap], .bool true]) ∧ NodeIs W' W.heap.size W'.heap.size nd k s ad m cap
  | none => e = .returned (.tuple #[.agg #[.int .u8 0, .string ⟨#[]⟩, .slice none 0 0], .bool false])

theorem below_of {W Z : World} {rb : Nat} (h : W.grownBy Z (some rb)) (hrb : W.heap.size ≤ rb) : Below W.heap.size W Z :=
  (Below.refl _ _).grown h (Nat.le_refl _) (fun j e => by cases e; exact hrb)

theorem whole_none {t : ByteArray} {W Z : World} (h : readP t.toList = none) (hB : Below W.heap.size W Z) : Whole t W (.returned (.tuple #[.agg #[.int .u8 0, .string ⟨#[]⟩, .slice none 0 0], .bool false])) Z := by
  refine ⟨hB, ?_⟩
  rw [h]
theorem whole_some {t : ByteArray} {W Z : World} {nd : Node} {k : Int} {s : ByteArray} {ad : Option Addr} {m cap : Nat} (h : readP t.toList = some nd) (hB : Below W.heap.size W Z) (hN : NodeIs Z W.heap.size Z.heap.size nd k s ad m cap) :
    Whole t W (.returned (.tuple #[.agg #[.int .u8 k, .string s, .slice ad m cap], .bool true])) Z := by
  refine ⟨hB, ?_⟩
  rw [h]
  exact ⟨k, s, ad, m, cap, rfl, hN⟩

set_option maxHeartbeats 4000000 in
theorem read42 (t : ByteArray) (ht : t.size ≤ 9000000) (W : World) : Calls Tryd.prog 42 #[.string t] W (Whole t W) := by
  have hlen : t.toList.length = t.size := by rw [Lib.toList_data, Array.length_toList]; rfl
  have ht1 : (t.size : Int) ≤ 9000000 := by omega
  have hd0 : t.toList.drop 0 = t.toList := rfl
  obtain ⟨rb, hrb⟩ : ∃ rb, rb = W.heap.size + 1 := ⟨_, rfl⟩
  obtain ⟨WB, hWB⟩ : ∃ WB, WB = (W.alloc (.cells #[.int .u8 0, .string ⟨#[]⟩, .slice none 0 0] 55)).alloc (.cells #[.string t, .int .i64 0, .bool false] 84) := ⟨_, rfl⟩
  have hr : Rdr WB rb t 0 false := by
    rw [hWB, hrb]
    have := heap_alloc_new (W.alloc (.cells #[.int .u8 0, .string ⟨#[]⟩, .slice none 0 0] 55)) (.cells #[.string t, .int .i64 0, .bool false] 84)
    rw [World.size_alloc] at this
    exact this
  have hv : Var WB W.heap.size 0 ⟨#[]⟩ none 0 0 := by
    rw [hWB]
    exact (Var.new W 0 ⟨#[]⟩ none 0 0).grown (World.grownBy_alloc _ _ none) (by simp)
  have hGB : W.grownBy WB (some rb) := by rw [hWB]; exact grown_alloc (World.grownBy_alloc W _ _) _
  have hsB : WB.heap.size = W.heap.size + 2 := by rw [hWB]; simp
  have hrbW : W.heap.size ≤ rb := by omega
  go_enter Tryd.func42, Tryd.ntmps42
  go_wp2_with fail
  rw [← hWB, ← hrb]
  go_at_call 60
  refine (part_read t rb t.size 0 (reads_all t ht rb t.size) WB (Nat.zero_le _) (by rw [hd0, hlen]; exact Nat.le_refl _) hr).mono ?_
  rintro e W2 ⟨k, s, ad, m, cap, rfl, hg2, hm⟩
  rw [hd0] at hm
  have s2 := hg2.size
  have hv2 := hv.grown hg2 (by simp; omega)
  have hG2 := grown_trans2 hGB hg2
  have hA := World.grownBy_alloc W2 (.cells #[.int .u8 k, .string s, .slice ad m cap] 55) none
  have hv3 := hv2.grown hA (by simp)
  have hy3 := Var.new W2 k s ad m cap
  have hG3 := grown_alloc hG2 (.cells #[.int .u8 k, .string s, .slice ad m cap] 55)
  obtain ⟨x0, x1, x2, z0, z1, z2⟩ := hv3.cells
  obtain ⟨p0, p1, p2, _⟩ := hy3.cells
  have hWh : Below W.heap.size W (set3 (W2.alloc (.cells #[.int .u8 k, .string s, .slice ad m cap] 55)) W.heap.size 0 ⟨#[]⟩ none 0 0) := below_of (set3_grown hG3 (Nat.le_refl _) _ _ _ _ _) (by omega)
  cases hrn : rd t.size t.toList with
  | none =>
    have hP : readP t.toList = none := by unfold readP; rw [hlen, hrn]
    rw [hrn] at hm
    obtain ⟨j, hj, hr2⟩ := hm
    have hr3 := hr2.grown hA (by simp)
    obtain ⟨d0, d1, d2, k1, k2⟩ := hr3.cells
    have HP := Lib.hid hP
    clear hWB hrb
    go_wp2_with fail
    exact ret_read (set3_var hv3 _ _ _ _ _) rfl rfl rfl (whole_none HP.out hWh)
  | some x =>
    obtain ⟨nd, r⟩ := x
    obtain ⟨htx, hok⟩ := rd_text _ _ _ _ hrn
    rw [hrn] at hm
    obtain ⟨j, hj, hjd, hr2, hnd⟩ := hm
    have hr3 := hr2.grown hA (by simp)
    obtain ⟨d0, d1, d2, k1, k2⟩ := hr3.cells
    cases r with
    | cons e r' =>
      have hP : readP t.toList = none := by unfold readP; rw [hlen, hrn]
      have HP := Lib.hid hP
      obtain ⟨_, hj2, _⟩ := ext_cons hjd
      have hne : ((j : Int) != (t.size : Int)) = true := by simp; omega
      have hne2 : ((j : Int) == (t.size : Int)) = false := by simp; omega
      clear hWB hrb hP
      go_wp2_with fail
      exact ret_read (set3_var hv3 _ _ _ _ _) rfl rfl rfl (whole_none HP.out hWh)
    | nil =>
      have hjs : j = t.size := by have := List.drop_eq_nil_iff.1 hjd; omega
      subst hjs
      by_cases h60 : t.size ≤ 60
      · have h60i : (t.size : Int) ≤ 60 := by omega
        have hll := loops_le nd
        have htl : t.toList.length = nd.text.length := by rw [htx]; simp
        have hl1 : nd.loops ≤ 9000000 := by omega
        have hbA : Below W2.heap.size W2 (W2.alloc (.cells #[.int .u8 k, .string s, .slice ad m cap] 55)) := (Below.refl _ _).alloc (Nat.le_refl _) _
        have hndA := hnd.below hbA (Nat.le_refl _)
        by_cases h6 : nd.loops ≤ 6
        · have h6i : (nd.loops : Int) ≤ 6 := by omega
          have hP : readP t.toList = some nd := by unfold readP; rw [hlen, hrn]; dsimp only; rw [if_pos ⟨h60, h6⟩]
          have HP := Lib.hid hP
          clear hWB hrb hP
          go_wp2_with fail
          go_at_call 47
          refine (loops47 nd _ _ _ k s ad m cap hndA (by rw [World.size_alloc]; omega) hok hl1).mono ?_
          rintro e W4 ⟨rfl, hb4⟩
          have hv4 := hv3.grown (below_grown hb4 none) (by simp)
          have hy4 := hy3.grown (below_grown hb4 none) (by simp)
          have hG4 := grown_trans2 hG3 (below_grown hb4 (some rb))
          have hnd4 := hndA.below hb4 (by rw [World.size_alloc]; omega)
          obtain ⟨x0, x1, x2, z0, z1, z2⟩ := hv4.cells
          obtain ⟨p0, p1, p2, _⟩ := hy4.cells
          have s4 := hb4.size
          rw [World.size_alloc] at s4
          go_wp2_with fail
          have hszZ := set3_size W4 W.heap.size k s ad m cap
          have hndZ := ((hnd4.same (fun b hb1 hb2 => set3_block (g := W.heap.size) (U := W4) (by omega) k s ad m cap)).wide (lo' := W.heap.size) (hi' := (set3 W4 W.heap.size k s ad m cap).heap.size) (by omega) (by omega))
          exact ret_read (set3_var hv4 _ _ _ _ _) rfl rfl rfl (whole_some HP.out (below_of (set3_grown hG4 (Nat.le_refl _) _ _ _ _ _) (by omega)) hndZ)
        · have h6i : (6 : Int) < (nd.loops : Int) := by omega
          have hP : readP t.toList = none := by unfold readP; rw [hlen, hrn]; dsimp only; rw [if_neg (fun h => h6 h.2)]
          have HP := Lib.hid hP
          clear hWB hrb hP
          go_wp2_with fail
          go_at_call 47
          refine (loops47 nd _ _ _ k s ad m cap hndA (by rw [World.size_alloc]; omega) hok hl1).mono ?_
          rintro e W4 ⟨rfl, hb4⟩
          have hv4 := hv3.grown (below_grown hb4 none) (by simp)
          have hG4 := grown_trans2 hG3 (below_grown hb4 (some rb))
          obtain ⟨x0, x1, x2, z0, z1, z2⟩ := hv4.cells
          go_wp2_with fail
          exact ret_read (set3_var hv4 _ _ _ _ _) rfl rfl rfl (whole_none HP.out (below_of (set3_grown hG4 (Nat.le_refl _) _ _ _ _ _) (by omega)))
      · have h60i : (60 : Int) < (t.size : Int) := by omega
        have hP : readP t.toList = none := by unfold readP; rw [hlen, hrn]; dsimp only; rw [if_neg (fun h => h60 h.1)]
        have HP := Lib.hid hP
        clear hWB hrb hP
        go_wp2_with fail
        exact ret_read (set3_var hv3 _ _ _ _ _) rfl rfl rfl (whole_none HP.out hWh)
end Go.Proofs.YtemilnkglkpnjaaDoor

