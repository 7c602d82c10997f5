/- The model's atoms: assignments from a set; all atoms. -/
import Derived.Test.YtgkgkaapjljpcaaDoorM2
import Derived.Test.YtgkgkaapjljpcaaDoorR4
namespace Go.Proofs.YtgkgkaapjljpcaaDoor
open Go.ChangeShapes Go.WideShapes Go.ChangeAt Go.RowKit Go.Shelf
attribute [local go_sem] Oper.semAt_some
set_option maxRecDepth 100000

theorem asg57 (c d : UInt8) (h : [c, d] ∈ twos) (s : Nat) (hs : s < 9) (w : World) :
    Calls Tryd.prog 94 #[.string ⟨#[c, d]⟩, .int .i64 (s : Int)] w fun e w' => e = .returned (.int .i64 ((asgS c d s : Nat) : Int)) ∧ Below w.heap.size w w' := by
  obtain ⟨hc, rfl | rfl | hd⟩ := two_cases h
  · exact asg_plus c hc s hs w
  · exact asg_any c hc s hs w
  · exact asg_plain c d hc hd s hs w

theorem holds_at {W : World} {B : Nat} {v : Value} {l : List (Fin 9)} (h : Holds W B v l) :
    ∃ a cap, v = .slice a l.length cap ∧ ∀ (j : Nat) x, l[j]? = some x → ∃ g, a = some ⟨g, 0, none⟩ ∧ B ≤ g ∧ g < W.heap.size ∧ W.cell? ⟨g, j, none⟩ = some (.int .i64 (x.val : Int)) := by
  rcases h.2 with ⟨rfl, h0⟩ | ⟨g, cap, cur, rfl, hb, hg, _⟩
  · refine ⟨none, 0, by rw [h0], fun j x hx => ?_⟩
    have : j < l.length := (List.getElem?_eq_some_iff.1 hx).1
    omega
  · refine ⟨some ⟨g, 0, none⟩, cap, rfl, fun j x hx => ⟨g, rfl, hb, (Array.getElem?_eq_some_iff.1 hg).1, ?_⟩⟩
    have hu : (cellsOf l)[j]? = some (.int .i64 (x.val : Int)) := by simp [cellsOf, hx]
    have := World.ownsRow.cells h (g := g) rfl j _ hu
    rwa [plain_add] at this
theorem overL_take {f : Nat → Nat} {l : List (Fin 9)} {k : Nat} {x : Fin 9} (h : l[k]? = some x) : overL f (l.take (k + 1)) = overL f (l.take k) ||| f x.val := by
  have e : l.take (k + 1) = l.take k ++ [x] := by rw [List.take_add_one, h]; rfl
  rw [e, overL_snoc]
theorem mem_at9 {l : List (Fin 9)} {k : Nat} (hk : k < l.length) : ∃ v, l[k]? = some v := ⟨_, List.getElem?_eq_getElem hk⟩
theorem Outc.other {W : World} {rb : Nat} {x : Nat × Nat} (h : Outc W rb x) {W' : World} (hb : Below W.heap.size W W') : Outc W' rb x := (hb.block rb (Array.getElem?_eq_some_iff.1 h).1).trans h

set_option maxHeartbeats 4000000 in
theorem atom_asg (c d : UInt8) (h : [c, d] ∈ twos) (m : Nat) (hm : m < 512) (w : World) :
    Calls Tryd.prog 62 #[.string ⟨#[c, d]⟩, .int .i64 (m : Int)] w fun e w' => e = .returned (outV (over (asgS c d) m 9, 0)) ∧ Below w.heap.size w w' := by
  obtain ⟨hc, _⟩ := two_cases h
  have hf : ∀ t, t < 9 → asgS c d t < 512 := fun t ht => asg_lt [c, d] h t ht
  have hasg := asg57 c d h
  rw [over_upTo (asgS c d) hm 9 (Nat.le_refl _)]
  generalize asgS c d = f at hf hasg ⊢
  have hlen := upTo_len (m : Int) 9
  have hst := st35 (m : Int)
  generalize upTo (m : Int) 9 = l at hlen hst ⊢
  have b0 := byte0 c d
  have k1 : ((c.toNat : Int) == 46) = false := by rcases hc with rfl | rfl <;> rfl
  have k2 : ((c.toNat : Int) == 33) = false := by rcases hc with rfl | rfl <;> rfl
  have k3 : ((c.toNat : Int) == 91) = false := by rcases hc with rfl | rfl <;> rfl
  go_enter Tryd.func62, Tryd.ntmps62
  go_wp2_with (go_at_call 93; refine (hst _).mono ?_; rintro e W1 ⟨v, rfl, ho, hb1⟩; obtain ⟨a, cap, rfl, hcs⟩ := holds_at ho)
  have R1 := lies_kept hb1 ((Lies.new w #[.int .i64 0, .int .i64 0] 56).alloc (.cells #[.int .i64 0, .int .i64 0] 56))
  have O1 := lies_kept hb1 (Lies.new (w.alloc (.cells #[.int .i64 0, .int .i64 0] 56)) #[.int .i64 0, .int .i64 0] 56)
  rw [World.size_alloc] at O1
  have hA : Below w.heap.size w W1 := (((Below.refl _ w).alloc (Nat.le_refl _) _).alloc (by simp) _).trans (hb1.mono (by simp; omega))
  simp only [World.size_alloc] at hcs
  clear ho hb1 hst
  go_loopw [30] (fun i wr => ∃ k : Nat, k ≤ l.length ∧ i = .int .i64 (k : Int) ∧ Lies wr (w.heap.size + 1) #[.int .i64 ((overL f (l.take k) : Nat) : Int), .int .i64 0] 56 ∧ W1.grownBy wr (some (w.heap.size + 1))) (fun i _ => l.length - (intOf i).toNat)
  case atStart => exact ⟨0, by omega, rfl, O1, below_self_grown _ _⟩
  case round =>
    obtain ⟨k, hk, rfl, hO, hG⟩ := hrel
    by_cases hlt : k < l.length
    · obtain ⟨x, hx⟩ := mem_at9 hlt
      obtain ⟨g, rfl, hg1, hg2, hgc⟩ := hcs k x hx
      have e0 := (World.cell?_of_block (w := W1) (w' := wr) (a := ⟨g, k, none⟩) (hG.block g hg2 (by intro e; cases e; omega))).trans hgc
      have hp := Lib.hid (overL_take (f := f) hx)
      have hfx := hf x.val x.isLt
      have hov := overL_lt hf (l.take k)
      have hor := or_nat (overL f (l.take k)) (f x.val) (by omega) (by omega)
      obtain ⟨o0, o1, p0, p1⟩ := hO.cells
      have hlt' : (k : Int) < (l.length : Int) := by omega
      have hk0 : (0 : Int) ≤ (k : Int) := by omega
      have hl9 : (l.length : Int) ≤ 9 := by omega
      generalize overL f (l.take k) = z at hO hp hov hor o0
      go_wp2_with fail
      go_region_with
        (first | (go_at_call 94; refine (hasg x.val x.isLt _).mono ?_; rintro e W2 ⟨rfl, hb2⟩; have L2 := lies_kept hb2 hO; obtain ⟨s0, s1, q0, q1⟩ := L2.cells))
      all_goals go_wp2
      all_goals
        go_roundw
        case rel =>
          refine ⟨k + 1, by omega, by go_num, by rw [hp.out]; exact L2.set0 _, ?_⟩
          first
            | exact grown_set (grown_trans_b hG hb2) _
            | exact grown_set (grown_trans_b (drewG hG) hb2) _
            | exact grown_set (grown_trans_b (drewG (drewG hG)) hb2) _
        case measure => simp [intOf]; omega
    · obtain rfl : k = l.length := by omega
      have R2 := R1.kept hG (by simp)
      rw [List.take_length] at hO
      obtain ⟨z, hz⟩ : ∃ z, z = overL f l := ⟨_, rfl⟩
      rw [← hz] at hO
      have HZ := Lib.hid hz
      clear hz
      obtain ⟨o0, o1, p0, p1⟩ := hO.cells
      obtain ⟨r0, r1, t0, t1⟩ := R2.cells
      have RS := (R2.set0 (.int .i64 (z : Int))).set1 (.int .i64 0)
      have RB := ((hA.grown hG hA.size (fun i e => by cases e; omega)).setCell (p := ⟨w.heap.size, 0, none⟩) (by simp) (.int .i64 (z : Int))).setCell (p := ⟨w.heap.size, 1, none⟩) (by simp) (.int .i64 0)
      have HR := Lib.hid (And.intro RS RB)
      clear RS RB
      go_wp2
      obtain ⟨RS, RB⟩ := HR.out
      obtain ⟨s0, s1, _, _⟩ := RS.cells
      clear r0 r1 t0 t1 o0 o1 p0 p1 RS
      exact bodyPost_ret (v := outV (z, 0)) (by simp [results, Tryd.results62, outV, go_sem, s0, s1]) rfl ⟨by rw [HZ.out], RB⟩

theorem atomL_three {a b c : UInt8} (h : [a, b, c] ∈ tests) : b = 61 ∨ b = 35 ∨ b = 60 := by
  obtain ⟨a', b', c', e, hb⟩ := shape h
  cases e
  exact hb
/-- What the model says of an atom. -/
theorem matom40 (a : List UInt8) (h : (Node.atom a).ok) (m : Nat) (hm : m < 512) (w : World) :
    Calls Tryd.prog 62 #[.string ⟨a.toArray⟩, .int .i64 (m : Int)] w (RunsTo w (runR (.atom a) m)) := by
  unfold runR
  rcases h with rfl | rfl | h | ⟨t, ht, rfl⟩
  · exact atom_dot m w
  · exact atom_bang m w
  · obtain ⟨c, d, rfl, hc⟩ := twos_shape h
    have : atomR [c, d] m = (over (asgS c d) m 9, 0) := by rcases hc with rfl | rfl <;> rfl
    rw [this]
    exact atom_asg c d h m hm w
  · obtain ⟨a, b, c, rfl⟩ := test_three ht
    exact atom_test a b c 93 (atomL_three ht) m hm w
end Go.Proofs.YtgkgkaapjljpcaaDoor

