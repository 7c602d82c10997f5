/- The program's atoms: what they reach from a set. -/
import Derived.Test.YtgkgkaapjljpcaaDoorR1
namespace Go.Proofs.YtgkgkaapjljpcaaDoor
open Go.ChangeShapes Go.WideShapes Go.ChangeAt Go.RowKit Go.Shelf
attribute [local go_sem] Oper.semAt_some
set_option maxRecDepth 100000

/-- A block that lies as it was laid. -/
def Lies (W : World) (b : Nat) (cs : Array Value) (t : TypeId) : Prop := W.heap[b]? = some (.cells cs t (0, 0))
theorem Lies.lt {W : World} {b : Nat} {cs : Array Value} {t : TypeId} (h : Lies W b cs t) : b < W.heap.size := (Array.getElem?_eq_some_iff.1 h).1
theorem Lies.new (W : World) (cs : Array Value) (t : TypeId) : Lies (W.alloc (.cells cs t)) W.heap.size cs t := heap_alloc_new W _
theorem Lies.kept {W W' : World} {row : Option Nat} {b : Nat} {cs : Array Value} {t : TypeId} (h : Lies W b cs t) (hg : W.grownBy W' row) (hne : some b ≠ row) : Lies W' b cs t := (hg.block b h.lt hne).trans h
theorem Lies.alloc {W : World} {b : Nat} {cs : Array Value} {t : TypeId} (h : Lies W b cs t) (o : Obj) : Lies (W.alloc o) b cs t := h.kept (World.grownBy_alloc W o none) (by simp)
theorem Lies.below {W W' : World} {b : Nat} {cs : Array Value} {t : TypeId} (h : Lies W b cs t) (hb : Below W.heap.size W W') : Lies W' b cs t := (hb.block b h.lt).trans h
theorem Lies.other {W : World} {b b' : Nat} {cs : Array Value} {t : TypeId} (h : Lies W b cs t) (hne : b ≠ b') (o : Nat) (u : Value) : Lies (W.setCell ⟨b', o, none⟩ u) b cs t := by
  unfold Lies at *
  rw [heap_setCell_other _ _ b _ (by simpa using hne)]; exact h
theorem lies_own {β : Type} (b : Nat) (t : TypeId) (f : β → Array Value) : Own (fun s W => Lies W b (f s) t) := fun s X Y row hs hg hrow =>
  hs.kept hg (fun e' => by obtain ⟨o, ho, hc⟩ := hrow b e'.symm; rw [show X.heap[b]? = _ from hs] at ho; cases ho; cases hc)
/-- An outcome's variable. -/
def cells2 (x : Nat × Nat) : Array Value := #[.int .i64 (x.1 : Int), .int .i64 (x.2 : Int)]
theorem Lies.cells {W : World} {b : Nat} {x y : Value} {t : TypeId} (h : Lies W b #[x, y] t) : W.cell? ⟨b, 0, none⟩ = some x ∧ W.cell? ⟨b, 1, none⟩ = some y ∧ W.frozen? ⟨b, 0, none⟩ = false ∧ W.frozen? ⟨b, 1, none⟩ = false := by
  unfold Lies at h
  exact ⟨by simp [World.cell?, h], by simp [World.cell?, h], by simp [World.frozen?, h], by simp [World.frozen?, h]⟩
theorem Lies.set0 {W : World} {b : Nat} {x y : Value} {t : TypeId} (h : Lies W b #[x, y] t) (z : Value) : Lies (W.setCell ⟨b, 0, none⟩ z) b #[z, y] t := by
  unfold Lies at *
  rw [heap_setCell_same W b 0 _ t _ h]; rfl
theorem Lies.set1 {W : World} {b : Nat} {x y : Value} {t : TypeId} (h : Lies W b #[x, y] t) (z : Value) : Lies (W.setCell ⟨b, 1, none⟩ z) b #[x, z] t := by
  unfold Lies at *
  rw [heap_setCell_same W b 1 _ t _ h]; rfl

theorem hd1 (c : UInt8) (h : 0 < (⟨#[c]⟩ : ByteArray).size) : (⟨#[c]⟩ : ByteArray)[0]'h = c := rfl
theorem hd2 (c d : UInt8) (h : 0 < (⟨#[c, d]⟩ : ByteArray).size) : (⟨#[c, d]⟩ : ByteArray)[0]'h = c := rfl
theorem hd5 (a b c d e : UInt8) (h : 0 < (⟨#[a, b, c, d, e]⟩ : ByteArray).size) : (⟨#[a, b, c, d, e]⟩ : ByteArray)[0]'h = a := rfl

theorem ra_dot (m : Nat) (w : World) :
    Calls Tryd.prog 126 #[.string ⟨#[46]⟩, .int .i64 (m : Int)] w fun e w' => e = .returned (outV (m, 0)) ∧ Below w.heap.size w w' := by
  have b0 := hd1 46
  go_enter Tryd.func126, Tryd.ntmps126
  go_wp2
  exact bodyPost_ret (v := outV (m, 0)) (by simp [results, Tryd.results126, outV, go_sem]) rfl ⟨rfl, ((Below.refl _ _).alloc (Nat.le_refl _) _).alloc (by simp) _⟩
theorem ra_bang (m : Nat) (w : World) :
    Calls Tryd.prog 126 #[.string ⟨#[33]⟩, .int .i64 (m : Int)] w fun e w' => e = .returned (outV (0, m)) ∧ Below w.heap.size w w' := by
  have b0 := hd1 33
  go_enter Tryd.func126, Tryd.ntmps126
  go_wp2
  exact bodyPost_ret (v := outV (0, m)) (by simp [results, Tryd.results126, outV, go_sem]) rfl ⟨rfl, ((Below.refl _ _).alloc (Nat.le_refl _) _).alloc (by simp) _⟩
theorem whereB_n (a b c : Int) : ∀ k, k ≤ 9 → ∃ n : Nat, whereB a b c k = (n : Int) ∧ n < 512
  | 0, _ => ⟨0, rfl, by omega⟩
  | k + 1, h => by
    obtain ⟨n, e, hn⟩ := whereB_n a b c k (by omega)
    cases hh : holdsB a b c k with
    | true =>
      refine ⟨n ||| 2 ^ k, ?_, or_lt hn (pow_lt k (by omega))⟩
      rw [where_hit hh, e]
      have hp := pow_lt k (by omega)
      have := or_nat n (2 ^ k) (by omega) (by omega)
      rw [← this, Int.natCast_pow]; rfl
    | false => exact ⟨n, by rw [where_miss hh, e], hn⟩
theorem ra_test (a b c z : UInt8) (h : b = 61 ∨ b = 35 ∨ b = 60) (m : Nat) (hm : m < 512) (w : World) :
    Calls Tryd.prog 126 #[.string ⟨#[91, a, b, c, z]⟩, .int .i64 (m : Int)] w fun e w' => e = .returned (outV (m &&& (whereL [a, b, c]).toNat, 0)) ∧ Below w.heap.size w w' := by
  have b0 := hd5 91 a b c z
  obtain ⟨n, hn, hn9⟩ := whereB_n a.toNat b.toNat c.toNat 9 (by omega)
  have ha : bits .and .i64 (m : Int) (n : Int) = ((m &&& n : Nat) : Int) := and_nat m n (by omega) (by omega)
  have e2 : (whereL [a, b, c]).toNat = n := by
    show (whereB a.toNat b.toNat c.toNat 9).toNat = n
    rw [hn]; rfl
  rw [e2]
  go_enter Tryd.func126, Tryd.ntmps126
  go_wp2_with fail
  go_at_call 133
  refine (sot34 a b c h _).mono ?_
  rintro e W1 ⟨rfl, hB⟩
  rw [hn]
  obtain ⟨rb, hrb⟩ : ∃ rb, rb = w.heap.size + 1 := ⟨_, rfl⟩
  have h0 : Lies ((w.alloc (.cells #[.string ⟨#[91, a, b, c, z]⟩] 9)).alloc (.cells #[.int .i64 0, .int .i64 0] 61)) rb #[.int .i64 0, .int .i64 0] 61 := by rw [hrb]; exact (by have := Lies.new (w.alloc (.cells #[.string ⟨#[91, a, b, c, z]⟩] 9)) #[.int .i64 0, .int .i64 0] 61; rwa [World.size_alloc] at this)
  have h1 := h0.below hB
  have hA : Below w.heap.size w W1 := (((Below.refl _ _).alloc (Nat.le_refl _) _).alloc (by simp) _).trans (hB.mono (by simp; omega))
  have hw : w.heap.size ≤ rb := by omega
  rw [← hrb]
  clear hrb hB h0
  obtain ⟨q0, q1, q2, q3⟩ := h1.cells
  have h2 := h1.set0 (.int .i64 ((m &&& n : Nat) : Int))
  obtain ⟨r0, r1, r2, r3⟩ := h2.cells
  have h3 := h2.set1 (.int .i64 0)
  obtain ⟨z0, z1, _, _⟩ := h3.cells
  have Z := Lib.hid (And.intro z0 z1)
  have hE := (hA.setCell (p := ⟨rb, 0, none⟩) hw (.int .i64 ((m &&& n : Nat) : Int))).setCell (p := ⟨rb, 1, none⟩) hw (.int .i64 0)
  clear z0 z1 h3 h2 h1
  go_wp2
  obtain ⟨z0, z1⟩ := Z.out
  clear q0 q1 q2 q3 r0 r1 r2 r3 ha
  exact bodyPost_ret (v := outV (m &&& n, 0)) (by simp [results, Tryd.results126, outV, go_sem, z0, z1]) rfl ⟨rfl, hE⟩

theorem keeps_below {W w1 : World} (hb : Below W.heap.size W w1) : KeepsOthers W w1 := KeepsOthers.of_grownBy (row := none) (grown_trans_b (below_self_grown _ _) hb) (fun j o e => by cases e)
/-- What the loop over a set's states keeps. -/
def AtomI (w : World) (c d : UInt8) (m : Nat) (v : Nat) (W : World) : Prop :=
  Boxed W w.heap.size 9 (.string ⟨#[c, d]⟩) ∧ Lies W (w.heap.size + 1) #[.int .i64 0, .int .i64 0] 61 ∧ Boxed W (w.heap.size + 1 + 1) 59 (.int .i64 (v : Int)) ∧ Boxed W (w.heap.size + 1 + 1 + 1) 59 (.int .i64 (m : Int)) ∧ Below w.heap.size w W
theorem atom_step {w W w1 : World} {c d : UInt8} {m v v' : Nat} (h : AtomI w c d m v W) (hb : Below W.heap.size W w1) :
    KeepsOthers W (w1.setCell ⟨w.heap.size + 1 + 1, 0, none⟩ (.int .i64 (v' : Int))) ∧ KpB (w.heap.size + 1 + 1 + 1) W (w1.setCell ⟨w.heap.size + 1 + 1, 0, none⟩ (.int .i64 (v' : Int))) ∧
      AtomI w c d m v' (w1.setCell ⟨w.heap.size + 1 + 1, 0, none⟩ (.int .i64 (v' : Int))) := by
  obtain ⟨hS, hR, hO, hN, hB⟩ := h
  have hg := grown_trans_b (below_self_grown W none) hb
  have hS1 := hS.kept hg (by simp)
  have hR1 := hR.kept hg (by simp)
  have hO1 := hO.kept hg (by simp)
  have hN1 := hN.kept hg (by simp)
  refine ⟨(keeps_below hb).trans (KeepsOthers.setCell _ _ _), ?_, hS1.other (by omega) _, hR1.other (by omega) _ _, hO1.set _, hN1.other (by omega) _, (hB.trans (hb.mono hB.size)).setCell (by simp; omega) _⟩
  unfold KpB
  exact (show _ = _ from hN1.other (B' := w.heap.size + 1 + 1) (by omega) (.int .i64 (v' : Int))).trans (show _ = _ from hN).symm

set_option maxHeartbeats 2000000 in
theorem ra_asg_in (c d : UInt8) (hc : c = 120 ∨ c = 121) (h : [c, d] ∈ twos) (m : Nat) (hm : m < 512) (w : World) :
    CallsIn Fence.wide 3 Tryd.prog 126 #[.string ⟨#[c, d]⟩, .int .i64 (m : Int)] w fun e w' => e = .returned (outV (over (asgS c d) m 9, 0)) ∧ Below w.heap.size w w' := by
  have b0 := hd2 c d
  have k1 : ((c.toNat : Int) == 46) = false := by rcases hc with rfl | rfl <;> rfl
  have k2 : ((c.toNat : Int) == 33) = false := by rcases hc with rfl | rfl <;> rfl
  have k3 : ((c.toNat : Int) == 91) = false := by rcases hc with rfl | rfl <;> rfl
  refine callsIn_of_wp_marks Tryd.func126 rfl trivial ?_ rfl
  simp only [Tryd.ntmps126, List.size_toArray, List.length_cons, List.length_nil, Nat.reduceAdd, Nat.reduceSub, Array.replicate_succ, Array.replicate_zero, List.push_toArray, List.append_toArray, List.nil_append, List.cons_append]
  gi_wp2_with (refine ⟨trivial, ?_⟩; gi_at_call 134; refine (maker_in 2 (m : Int) _).mono ?_; rintro e w' ⟨rfl, rfl⟩)
  have hf : ∀ t, t < 9 → asgS c d t < 512 := fun t ht => asg_lt [c, d] h t ht
  have bS := Boxed.new w 9 (.string ⟨#[c, d]⟩)
  have bR := Lies.new (w.alloc (.cells #[.string ⟨#[c, d]⟩] 9)) #[.int .i64 0, .int .i64 0] 61
  have bO := Boxed.new ((w.alloc (.cells #[.string ⟨#[c, d]⟩] 9)).alloc (.cells #[.int .i64 0, .int .i64 0] 61)) 59 (.int .i64 0)
  have bN := Boxed.new (((w.alloc (.cells #[.string ⟨#[c, d]⟩] 9)).alloc (.cells #[.int .i64 0, .int .i64 0] 61)).alloc (.cells #[.int .i64 0] 59)) 59 (.int .i64 (m : Int))
  simp only [World.size_alloc] at bR bO bN
  have hB0 : Below w.heap.size w ((((w.alloc (.cells #[.string ⟨#[c, d]⟩] 9)).alloc (.cells #[.int .i64 0, .int .i64 0] 61)).alloc (.cells #[.int .i64 0] 59)).alloc (.cells #[.int .i64 (m : Int)] 59)) := ((((Below.refl _ w).alloc (Nat.le_refl _) _).alloc (by simp) _).alloc (by simp; omega) _).alloc (by simp; omega) _
  refine wpIn_rangeFunc_ownF rfl (by omega) (gf := 141) (lb := #[.pointer (some ⟨w.heap.size + 1 + 1 + 1, 0, none⟩)]) rfl trivial (enters_of Tryd.func141 (by kernel_rfl) rfl)
    (states_stops 2 (by omega) (w.heap.size + 1 + 1 + 1) (m : Int) _ (by simp) bN.cell) kpB_t (kpB_b (by simp)) (Below.refl _ _) (fun _ => rfl)
    (fun pre W => Boxed W w.heap.size 9 (.string ⟨#[c, d]⟩) ∧ Lies W (w.heap.size + 1) #[.int .i64 0, .int .i64 0] 61 ∧ Boxed W (w.heap.size + 1 + 1) 59 (.int .i64 ((overL (asgS c d) pre : Nat) : Int)) ∧ Boxed W (w.heap.size + 1 + 1 + 1) 59 (.int .i64 (m : Int)) ∧ Below w.heap.size w W)
    (fun _ _ _ => False)
    (OwnFrom.and (Own.from (boxed_own w.heap.size 9 (fun _ => .string ⟨#[c, d]⟩)) _) (OwnFrom.and (Own.from (lies_own (w.heap.size + 1) 61 (fun _ => #[.int .i64 0, .int .i64 0])) _) (OwnFrom.and (Own.from (boxed_own (w.heap.size + 1 + 1) 59 (fun pre => .int .i64 ((overL (asgS c d) pre : Nat) : Int))) _) (OwnFrom.and (Own.from (boxed_own (w.heap.size + 1 + 1 + 1) 59 (fun _ => .int .i64 (m : Int))) _) (ownFrom_below (Nat.le_refl _) (by simp; omega))))))
    (fun _ _ _ _ _ hs _ _ => hs)
    ⟨((bS.alloc _).alloc _).alloc _, (bR.alloc _).alloc _, bO.alloc _, bN, hB0⟩
    (fun x => { tmps := #[.string ⟨#[c, d]⟩, .int .i64 (m : Int), .pointer (some ⟨w.heap.size, 0, none⟩), undef, .pointer (some ⟨w.heap.size + 1, 0, none⟩), .pointer (some ⟨w.heap.size + 1 + 1, 0, none⟩), .int .i64 (x.val : Int), .string ⟨#[c, d]⟩, .int .u8 (c.toNat : Int), .bool false, .bool false, undef, undef, .bool false, .bool false, undef, undef, .bool false, .bool false, undef, undef, undef, undef, undef, undef, undef, undef, undef, .int .i64 (m : Int), .func (.func 141) #[] #[.pointer (some ⟨w.heap.size + 1 + 1 + 1, 0, none⟩)], .int .i64 (x.val : Int), undef, undef, undef, undef, undef, undef, undef], defers := [] }) ?assign ?body ?done ?stop
  case assign =>
    intro l x W K hK
    simp only [encs]
    gi_wp2
    exact hK
  case body =>
    rintro l pre x W ⟨hS, hR, hO, hN, hB⟩ hlt
    have cS := hS.cell
    have cO := hO.cell
    have fO := hO.frozen
    have hx := hf x.val x.isLt
    have hp := overL_lt hf pre
    have hor := or_nat (overL (asgS c d) pre) (asgS c d x.val) (by omega) (by omega)
    have h1n : 1 ≤ 3 - 1 - 1 := by omega
    have hmix : Tryd.prog.follows .mixedOrders = true := by kernel_rfl
    gi_wp2_with fail
    gi_region_with_o (refine ⟨trivial, ?_⟩; first | (gi_at_call 135; refine (CallsIn.inRound l (callsIn_wide.2 (asg66 c d h x.val x.isLt _))).mono ?_; rintro e w1 ⟨rfl, hb1⟩; have bO1 : Boxed w1 (w.heap.size + 1 + 1) 59 (.int .i64 ((overL (asgS c d) pre : Nat) : Int)) := Boxed.kept (by exact hO) (show _ from grown_trans_b (below_self_grown _ none) hb1) (by simp); have cO1 := bO1.cell; have fO1 := bO1.frozen))
    all_goals gi_wp2
    all_goals
      have hb : Below W.heap.size W w1 := by first | exact hb1 | exact (Below.refl _ W).drew.trans hb1 | exact (Below.refl _ W).drew.drew.trans hb1
      have R := atom_step (v' := overL (asgS c d) (pre ++ [x])) ⟨hS, hR, hO, hN, hB⟩ hb
      rw [overL_snoc] at R
      refine ⟨R.1, R.2.1, ?_⟩
      show AtomI w c d m (overL (asgS c d) (pre ++ [x])) _
      rw [overL_snoc]
      exact R.2.2
  case done =>
    rintro D ys W hD rfl ⟨hS, hR, hO, hN, hB⟩ hK
    have cO := hO.cell
    obtain ⟨q0, q1, q2, q3⟩ := hR.cells
    gi_wp2_with fail
    have hK1 : ((W.setCell ⟨w.heap.size + 1, 0, none⟩ (.int .i64 ((overL (asgS c d) (upTo (m : Int) 9) : Nat) : Int))).setCell ⟨w.heap.size + 1, 1, none⟩ (.int .i64 0)).heap[D]? = some (.deferred (some [])) := by
      rw [heap_setCell_other _ _ D _ (by simp at hD ⊢; omega), heap_setCell_other _ _ D _ (by simp at hD ⊢; omega)]; exact hK
    refine ⟨by simp, .inl ⟨_, _, rfl, run_takeDeferred hK1, ?_⟩⟩
    have hL := (hR.set0 (.int .i64 ((overL (asgS c d) (upTo (m : Int) 9) : Nat) : Int))).set1 (.int .i64 0)
    have hZ := (hB.setCell (p := ⟨w.heap.size + 1, 0, none⟩) (by simp) (.int .i64 ((overL (asgS c d) (upTo (m : Int) 9) : Nat) : Int))).setCell (p := ⟨w.heap.size + 1, 1, none⟩) (by simp) (.int .i64 0)
    generalize ((W.setCell ⟨w.heap.size + 1, 0, none⟩ (.int .i64 ((overL (asgS c d) (upTo (m : Int) 9) : Nat) : Int))).setCell ⟨w.heap.size + 1, 1, none⟩ (.int .i64 0)) = Z at hK1 hL hZ ⊢
    have hL2 : Lies (Z.putObj D (.deferred none)) (w.heap.size + 1) #[.int .i64 ((overL (asgS c d) (upTo (m : Int) 9) : Nat) : Int), .int .i64 0] 61 := (World.putObj_heap_other (by simp at hD; omega)).trans hL
    obtain ⟨z0, z1, _, _⟩ := hL2.cells
    have hb := hZ.trans (belowK_b (w := w) (Nat.le_refl _) Z D _ (.deferred none) (by simp at hD; omega) hK1 rfl rfl)
    rw [over_upTo (asgS c d) hm 9 (Nat.le_refl _)]
    refine ⟨outV (overL (asgS c d) (upTo (m : Int) 9), 0), ?_, rfl, hb⟩
    clear q0 q1 q2 q3 hK1 hL hL2 hZ hb hS hR hO hN hB
    simp [results, Tryd.results126, outV, go_sem, z0, z1]
  case stop =>
    rintro D c pre W _ _ h _
    exact h.elim

/-- What an atom reaches from a set. -/
theorem ra47 (a : List UInt8) (h : (Node.atom a).ok) (m : Nat) (hm : m < 512) (w : World) :
    Calls Tryd.prog 126 #[.string ⟨a.toArray⟩, .int .i64 (m : Int)] w fun e w' => e = .returned (outV (runR (.atom a) m)) ∧ Below w.heap.size w w' := by
  unfold runR
  rcases h with rfl | rfl | h | ⟨t, ht, rfl⟩
  · exact ra_dot m w
  · exact ra_bang m w
  · obtain ⟨c, d, rfl, hc⟩ := twos_shape h
    have : atomR [c, d] m = (over (asgS c d) m 9, 0) := by rcases hc with rfl | rfl <;> rfl
    rw [this]
    exact callsIn_wide.1 (ra_asg_in c d hc h m hm w)
  · obtain ⟨a, b, c, rfl, hb⟩ := shape ht
    exact ra_test a b c 93 hb m hm w
end Go.Proofs.YtgkgkaapjljpcaaDoor

