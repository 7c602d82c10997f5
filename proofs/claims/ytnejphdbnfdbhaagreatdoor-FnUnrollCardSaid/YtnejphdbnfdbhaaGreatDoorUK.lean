/- The model: programs unrolled. -/
import Derived.Test.YtnejphdbnfdbhaaGreatDoorM5
import Derived.Test.YtnejphdbnfdbhaaGreatDoorQC
import Derived.Test.YtnejphdbnfdbhaaGreatDoorUA
namespace Go.Proofs.YtnejphdbnfdbhaaGreatDoor
open Go.ChangeShapes Go.WideShapes Go.ChangeAt Go.RowKit Go.Shelf
attribute [local go_sem] Oper.semAt_some
set_option maxRecDepth 100000

/-- What the model has behind so many rounds. -/
def outM (body : List UInt8) : Nat → List UInt8
  | 0 => [46]
  | j + 1 => if (outM body j).length ≤ 60 then [40, 46, 124, 40] ++ body ++ [59] ++ outM body j ++ [41, 41] else outM body j
def munN (k : Nat) : Node → List UInt8
  | .atom a => a
  | .loop p => outM (munN k p) k
  | .pair c p q => [40] ++ munN k p ++ [c] ++ munN k q ++ [41]
theorem outM_le {body : List UInt8} {c : Nat} (h : body.length ≤ c) : ∀ j, (outM body j).length ≤ 67 + c
  | 0 => by show 1 ≤ _; omega
  | j + 1 => by
    unfold outM
    split
    · simp only [List.length_append, List.length_cons, List.length_nil]; omega
    · exact outM_le h j
theorem munN_le (k : Nat) : ∀ nd : Node, (munN k nd).length ≤ 70 * nd.text.length
  | .atom a => by show a.length ≤ 70 * a.length; omega
  | .loop p => by
    have e : (Node.loop p).text.length = p.text.length + 2 := by show (123 :: (p.text ++ [125])).length = _; simp
    have h := outM_le (munN_le k p) k
    rw [e]
    show (outM (munN k p) k).length ≤ _
    omega
  | .pair c p q => by
    have e : (Node.pair c p q).text.length = p.text.length + q.text.length + 3 := by show (40 :: (p.text ++ c :: (q.text ++ [41]))).length = _; simp; omega
    have h1 := munN_le k p
    have h2 := munN_le k q
    rw [e]
    unfold munN
    simp only [List.length_append, List.length_cons, List.length_nil]
    omega
def FitsM (w u : List UInt8) : Prop := (u.length ≤ 60 → w = u) ∧ (60 < u.length → 60 < w.length)
theorem outM_fits {body : List UInt8} {q : Node} (h : FitsM body q.text) : ∀ j, FitsM (outM body j) (againN q j).text
  | 0 => ⟨fun _ => rfl, fun h => h⟩
  | j + 1 => by
    have e : (againN q (j + 1)).text = [40, 46, 124, 40] ++ q.text ++ [59] ++ (againN q j).text ++ [41, 41] := by
      show 40 :: ([46] ++ 124 :: ((40 :: (q.text ++ 59 :: ((againN q j).text ++ [41]))) ++ [41])) = _
      simp
    obtain ⟨g1, g2⟩ := outM_fits h j
    rw [e]
    unfold outM
    simp only [FitsM, List.length_append, List.length_cons, List.length_nil]
    by_cases hj : (againN q j).text.length ≤ 60
    · rw [g1 hj, if_pos hj]
      constructor
      · intro hh; rw [h.1 (by omega)]
      · intro hh
        simp only [List.length_append, List.length_cons, List.length_nil]
        by_cases hq : q.text.length ≤ 60
        · rw [h.1 hq]; omega
        · have := h.2 (by omega); omega
    · have h3 := g2 (by omega)
      rw [if_neg (by omega)]
      exact ⟨fun hh => by omega, fun _ => h3⟩
theorem munN_fits (k : Nat) : ∀ nd : Node, FitsM (munN k nd) (unrN k nd).text
  | .atom a => ⟨fun _ => rfl, fun h => h⟩
  | .loop p => outM_fits (munN_fits k p) k
  | .pair c p q => by
    have e : (unrN k (.pair c p q)).text = [40] ++ (unrN k p).text ++ [c] ++ (unrN k q).text ++ [41] := by
      show 40 :: ((unrN k p).text ++ c :: ((unrN k q).text ++ [41])) = _
      simp
    obtain ⟨f1, f2⟩ := munN_fits k p
    obtain ⟨g1, g2⟩ := munN_fits k q
    rw [e]
    unfold munN
    simp only [FitsM, List.length_append, List.length_cons, List.length_nil]
    constructor
    · intro hh; rw [f1 (by omega), g1 (by omega)]
    · intro hh
      by_cases hp : (unrN k p).text.length ≤ 60
      · rw [f1 hp]
        by_cases hq : (unrN k q).text.length ≤ 60
        · rw [g1 hq]; omega
        · have := g2 (by omega); omega
      · have := f2 (by omega); omega

theorem cat_l (a b : List UInt8) : (⟨a.toArray⟩ : ByteArray) ++ ⟨b.toArray⟩ = ⟨(a ++ b).toArray⟩ := by
  apply ByteArray.ext
  rw [ByteArray.data_append]
  simp
theorem conv_atU (Z : World) (g : Nat) (k : UInt8) (hc : Z.cell? ⟨g, 0, none⟩ = some (.int .u8 (k.toNat : Int))) :
    (convert 22 9 (.slice (some ⟨g, 0, none⟩) 1 1)).run Tryz.prog Z = .ok (.string ⟨#[k]⟩) Z := by
  rw [← one_byte k]
  refine run_convert_bytes_arg _ 22 5 Tryz.underlying22 Tryz.underlying5 g 0 1 1 [(k.toNat : Int)] rfl (fun i hi => ?_) 9 Tryz.underlying9
  match i, hi with
  | 0, _ => exact hc
theorem conv_got {Z : World} {g : Nat} {k : UInt8} {G : Prop} (hc : Z.cell? ⟨g, 0, none⟩ = some (.int .u8 (k.toNat : Int))) (f : (convert 22 9 (.slice (some ⟨g, 0, none⟩) 1 1)).run Tryz.prog Z = .ok (.string ⟨#[k]⟩) Z → G) : G := f (conv_atU Z g k hc)
def NU (T : Nat) (nd : Node) : Prop := ∀ (W : World) (lo hi : Nat) (k : Int) (s : ByteArray) (ad : Option Addr) (n cap : Nat), NodeIs W lo hi nd k s ad n cap → hi ≤ W.heap.size →
  Calls Tryz.prog 57 #[.agg #[.int .u8 k, .string s, .slice ad n cap], .int .i64 (T : Int)] W fun e W' => e = .returned (.string ⟨(munN T nd).toArray⟩) ∧ Below W.heap.size W W'
set_option maxHeartbeats 2000000 in
theorem nu_atom (T : Nat) (a : List UInt8) : NU T (.atom a) := by
  intro W lo hi k s ad n cap h hhi
  obtain ⟨rfl, rfl, rfl⟩ := h
  obtain ⟨x0, x1, x2, _⟩ := (Var.new W 97 ⟨a.toArray⟩ ad 0 cap).cells
  go_enter Tryz.func57, Tryz.ntmps57
  go_wp2
  go_ret
  exact ⟨rfl, (Below.refl _ _).alloc (Nat.le_refl _) _⟩
set_option maxHeartbeats 4000000 in
theorem nu_loop (T : Nat) (hT : T ≤ 12) (p : Node) (hpl : p.text.length ≤ 60) (IH : NU T p) : NU T (.loop p) := by
  intro W lo hi k s ad n cap h hhi
  obtain ⟨rfl, rfl, rfl, g, rfl, hg1, hg2, k1, s1, ad1, n1, cap1, c0, c1, c2, hp⟩ := h
  have hle := munN_le T p
  have H1 := fun W' h h2 => IH W' lo hi k1 s1 ad1 n1 cap1 h h2
  show Calls _ _ _ _ fun e W' => e = .returned (.string ⟨(outM (munN T p) T).toArray⟩) ∧ _
  generalize munN T p = body at H1 hle ⊢
  have hA : Below W.heap.size W (W.alloc (.cells #[.int .u8 123, .string ⟨#[]⟩, .slice (some ⟨g, 0, none⟩) 1 cap] 69)) := (Below.refl _ _).alloc (Nat.le_refl _) _
  obtain ⟨x0, x1, x2, _⟩ := (Var.new W 123 ⟨#[]⟩ (some ⟨g, 0, none⟩) 1 cap).cells
  have e0 := (hA.cell (p := ⟨g, 0, none⟩) (Nat.lt_of_lt_of_le hg2 hhi)).trans c0
  have e1 := (hA.cell (p := ⟨g, 1, none⟩) (Nat.lt_of_lt_of_le hg2 hhi)).trans c1
  have e2 := (hA.cell (p := ⟨g, 2, none⟩) (Nat.lt_of_lt_of_le hg2 hhi)).trans c2
  have HH := H1 _ (hp.below hA hhi) (Nat.le_trans hhi hA.size)
  go_enter Tryz.func57, Tryz.ntmps57
  go_wp2_with fail
  refine HH.mono ?_
  rintro e W1 ⟨rfl, hb1⟩
  have hB1 := hA.trans (hb1.mono hA.size)
  go_wp2_with fail
  go_loopw [7, 45] (fun o i wr => ∃ j : Nat, j ≤ T ∧ i = .int .i64 (j : Int) ∧ o = .string ⟨(outM body j).toArray⟩ ∧ wr = W1) (fun _ i _ => T - (intOf i).toNat)
  case atStart => exact ⟨0, by omega, rfl, rfl, rfl⟩
  case round =>
    obtain ⟨j, hj, rfl, rfl, rfl⟩ := hrel
    by_cases hlt : j < T
    · have hlo := outM_le (Nat.le_refl body.length) j
      have hol : (⟨(outM body j).toArray⟩ : ByteArray).size = (outM body j).length := by simp [ByteArray.size]
      have e3 : outM body (j + 1) = if (outM body j).length ≤ 60 then [40, 46, 124, 40] ++ body ++ [59] ++ outM body j ++ [41, 41] else outM body j := rfl
      generalize outM body j = o at hlo hol e3 ⊢
      by_cases hL : o.length ≤ 60
      · rw [if_pos hL] at e3
        have hLi : (o.length : Int) ≤ 60 := by omega
        have hcat : (⟨#[40, 46, 124, 40]⟩ : ByteArray) ++ ⟨body.toArray⟩ ++ ⟨#[59]⟩ ++ ⟨o.toArray⟩ ++ ⟨#[41, 41]⟩ = ⟨([40, 46, 124, 40] ++ body ++ [59] ++ o ++ [41, 41]).toArray⟩ := by
          rw [show (⟨#[40, 46, 124, 40]⟩ : ByteArray) = ⟨([40, 46, 124, 40] : List UInt8).toArray⟩ from rfl, show (⟨#[59]⟩ : ByteArray) = ⟨([59] : List UInt8).toArray⟩ from rfl, show (⟨#[41, 41]⟩ : ByteArray) = ⟨([41, 41] : List UInt8).toArray⟩ from rfl, cat_l, cat_l, cat_l, cat_l]
        have HC := Lib.hid hcat
        clear hcat
        go_wp2_with fail
        refine ⟨⟨j + 1, by omega, by go_num, ?_, trivial⟩, by simp [intOf]; omega⟩
        rw [e3, HC.out]
      · rw [if_neg hL] at e3
        go_wp2_with fail
        go_roundw
        case rel => exact ⟨j + 1, by omega, by go_num, by rw [e3], trivial⟩
        case measure => simp [intOf]; omega
    · obtain rfl : j = T := by omega
      go_wp2_with fail
      go_ret
      exact ⟨rfl, hB1⟩
set_option maxHeartbeats 4000000 in
theorem nu_pair (T : Nat) (k0 : UInt8) (hk0 : k0 = 59 ∨ k0 = 124) (p q : Node) (hpl : p.text.length ≤ 60) (hql : q.text.length ≤ 60) (IH1 : NU T p) (IH2 : NU T q) : NU T (.pair k0 p q) := by
  intro W lo hi k s ad n cap h hhi
  obtain ⟨rfl, rfl, rfl, g, rfl, hg1, hg2, k1, s1, ad1, n1, cap1, k2, s2, ad2, n2, cap2, ⟨c0, c1, c2⟩, ⟨c3, c4, c5⟩, hp, hq⟩ := h
  have hle1 := munN_le T p
  have hle2 := munN_le T q
  have H1 := fun W' h h2 => IH1 W' lo hi k1 s1 ad1 n1 cap1 h h2
  have H2 := fun W' h h2 => IH2 W' lo hi k2 s2 ad2 n2 cap2 h h2
  have hA : Below W.heap.size W (W.alloc (.cells #[.int .u8 (k0.toNat : Int), .string ⟨#[]⟩, .slice (some ⟨g, 0, none⟩) 2 cap] 69)) := (Below.refl _ _).alloc (Nat.le_refl _) _
  have LX := Lies.new W #[.int .u8 (k0.toNat : Int), .string ⟨#[]⟩, .slice (some ⟨g, 0, none⟩) 2 cap] 69
  obtain ⟨x0, x1, x2, _⟩ := (Var.new W (k0.toNat : Int) ⟨#[]⟩ (some ⟨g, 0, none⟩) 2 cap).cells
  have gl : g < W.heap.size := Nat.lt_of_lt_of_le hg2 hhi
  have e0 := (hA.cell (p := ⟨g, 0, none⟩) gl).trans c0
  have e1 := (hA.cell (p := ⟨g, 1, none⟩) gl).trans c1
  have e2 := (hA.cell (p := ⟨g, 2, none⟩) gl).trans c2
  have hne2 : ((k0.toNat : Int) == 97) = false := by rcases hk0 with rfl | rfl <;> decide
  have hk59 : ((k0.toNat : Int) == 59) = true ∨ (((k0.toNat : Int) == 59) = false ∧ ((k0.toNat : Int) == 124) = true) := by rcases hk0 with rfl | rfl <;> decide
  have HH := H1 _ (hp.below hA hhi) (Nat.le_trans hhi hA.size)
  have hcat : (⟨#[40]⟩ : ByteArray) ++ ⟨(munN T p).toArray⟩ ++ ⟨#[k0]⟩ ++ ⟨(munN T q).toArray⟩ ++ ⟨#[41]⟩ = ⟨(munN T (.pair k0 p q)).toArray⟩ := by
    rw [show (⟨#[40]⟩ : ByteArray) = ⟨([40] : List UInt8).toArray⟩ from rfl, show (⟨#[k0]⟩ : ByteArray) = ⟨([k0] : List UInt8).toArray⟩ from rfl, show (⟨#[41]⟩ : ByteArray) = ⟨([41] : List UInt8).toArray⟩ from rfl, cat_l, cat_l, cat_l, cat_l]
    rfl
  have HC := Lib.hid hcat
  clear hcat
  generalize munN T (.pair k0 p q) = res at HC ⊢
  generalize munN T p = body at HH hle1 HC
  generalize munN T q = last at H2 hle2 HC
  have s1b : (⟨body.toArray⟩ : ByteArray).size = body.length := by simp [ByteArray.size]
  have s2b : (⟨last.toArray⟩ : ByteArray).size = last.length := by simp [ByteArray.size]
  have L1 : 1 + body.length ≤ 9223372036854775807 := by omega
  have L2 : body.length + 1 + 1 ≤ 9223372036854775807 := by omega
  have L3 : body.length + 1 + 1 + last.length ≤ 9223372036854775807 := by omega
  have L4 : body.length + 1 + 1 + last.length + 1 ≤ 9223372036854775807 := by omega
  have L5 : body.length + (1 + last.length) + 1 ≤ 9223372036854775807 := by omega
  have L6 : body.length + 1 + (last.length + 1) ≤ 9223372036854775807 := by omega
  have hmain : ∀ b59 b124 : Bool, ((k0.toNat : Int) == 59) = b59 → ((k0.toNat : Int) == 124) = b124 → (b59 = true ∨ (b59 = false ∧ b124 = true)) → Calls Tryz.prog 57 #[.agg #[.int .u8 (k0.toNat : Int), .string ⟨#[]⟩, .slice (some ⟨g, 0, none⟩) 2 cap], .int .i64 (T : Int)] W fun e W' => e = .returned (.string ⟨res.toArray⟩) ∧ Below W.heap.size W W' := by
    intro b59 b124 q1 q2 hb
    have hb' := hb
    rcases hb' with rfl | ⟨rfl, rfl⟩
    all_goals
      go_enter Tryz.func57, Tryz.ntmps57
      go_wp2_with fail
      refine HH.mono ?_
      rintro e W1 ⟨rfl, hb1⟩
      have hB1 := hA.trans (hb1.mono hA.size)
      have hNQ := (hq.below hA hhi).below hb1 (Nat.le_trans hhi hA.size)
      have hhi1 := Nat.le_trans (Nat.le_trans hhi hA.size) hb1.size
      have S1 : W1.cell? ⟨W.heap.size, 0, none⟩ = some (.int .u8 (k0.toNat : Int)) ∧ W1.cell? ⟨W.heap.size, 2, none⟩ = some (.slice (some ⟨g, 0, none⟩) 2 cap) ∧ W1.cell? ⟨g, 3, none⟩ = some (.int .u8 k2) ∧ W1.cell? ⟨g, 4, none⟩ = some (.string s2) ∧ W1.cell? ⟨g, 5, none⟩ = some (.slice ad2 n2 cap2) :=
        ⟨keepCell hb1 x0, keepCell hb1 x2, (hB1.cell (p := ⟨g, 3, none⟩) gl).trans c3, (hB1.cell (p := ⟨g, 4, none⟩) gl).trans c4, (hB1.cell (p := ⟨g, 5, none⟩) gl).trans c5⟩
      clear x0 x1 x2 e0 e1 e2 c0 c1 c2 c3 c4 c5 HH hb1 LX
      obtain ⟨a1, a2, a3, a4, a5⟩ := id S1
      go_wp2_with fail
      have hgs := hB1.size
      generalize hg0 : W.heap.size = g0 at S1 a1 a2 hB1 hgs gl ⊢
      have HG := Lib.hid hg0
      clear hg0
      have TQ : ∀ W0, Below W1.heap.size W1 W0 → Calls Tryz.prog 57 #[.agg #[.int .u8 k2, .string s2, .slice ad2 n2 cap2], .int .i64 (T : Int)] W0 fun e w' => e = .returned (.string ⟨last.toArray⟩) ∧ Below W1.heap.size W1 w' ∧ Below W0.heap.size W0 w' := fun W0 hB =>
        (H2 W0 (hNQ.below hB hhi1) (Nat.le_trans hhi1 hB.size)).mono fun e w' h => ⟨h.1, hB.trans (h.2.mono hB.size), h.2⟩
      have hBd : Below W1.heap.size W1 W1.drew := (Below.refl _ _).drew
      have hcv := fun (X : World) => conv_atU (X.alloc (.cells #[.int .u8 (k0.toNat : Int)] 5)) X.heap.size k0 (cellNew X _ 5).1
      have hcd := fun (X : World) => conv_atU (X.alloc (.cells #[.int .u8 (k0.toNat : Int)] 5)).drew X.heap.size k0 (cellNew X _ 5).1
      go_region_held (fun w' => w'.cell? ⟨g0, 0, none⟩ = some (.int .u8 (k0.toNat : Int)) ∧ w'.cell? ⟨g0, 2, none⟩ = some (.slice (some ⟨g, 0, none⟩) 2 cap) ∧ w'.cell? ⟨g, 3, none⟩ = some (.int .u8 k2) ∧ w'.cell? ⟨g, 4, none⟩ = some (.string s2) ∧ w'.cell? ⟨g, 5, none⟩ = some (.slice ad2 n2 cap2))
        (first | exact S1 | exact S3 | exact five_g (World.grownBy_alloc _ _ none) S1 | exact five_g (World.grownBy_alloc _ _ none) S3 | go_keep)
        (first
          | (go_at_call 57; refine (TQ _ ?_).mono ?_; (first | exact hBd | exact hBd.alloc hBd.size _); rintro e W3 ⟨rfl, hB3, hbb⟩; have S3 := five_g (grown_trans_b (below_self_grown W1 none) hB3) S1; (first | (refine conv_got (g := W1.heap.size) (k := k0) ((hbb.cell (p := ⟨W1.heap.size, 0, none⟩) (by simp)).trans (cellNew W1.drew (.int .u8 (k0.toNat : Int)) 5).1) ?_; intro hcc) | skip)))
      all_goals go_wp2_with fail
      all_goals
        go_ret
        have hE : Below W.heap.size W W3 := by rw [HG.out]; exact hB1.trans (hB3.mono hgs)
        first
          | exact ⟨congrArg (fun z => Ending.returned (Value.string z)) HC.out, hE⟩
          | exact ⟨congrArg (fun z => Ending.returned (Value.string z)) HC.out, hE.alloc (by rw [HG.out]; exact Nat.le_trans hgs hB3.size) _⟩
  exact hmain _ _ rfl rfl hk59
end Go.Proofs.YtnejphdbnfdbhaaGreatDoor

