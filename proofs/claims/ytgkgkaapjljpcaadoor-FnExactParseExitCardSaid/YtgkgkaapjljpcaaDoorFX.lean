/- Chapter 12: an exit parsed, both sides, and the walk of its law. -/
import Derived.Test.YtgkgkaapjljpcaaDoorCutS
import Derived.OpenVars
namespace Go.Proofs.YtgkgkaapjljpcaaDoor
open Go.ChangeShapes Go.WideShapes Go.ChangeAt Go.RowKit Go.Shelf
attribute [local go_sem] Oper.semAt_some
set_option maxRecDepth 100000

/-- An error: none, or one. -/
def Errs (ok : Bool) (v : Value) : Prop := if ok = true then v = .nilIface else ∃ T u, v = .iface T u
def nameX (x : Int) : ByteArray := if x = 0 then ⟨#[111, 107]⟩ else if x = 1 then ⟨#[101, 114, 114, 111, 114]⟩ else ⟨#[]⟩
theorem pname26 (x : Int) (w : World) :
    Calls Tryd.prog 19 #[.int .i64 x] w fun e w' => e = .returned (.string (nameX x)) ∧ w = w' := by
  by_cases h0 : x = 0
  · subst h0
    go_enter Tryd.func19, Tryd.ntmps19
    go_wp2
    go_ret
    exact ⟨rfl, rfl⟩
  · by_cases h1 : x = 1
    · subst h1
      go_enter Tryd.func19, Tryd.ntmps19
      go_wp2
      go_ret
      exact ⟨rfl, rfl⟩
    · have e : nameX x = ⟨#[]⟩ := by unfold nameX; rw [if_neg h0, if_neg h1]
      have b0 : (x == 0) = false := by simpa using h0
      have b1 : (x == 1) = false := by simpa using h1
      rw [e]
      clear h0 h1 e
      go_enter Tryd.func19, Tryd.ntmps19
      go_wp2
      go_ret
      exact ⟨rfl, rfl⟩

def NoExit (N : Nat) (W : World) : Prop := (∃ T v, W.cell? ⟨0, 0, none⟩ = some (.iface T v)) ∧ 0 < N
theorem NoExit.below {N : Nat} {W W' : World} (h : NoExit N W) {n : Nat} (hb : Below n W W') (hn : N ≤ n) : NoExit N W' := by
  obtain ⟨⟨T, v, e⟩, hl⟩ := h
  exact ⟨⟨T, v, (hb.cell (p := ⟨0, 0, none⟩) (Nat.lt_of_lt_of_le hl hn)).trans e⟩, hl⟩
set_option maxHeartbeats 1000000 in
theorem exit104 (a : ByteArray) (W : World) {N : Nat} (hE : NoExit N W) (hN : N ≤ W.heap.size) :
    Calls Tryd.prog 38 #[.string a] W fun e W' => ∃ z ev, Errs (((nameX 0).toList == a.toList) || ((nameX 1).toList == a.toList)) ev ∧ z = (if ((nameX 0).toList == a.toList) = true then 0 else if ((nameX 1).toList == a.toList) = true then 1 else 0) ∧ e = .returned (.tuple #[.int .i64 z, ev]) ∧ Below W.heap.size W W' := by
  have hb : Below W.heap.size W (W.alloc (.cells #[.int .i64 0, .int .i64 1] 3)) := (Below.refl _ W).alloc (Nat.le_refl _) _
  obtain ⟨⟨T, v, hc⟩, hl⟩ := hE.below hb hN
  have k0 : (W.alloc (.cells #[.int .i64 0, .int .i64 1] 3)).cell? ⟨W.heap.size, 0, none⟩ = some (.int .i64 0) := by rw [cell_of_row _ W.heap.size 0 _ _ (0, 0) (heap_alloc_new W _)]; rfl
  have k1 : (W.alloc (.cells #[.int .i64 0, .int .i64 1] 3)).cell? ⟨W.heap.size, 1, none⟩ = some (.int .i64 1) := by rw [cell_of_row _ W.heap.size 1 _ _ (0, 0) (heap_alloc_new W _)]; rfl
  have hn0 := fun X => pname26 0 X
  have hn1 := fun X => pname26 1 X
  generalize nameX 0 = n0 at hn0 ⊢
  generalize nameX 1 = n1 at hn1 ⊢
  go_enter Tryd.func38, Tryd.ntmps38
  go_wp2_with fail
  generalize W.alloc (.cells #[.int .i64 0, .int .i64 1] 3) = W1 at hb hc k0 k1 ⊢
  go_loopw [8] (fun i wr => (i = .int .i64 0 ∨ (i = .int .i64 1 ∧ (n0.toList == a.toList) = false) ∨ (i = .int .i64 2 ∧ (n0.toList == a.toList) = false ∧ (n1.toList == a.toList) = false)) ∧ wr = W1) (fun i _ => 2 - (intOf i).toNat)
  case atStart => exact ⟨.inl rfl, rfl⟩
  case round =>
    obtain ⟨h, rfl⟩ := hrel
    rcases h with rfl | ⟨rfl, h0⟩ | ⟨rfl, h0, h1⟩
    · cases q : (n0.toList == a.toList) with
      | true =>
        go_wp2_with (go_at_call 19; refine (hn0 _).mono ?_; rintro e w' ⟨rfl, rfl⟩)
        exact bodyPost_ret (v := .tuple #[.int .i64 0, .nilIface]) (by simp [results, Tryd.results38, go_sem]) rfl ⟨0, .nilIface, rfl, rfl, rfl, hb⟩
      | false =>
        go_wp2_with (go_at_call 19; refine (hn0 _).mono ?_; rintro e w' ⟨rfl, rfl⟩)
        go_roundw <;> simp [intOf]
    · cases q : (n1.toList == a.toList) with
      | true =>
        go_wp2_with (go_at_call 19; refine (hn1 _).mono ?_; rintro e w' ⟨rfl, rfl⟩)
        all_goals exact bodyPost_ret (v := .tuple #[.int .i64 1, .nilIface]) (by simp [results, Tryd.results38, go_sem]) rfl (by first | exact ⟨1, .nilIface, rfl, rfl, rfl, hb⟩ | exact ⟨1, .nilIface, rfl, by simp [h0], rfl, hb⟩ | exact ⟨1, .nilIface, by simp [Errs], by simp, rfl, hb⟩)
      | false =>
        go_wp2_with (go_at_call 19; refine (hn1 _).mono ?_; rintro e w' ⟨rfl, rfl⟩)
        go_roundw <;> first | (simp [intOf]; done) | (simp; simpa using h0)
    · go_wp2_with fail
      go_region
      all_goals go_wp2_with fail
      all_goals exact bodyPost_ret (v := .tuple #[.int .i64 0, .iface T v]) (by simp [results, Tryd.results38, go_sem]) rfl (by first | exact ⟨0, .iface T v, ⟨T, v, rfl⟩, rfl, rfl, hb.drew⟩ | exact ⟨0, .iface T v, ⟨T, v, rfl⟩, by simp, rfl, hb.drew⟩ | exact ⟨0, .iface T v, by simp [Errs], by simp, rfl, hb.drew⟩)

theorem bytes_etaX (t : ByteArray) : (⟨t.toList.toArray⟩ : ByteArray) = t := by
  rw [Lib.toList_data]
/-- What is answered on a word: is it one of the two. -/
def exitB (t : ByteArray) : Bool := (nameX 0).toList == t.toList || (nameX 1).toList == t.toList
def exitZ (t : ByteArray) : Int := if ((nameX 0).toList == t.toList) = true then 0 else if ((nameX 1).toList == t.toList) = true then 1 else 0
set_option maxHeartbeats 1000000 in
theorem pexit (t : ByteArray) (W : World) {N : Nat} (hE : NoExit N W) (hN : N ≤ W.heap.size) :
    Calls Tryd.prog 14 #[.string t] W fun e W' => e = .returned (.tuple #[.int .i64 (exitZ t), .bool (exitB t)]) ∧ Below W.heap.size W W' := by
  have H := exit104 t W hE hN
  unfold exitZ exitB
  generalize ((nameX 0).toList == t.toList || (nameX 1).toList == t.toList) = b at H ⊢
  generalize (if ((nameX 0).toList == t.toList) = true then (0 : Int) else if ((nameX 1).toList == t.toList) = true then 1 else 0) = z at H ⊢
  cases b with
  | true =>
    have H2 : Calls Tryd.prog 38 #[.string t] W fun e W' => e = .returned (.tuple #[.int .i64 z, .nilIface]) ∧ Below W.heap.size W W' :=
      H.mono fun e W' ⟨z', ev, h1, h2, h3, h4⟩ => by subst h2; obtain rfl : ev = .nilIface := h1; exact ⟨h3, h4⟩
    go_enter Tryd.func14, Tryd.ntmps14
    go_wp2_with (go_at_call 38; refine H2.mono ?_; rintro e W1 ⟨rfl, hb1⟩)
    go_region
    all_goals go_wp2
    all_goals go_ret2
    all_goals exact ⟨rfl, hb1.drew⟩
  | false =>
    have H2 : Calls Tryd.prog 38 #[.string t] W fun e W' => (∃ T u, e = .returned (.tuple #[.int .i64 z, .iface T u])) ∧ Below W.heap.size W W' :=
      H.mono fun e W' ⟨z', ev, h1, h2, h3, h4⟩ => by subst h2; obtain ⟨T, u, rfl⟩ : ∃ T u, ev = .iface T u := h1; exact ⟨⟨T, u, h3⟩, h4⟩
    go_enter Tryd.func14, Tryd.ntmps14
    go_wp2_with (go_at_call 38; refine H2.mono ?_; rintro e W1 ⟨⟨T, u, rfl⟩, hb1⟩)
    go_region
    all_goals go_wp2
    all_goals go_ret2
    all_goals exact ⟨rfl, hb1.drew⟩
set_option maxHeartbeats 1000000 in
theorem mexit (t : ByteArray) (W : World) :
    Calls Tryd.prog 15 #[.string t] W fun e W' => e = .returned (.tuple #[.int .i64 (exitZ t), .bool (exitB t)]) ∧ W = W' := by
  by_cases h0 : t.toList = [111, 107]
  · have ht : t = ⟨#[111, 107]⟩ := by rw [← bytes_etaX t, h0]
    have ez : exitZ ⟨#[111, 107]⟩ = 0 := by decide +kernel
    have eb : exitB ⟨#[111, 107]⟩ = true := by decide +kernel
    subst ht
    rw [ez, eb]
    clear ez eb h0
    go_enter Tryd.func15, Tryd.ntmps15
    go_wp2
    go_ret2
    exact ⟨rfl, rfl⟩
  · by_cases h1 : t.toList = [101, 114, 114, 111, 114]
    · have ht : t = ⟨#[101, 114, 114, 111, 114]⟩ := by rw [← bytes_etaX t, h1]
      have ez : exitZ ⟨#[101, 114, 114, 111, 114]⟩ = 1 := by decide +kernel
      have eb : exitB ⟨#[101, 114, 114, 111, 114]⟩ = true := by decide +kernel
      subst ht
      rw [ez, eb]
      clear ez eb h0 h1
      go_enter Tryd.func15, Tryd.ntmps15
      go_wp2
      go_ret2
      exact ⟨rfl, rfl⟩
    · have e0 : ((nameX 0).toList == t.toList) = false := by rw [beq_eq_false_iff_ne]; exact fun h => h0 (h.symm.trans (by decide +kernel))
      have e1 : ((nameX 1).toList == t.toList) = false := by rw [beq_eq_false_iff_ne]; exact fun h => h1 (h.symm.trans (by decide +kernel))
      have ez : exitZ t = 0 := by unfold exitZ; rw [e0, e1]; rfl
      have eb : exitB t = false := by unfold exitB; rw [e0, e1]; rfl
      rw [ez, eb]
      have f0 : (t.toList == [111, 107]) = false := by rw [beq_eq_false_iff_ne]; exact h0
      have f1 : (t.toList == [101, 114, 114, 111, 114]) = false := by rw [beq_eq_false_iff_ne]; exact h1
      clear ez eb e0 e1 h0 h1
      go_enter Tryd.func15, Tryd.ntmps15
      go_wp2
      go_ret2
      exact ⟨rfl, rfl⟩
set_option maxHeartbeats 1000000 in
theorem walkParseExit (t : ByteArray) (hm : t.size ≤ maxLen) (W : World) (hE : NoExit W.heap.size W) :
    Calls Tryd.prog 5 #[.string t] W fun e w' => e = .returned (.bool true) ∧ Below W.heap.size W w' := by
  unfold maxLen at hm
  have hmod := fun W => mexit t W
  have hprog := pexit t W hE (Nat.le_refl _)
  generalize exitZ t = z at hmod hprog
  generalize exitB t = b at hmod hprog
  by_cases hlt : t.size ≤ 1048576
  · have hlti : (t.size : Int) ≤ 1048576 := by omega
    go_enter Tryd.func5, Tryd.ntmps5
    go_wp2_with (first
      | (go_at_call 15; refine (hmod _).mono ?_; rintro e W1 ⟨rfl, rfl⟩)
      | (go_at_call 14; refine hprog.mono ?_; rintro e W2 ⟨rfl, hb2⟩))
    go_ret
    exact ⟨rfl, hb2⟩
  · have hlti : (1048576 : Int) < (t.size : Int) := by omega
    go_enter Tryd.func5, Tryd.ntmps5
    go_wp2
    go_ret
    exact ⟨rfl, Below.refl _ _⟩
end Go.Proofs.YtgkgkaapjljpcaaDoor

