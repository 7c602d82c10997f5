/- Chapter 10, the model: a runner in its block, its trace in a row of its own; what a part of a run may write; one choice taken. -/
import Derived.Test.YtfoifcbpognjaaaDoorJA
import Derived.Test.YtfoifcbpognjaaaDoorGI
import Derived.Test.YtfoifcbpognjaaaDoorSt
import Derived.BigQuiet
import Derived.Deep.QuietTactic
import Derived.Lib.Hide
namespace Go.Proofs.YtfoifcbpognjaaaDoor
open Go.ChangeShapes Go.WideShapes Go.ChangeAt Go.RowKit Go.Shelf
attribute [local go_sem] Oper.semAt_some
set_option maxRecDepth 100000

/-! ### What a part of a run writes: the runner's block, the trace's row, new blocks -/
structure Foot (rb : Nat) (o o' : Option Nat) (W W' : World) : Prop where
  os : W'.os = W.os
  tape : W'.tape = W.tape
  output : W'.output = W.output
  size : W.heap.size ≤ W'.heap.size
  block : ∀ k, k < W.heap.size → k ≠ rb → some k ≠ o → W'.heap[k]? = W.heap[k]?
  own : o' = o ∨ ∃ g, o' = some g ∧ W.heap.size ≤ g
theorem Foot.refl (rb : Nat) (o : Option Nat) (W : World) : Foot rb o o W W := ⟨rfl, rfl, rfl, Nat.le_refl _, fun _ _ _ _ => rfl, .inl rfl⟩
theorem Foot.trans {rb : Nat} {o o1 o2 : Option Nat} {A B C : World} (h : Foot rb o o1 A B) (k : Foot rb o1 o2 B C) : Foot rb o o2 A C := by
  refine ⟨k.os.trans h.os, k.tape.trans h.tape, k.output.trans h.output, Nat.le_trans h.size k.size, fun j hj h1 h2 => ?_, ?_⟩
  · refine (k.block j (Nat.lt_of_lt_of_le hj h.size) h1 ?_).trans (h.block j hj h1 h2)
    rcases h.own with e | ⟨g, e, hg⟩
    · rw [e]; exact h2
    · rw [e]; intro q; cases q; omega
  · rcases k.own with e | ⟨g, e, hg⟩
    · rw [e]; exact h.own
    · exact .inr ⟨g, e, Nat.le_trans h.size hg⟩
theorem Foot.below {rb lo : Nat} {o o' : Option Nat} {W W' : World} (h : Foot rb o o' W W') (hr : lo ≤ rb) (ho : ∀ k, o = some k → lo ≤ k) (hs : lo ≤ W.heap.size) : Below lo W W' :=
  ⟨h.os, h.tape, h.output, h.size, fun k hk => h.block k (by omega) (by omega) (fun e => by have := ho k e.symm; omega)⟩
theorem foot_grown {rb : Nat} (o : Option Nat) {W W' : World} (h : W.grownBy W' (some rb)) : Foot rb o o W W' :=
  ⟨h.os, h.tape, h.output, h.size, fun k hk h1 _ => h.block k hk (fun e => by cases e; exact h1 rfl), .inl rfl⟩
theorem foot_below (rb : Nat) (o : Option Nat) {W W' : World} (h : Below W.heap.size W W') : Foot rb o o W W' :=
  ⟨h.os, h.tape, h.output, h.size, fun k hk _ _ => h.block k hk, .inl rfl⟩
theorem foot_set (rb j : Nat) (o : Option Nat) (W : World) (u : Value) : Foot rb o o W (W.setCell ⟨rb, j, none⟩ u) :=
  ⟨rfl, rfl, rfl, by simp [World.setCell], fun k _ h1 _ => Below.heap_setCell _ _ _ _ h1, .inl rfl⟩

/-! ### The runner -/
def errI (b : Bool) : Int := if b then 1 else 0
def RnAt (W : World) (rb : Nat) (cs : ByteArray) (r : R10) (tv : Value) : Prop :=
  W.heap[rb]? = some (.cells #[.string cs, .int .i64 (r.pos : Int), .int .i64 (r.st : Int), .int .i64 (errI r.err), .bool r.stuck, tv] 34 (0, 0))
theorem RnAt.lt {W : World} {rb : Nat} {cs : ByteArray} {r : R10} {tv : Value} (h : RnAt W rb cs r tv) : rb < W.heap.size := (Array.getElem?_eq_some_iff.1 h).1
theorem RnAt.cells {W : World} {rb : Nat} {cs : ByteArray} {r : R10} {tv : Value} (h : RnAt W rb cs r tv) :
    W.cell? ⟨rb, 0, none⟩ = some (.string cs) ∧ W.cell? ⟨rb, 1, none⟩ = some (.int .i64 (r.pos : Int)) ∧ W.cell? ⟨rb, 2, none⟩ = some (.int .i64 (r.st : Int)) ∧ W.cell? ⟨rb, 3, none⟩ = some (.int .i64 (errI r.err)) ∧ W.cell? ⟨rb, 4, none⟩ = some (.bool r.stuck) ∧ W.cell? ⟨rb, 5, none⟩ = some tv := by
  unfold RnAt at h
  exact ⟨by simp [World.cell?, h], by simp [World.cell?, h], by simp [World.cell?, h], by simp [World.cell?, h], by simp [World.cell?, h], by simp [World.cell?, h]⟩
theorem RnAt.frozen {W : World} {rb : Nat} {cs : ByteArray} {r : R10} {tv : Value} (h : RnAt W rb cs r tv) :
    W.frozen? ⟨rb, 1, none⟩ = false ∧ W.frozen? ⟨rb, 2, none⟩ = false ∧ W.frozen? ⟨rb, 3, none⟩ = false ∧ W.frozen? ⟨rb, 4, none⟩ = false ∧ W.frozen? ⟨rb, 5, none⟩ = false := by
  unfold RnAt at h
  exact ⟨by simp [World.frozen?, h], by simp [World.frozen?, h], by simp [World.frozen?, h], by simp [World.frozen?, h], by simp [World.frozen?, h]⟩
theorem RnAt.kept {W W' : World} {rb : Nat} {cs : ByteArray} {r : R10} {tv : Value} (h : RnAt W rb cs r tv) (hb : Below W.heap.size W W') : RnAt W' rb cs r tv := (hb.block rb h.lt).trans h
theorem RnAt.set1 {W : World} {rb : Nat} {cs : ByteArray} {r : R10} {tv : Value} (h : RnAt W rb cs r tv) (n : Nat) : RnAt (W.setCell ⟨rb, 1, none⟩ (.int .i64 (n : Int))) rb cs ⟨n, r.st, r.err, r.stuck, r.tr⟩ tv := by
  unfold RnAt at *
  rw [heap_setCell_same W rb 1 _ 34 _ h]; rfl
theorem RnAt.set2 {W : World} {rb : Nat} {cs : ByteArray} {r : R10} {tv : Value} (h : RnAt W rb cs r tv) (n : Nat) : RnAt (W.setCell ⟨rb, 2, none⟩ (.int .i64 (n : Int))) rb cs ⟨r.pos, n, r.err, r.stuck, r.tr⟩ tv := by
  unfold RnAt at *
  rw [heap_setCell_same W rb 2 _ 34 _ h]; rfl
theorem RnAt.set3 {W : World} {rb : Nat} {cs : ByteArray} {r : R10} {tv : Value} (h : RnAt W rb cs r tv) (b : Bool) : RnAt (W.setCell ⟨rb, 3, none⟩ (.int .i64 (errI b))) rb cs ⟨r.pos, r.st, b, r.stuck, r.tr⟩ tv := by
  unfold RnAt at *
  rw [heap_setCell_same W rb 3 _ 34 _ h]; rfl
theorem RnAt.set4 {W : World} {rb : Nat} {cs : ByteArray} {r : R10} {tv : Value} (h : RnAt W rb cs r tv) (b : Bool) : RnAt (W.setCell ⟨rb, 4, none⟩ (.bool b)) rb cs ⟨r.pos, r.st, r.err, b, r.tr⟩ tv := by
  unfold RnAt at *
  rw [heap_setCell_same W rb 4 _ 34 _ h]; rfl
theorem RnAt.set5 {W : World} {rb : Nat} {cs : ByteArray} {r : R10} {tv : Value} (h : RnAt W rb cs r tv) (u : Value) (zs : List Int) : RnAt (W.setCell ⟨rb, 5, none⟩ u) rb cs ⟨r.pos, r.st, r.err, r.stuck, zs⟩ u := by
  unfold RnAt at *
  rw [heap_setCell_same W rb 5 _ 34 _ h]; rfl
theorem grown_setR {W W' : World} {rb : Nat} (h : W.grownBy W' (some rb)) (j : Nat) (u : Value) : W.grownBy (W'.setCell ⟨rb, j, none⟩ u) (some rb) :=
  ⟨h.os, h.tape, h.output, by simpa [World.setCell] using h.size, fun k hk hne => (Below.heap_setCell _ _ _ _ (fun e => hne (by simp [e]))).trans (h.block k hk hne)⟩

/-! ### One choice -/
/-- Where a byte stands first, or -1. -/
def FirstAt (l : List UInt8) (c : UInt8) (z : Int) : Prop := (∃ k : Nat, z = (k : Int) ∧ l[k]? = some c ∧ ∀ j, j < k → l[j]? ≠ some c) ∨ (z = -1 ∧ ∀ j : Nat, l[j]? ≠ some c)
theorem first_hit {l : List UInt8} {c : UInt8} {z : Int} (h : FirstAt l c z) {k : Nat} (h1 : l[k]? = some c) (h2 : ∀ j, j < k → l[j]? ≠ some c) : z = (k : Int) := by
  rcases h with ⟨k', rfl, a, b⟩ | ⟨_, b⟩
  · rcases Nat.lt_trichotomy k k' with h | h | h
    · exact absurd h1 (b k h)
    · rw [h]
    · exact absurd a (h2 k' h)
  · exact absurd h1 (b k)
theorem first_miss {l : List UInt8} {c : UInt8} {z : Int} (h : FirstAt l c z) (h2 : ∀ j, j < l.length → l[j]? ≠ some c) : z = -1 := by
  rcases h with ⟨k', rfl, a, b⟩ | ⟨e, _⟩
  · exact absurd a (h2 k' (List.getElem?_eq_some_iff.1 a).1)
  · exact e
theorem first_in : ∀ (l : List UInt8) (c : UInt8), c ∈ l → ∃ k : Nat, k < l.length ∧ l[k]? = some c ∧ ∀ j, j < k → l[j]? ≠ some c
  | [], _, h => by simp at h
  | a :: l, c, h => by
    by_cases e : a = c
    · exact ⟨0, by simp, by simp [e], fun j hj => by omega⟩
    · have h1 : c ∈ l := by
        rcases List.mem_cons.1 h with h | h
        · exact absurd h.symm e
        · exact h
      obtain ⟨k, a1, a2, a3⟩ := first_in l c h1
      refine ⟨k + 1, by simp; omega, by simpa using a2, fun j hj => ?_⟩
      match j, hj with
      | 0, _ => simpa using e
      | j + 1, hj => simpa using a3 j (by omega)
set_option maxHeartbeats 1000000 in
theorem mfind (t : ByteArray) (ht : t.size ≤ 9000000) (c : UInt8) (z : Int) (hz : FirstAt t.data.toList c z) (w : World) :
    Calls Tryd.prog 39 #[.string t, .int .u8 (c.toNat : Int)] w fun e w' => e = .returned (.int .i64 z) ∧ w' = w := by
  have hlen : t.data.toList.length = t.size := by rw [Array.length_toList]; rfl
  have HLn := Lib.hid hlen
  have HZ := Lib.hid hz
  have ht1 : (t.size : Int) ≤ 9000000 := by omega
  clear hlen hz
  go_enter Tryd.func39, Tryd.ntmps39
  go_wp2_with fail
  go_loopw [5] (fun i wr => ∃ k : Nat, k ≤ t.size ∧ i = .int .i64 (k : Int) ∧ (∀ j, j < k → t.data.toList[j]? ≠ some c) ∧ wr = w) (fun i _ => t.size - (intOf i).toNat)
  case atStart => exact ⟨0, by omega, rfl, fun j hj => by omega, rfl⟩
  case round =>
    obtain ⟨k, hk, rfl, hno, rfl⟩ := hrel
    have HN := Lib.hid hno
    clear hno
    by_cases hlt : k < t.size
    · have hlt2 : k < t.data.toList.length := by rw [HLn.out]; exact hlt
      have kt2 : (k : Int) < (t.size : Int) := by omega
      by_cases hc : t.data.toList[k] = c
      · have HC := Lib.hid hc
        have hv : ∀ h : k < t.size, t[k]'h = c := fun _ => HC.out
        clear hc
        go_wp2_with fail
        go_ret
        exact ⟨by rw [first_hit HZ.out (by rw [List.getElem?_eq_getElem hlt2, HC.out]) HN.out]; rfl, rfl⟩
      · have HC := Lib.hid hc
        have hv : ∀ h : k < t.size, (((t[k]'h).toNat : Int) == (c.toNat : Int)) = false := fun h => by
          have h9 : t[k]'h = t.data.toList[k] := rfl
          simp only [beq_eq_false_iff_ne, ne_eq]
          intro e
          have e2 : (t[k]'h).toNat = c.toNat := by omega
          exact HC.out (h9 ▸ UInt8.toNat_inj.1 e2)
        clear hc
        go_wp2_with fail
        go_roundw
        case rel => exact ⟨k + 1, by omega, by go_num, fun j hj => by
          by_cases e : j = k
          · subst e
            rw [List.getElem?_eq_getElem hlt2]
            intro q
            exact HC.out (Option.some.inj q)
          · exact HN.out j (by omega), trivial⟩
        case measure => simp [intOf]; omega
    · have hkn : k = t.size := by omega
      subst hkn
      have hge : ¬ ((t.size : Int) < (t.size : Int)) := by omega
      go_wp2_with fail
      go_ret
      exact ⟨by rw [first_miss HZ.out (fun j hj => HN.out j (by rw [HLn.out] at hj; exact hj))]; rfl, rfl⟩
theorem mfind_in {fr : List UInt8} (hfr : fr.length ≤ 9000000) {c : UInt8} (h : c ∈ fr) : ∃ k : Nat, k ≤ 9000000 ∧ ∀ w,
    Calls Tryd.prog 39 #[.string ⟨fr.toArray⟩, .int .u8 (c.toNat : Int)] w fun e w' => e = .returned (.int .i64 (k : Int)) ∧ w' = w := by
  obtain ⟨k, h1, h2, h3⟩ := first_in fr c h
  exact ⟨k, by omega, mfind ⟨fr.toArray⟩ (by show fr.toArray.size ≤ _; simpa using hfr) c (k : Int) (.inl ⟨k, rfl, by simpa using h2, by simpa using h3⟩)⟩
theorem mfind_out {fr : List UInt8} (hfr : fr.length ≤ 9000000) {c : UInt8} (h : c ∉ fr) (w : World) :
    Calls Tryd.prog 39 #[.string ⟨fr.toArray⟩, .int .u8 (c.toNat : Int)] w fun e w' => e = .returned (.int .i64 (-1)) ∧ w' = w :=
  mfind ⟨fr.toArray⟩ (by show fr.toArray.size ≤ _; simpa using hfr) c (-1) (.inr ⟨rfl, fun j e => h (by simpa using List.mem_of_getElem? e)⟩) w
set_option maxHeartbeats 1000000 in
theorem take_hit {t u : ByteArray} {rb i k : Nat} {c : UInt8} {W : World} (c0 : W.cell? ⟨rb, 0, none⟩ = some (.string t)) (c1 : W.cell? ⟨rb, 1, none⟩ = some (.int .i64 (i : Int))) (f1 : W.frozen? ⟨rb, 1, none⟩ = false)
    (hlt : (i : Int) < (t.size : Int)) (hi0 : (0 : Int) ≤ (i : Int)) (ht : (t.size : Int) ≤ 9000000) (hge : decide (t.size ≤ i) = false) (hv : ∀ q : i < t.size, t[i]'q = c)
    (hF : ∀ w, Calls Tryd.prog 39 #[.string u, .int .u8 (c.toNat : Int)] w fun e w' => e = .returned (.int .i64 (k : Int)) ∧ w' = w) :
    Calls Tryd.prog 29 #[.pointer (some ⟨rb, 0, none⟩), .string u] W fun e W' => e = .returned (.int .u8 (c.toNat : Int)) ∧ ∃ n m, W' = ((W.drewN n).setCell ⟨rb, 1, none⟩ (.int .i64 ((i : Int) + 1))).drewN m := by
  go_enter Tryd.func29, Tryd.ntmps29
  have hs : (i : Int) + 1 - 1 = (i : Int) := by omega
  go_wp2_with fail
  go_quiet (first | (go_at_call 39; exact Calls.quiet_of_same (hF _)))
  go_wp2_with fail
  go_quiet (fail)
  go_wp2_with fail
  go_ret
  exact ⟨rfl, _, _, rfl⟩
set_option maxHeartbeats 1000000 in
theorem take_miss {t u : ByteArray} {rb i : Nat} {c : UInt8} {W : World} (c0 : W.cell? ⟨rb, 0, none⟩ = some (.string t)) (c1 : W.cell? ⟨rb, 1, none⟩ = some (.int .i64 (i : Int))) (f4 : W.frozen? ⟨rb, 4, none⟩ = false) (c4 : ∃ b, W.cell? ⟨rb, 4, none⟩ = some (.bool b))
    (hlt : (i : Int) < (t.size : Int)) (hi0 : (0 : Int) ≤ (i : Int)) (_ht : (t.size : Int) ≤ 9000000) (hge : decide (t.size ≤ i) = false) (hv : ∀ q : i < t.size, t[i]'q = c)
    (hF : ∀ w, Calls Tryd.prog 39 #[.string u, .int .u8 (c.toNat : Int)] w fun e w' => e = .returned (.int .i64 (-1)) ∧ w' = w) :
    Calls Tryd.prog 29 #[.pointer (some ⟨rb, 0, none⟩), .string u] W fun e W' => e = .returned (.int .u8 0) ∧ ∃ n m, W' = ((W.drewN n).setCell ⟨rb, 4, none⟩ (.bool true)).drewN m := by
  obtain ⟨b, c4⟩ := c4
  go_enter Tryd.func29, Tryd.ntmps29
  go_wp2_with fail
  go_quiet (first | (go_at_call 39; exact Calls.quiet_of_same (hF _)))
  go_wp2_with fail
  go_ret
  exact ⟨rfl, _, 0, rfl⟩
set_option maxHeartbeats 1000000 in
theorem take_end {t u : ByteArray} {rb i : Nat} {W : World} (c0 : W.cell? ⟨rb, 0, none⟩ = some (.string t)) (c1 : W.cell? ⟨rb, 1, none⟩ = some (.int .i64 (i : Int))) (f4 : W.frozen? ⟨rb, 4, none⟩ = false) (c4 : ∃ b, W.cell? ⟨rb, 4, none⟩ = some (.bool b))
    (_ht : (t.size : Int) ≤ 9000000) (hge : t.size ≤ i) (_hi : (i : Int) ≤ 9000000) :
    Calls Tryd.prog 29 #[.pointer (some ⟨rb, 0, none⟩), .string u] W fun e W' => e = .returned (.int .u8 0) ∧ ∃ n m, W' = ((W.drewN n).setCell ⟨rb, 4, none⟩ (.bool true)).drewN m := by
  obtain ⟨b, c4⟩ := c4
  have hd : decide (t.size ≤ i) = true := decide_eq_true hge
  go_enter Tryd.func29, Tryd.ntmps29
  go_wp2_with fail
  go_quiet (fail)
  go_wp2_with fail
  go_ret
  exact ⟨rfl, _, 0, rfl⟩
theorem grown_sd {W : World} {rb j n m : Nat} {u : Value} : W.grownBy (((W.drewN n).setCell ⟨rb, j, none⟩ u).drewN m) (some rb) :=
  ⟨rfl, rfl, rfl, by show W.heap.size ≤ ((W.drewN n).setCell ⟨rb, j, none⟩ u).heap.size; simp [World.setCell], fun k _ hne => (Below.heap_setCell (W.drewN n) _ _ _ (fun e => hne (by simp [e])))⟩
theorem mtake (cs fr : List UInt8) (hcs : cs.length ≤ 9000000) (hfr : fr.length ≤ 9000000) (rb : Nat) (r : R10) (tv : Value) (hp : r.pos ≤ cs.length) (W : World) (h : RnAt W rb ⟨cs.toArray⟩ r tv) :
    Calls Tryd.prog 29 #[.pointer (some ⟨rb, 0, none⟩), .string ⟨fr.toArray⟩] W fun e W' => e = .returned (.int .u8 ((took cs fr r).2.toNat : Int)) ∧ RnAt W' rb ⟨cs.toArray⟩ (took cs fr r).1 tv ∧ W.grownBy W' (some rb) := by
  have hsz : (⟨cs.toArray⟩ : ByteArray).size = cs.length := by show cs.toArray.size = _; simp
  obtain ⟨c0, c1, c2, c3, c4, c5⟩ := h.cells
  obtain ⟨f1, f2, f3, f4, f5⟩ := h.frozen
  by_cases hlt : r.pos < cs.length
  · obtain ⟨c, hg, hv⟩ : ∃ c, cs[r.pos]? = some c ∧ ∀ q : r.pos < (⟨cs.toArray⟩ : ByteArray).size, (⟨cs.toArray⟩ : ByteArray)[r.pos]'q = c := ⟨cs[r.pos], List.getElem?_eq_getElem hlt, fun _ => by show cs.toArray[r.pos]'_ = _; simp⟩
    have hge : decide ((⟨cs.toArray⟩ : ByteArray).size ≤ r.pos) = false := decide_eq_false (by rw [hsz]; omega)
    by_cases hc : c ∈ fr
    · rw [took_in hg hc]
      obtain ⟨k, _, hF⟩ := mfind_in hfr hc
      refine (take_hit c0 c1 f1 (by rw [hsz]; omega) (by omega) (by rw [hsz]; omega) hge hv hF).mono ?_
      rintro e W' ⟨rfl, n, m, rfl⟩
      exact ⟨rfl, RnAt.set1 (W := W.drewN n) h (r.pos + 1), grown_sd⟩
    · rw [took_out hg hc]
      refine (take_miss c0 c1 f4 ⟨_, c4⟩ (by rw [hsz]; omega) (by omega) (by rw [hsz]; omega) hge hv (mfind_out hfr hc)).mono ?_
      rintro e W' ⟨rfl, n, m, rfl⟩
      exact ⟨rfl, RnAt.set4 (W := W.drewN n) h true, grown_sd⟩
  · rw [took_none (List.getElem?_eq_none (by omega))]
    refine (take_end c0 c1 f4 ⟨_, c4⟩ (by rw [hsz]; omega) (by rw [hsz]; omega) (by omega)).mono ?_
    rintro e W' ⟨rfl, n, m, rfl⟩
    exact ⟨rfl, RnAt.set4 (W := W.drewN n) h true, grown_sd⟩
end Go.Proofs.YtfoifcbpognjaaaDoor

