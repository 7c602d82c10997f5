/- The program's answers on one text: its kind, its size, its loops, its parts. -/
import Derived.Test.YtngcdgnijfiocaaGreatDoorNB
namespace Go.Proofs.YtngcdgnijfiocaaGreatDoor
open Go.ChangeShapes Go.WideShapes Go.ChangeAt Go.RowKit Go.Shelf
attribute [local go_sem] Oper.semAt_some
set_option maxRecDepth 100000

theorem size_le_len : ∀ nd : Node, nd.ok → nd.size ≤ nd.text.length
  | .atom a, h => by have := text_pos (.atom a) h; simp [Node.size]; omega
  | .loop p, h => by have := size_le_len p h; simp [Node.size, Node.text]; omega
  | .pair k p q, h => by have := size_le_len p h.2.1; have := size_le_len q h.2.2; simp [Node.size, Node.text]; omega



/-- What a program is made by. -/
def kindN : Node → List UInt8
  | .atom a => a
  | .loop _ => [123]
  | .pair k _ _ => [k]
theorem kindP_some {l : List UInt8} {nd : Node} (h : readP l = some nd) : kindP l = kindN nd := by
  unfold kindP
  rw [h]
  cases nd <;> rfl
theorem pkindN (nd : Node) (hok : nd.ok) (w : World) : Calls Tryz.prog 45 #[nodeV nd] w fun e w' => e = .returned (.string ⟨(kindN nd).toArray⟩) ∧ Below w.heap.size w w' := by
  have := pkind41 nd hok w
  cases nd <;> exact this

theorem pkind16 (t : ByteArray) (w : World) {N : Nat} (hE : Laid3 N w) :
    Calls Tryz.prog 10 #[.string t] w fun e w' => e = .returned (.string ⟨(kindP t.toList).toArray⟩) ∧ Below w.heap.size w w' := by
  have hr := pread40 t.toList w hE
  rw [bytes_eta] at hr
  cases hP : readP t.toList with
  | none =>
    have HP := Lib.hid hP
    have hi : kindP t.toList = [] := by unfold kindP; rw [hP]
    rw [hi]
    clear hP hi
    go_enter Tryz.func10, Tryz.ntmps10
    go_wp2_with (go_at_call 37; refine hr.mono ?_; rintro e W1 ⟨hb, hm⟩; rw [HP.out] at hm; obtain ⟨T, v, rfl⟩ := hm)
    go_ret
    exact ⟨rfl, hb⟩
  | some nd =>
    have HP := Lib.hid hP
    have hi := kindP_some hP
    obtain ⟨hok, htx, h60, h6⟩ := readP_iff.1 hP
    have hsz := pkindN nd hok
    obtain ⟨T0, x0, hv⟩ := nodeV_iface nd
    have HV := Lib.hid hv
    rw [hv, ← hi] at hsz
    clear hP hi hv htx
    go_enter Tryz.func10, Tryz.ntmps10
    go_wp2_with (first
      | (go_at_call 37; refine hr.mono ?_; rintro e W1 ⟨hb, hm⟩; rw [HP.out] at hm; obtain rfl := hm; rw [HV.out])
      | (go_at_call 45; refine (hsz _).mono ?_; rintro e W2 ⟨rfl, hb2⟩))
    go_ret
    exact ⟨rfl, hb.trans (hb2.mono hb.size)⟩

/-! ### Its parts -/
theorem own_below {W W' : World} {B n : Nat} {v : Value} {xs : List Value} (h : W.ownsRow B 9 1 v n xs) (hb : Below W.heap.size W W') : W'.ownsRow B 9 1 v n xs :=
  h.kept (below_grown hb none) (by cases h : v.ownBlock <;> simp)

set_option maxHeartbeats 2000000 in
theorem pparts_none (t : ByteArray) (w : World) {N : Nat} (hE : Laid3 N w) (hP : readP t.toList = none) :
    Calls Tryz.prog 11 #[.string t] w fun e w' => e = .returned (.slice none 0 0) ∧ Below w.heap.size w w' := by
  have hr := pread40 t.toList w hE
  rw [bytes_eta] at hr
  have HP := Lib.hid hP
  clear hP
  go_enter Tryz.func11, Tryz.ntmps11
  go_wp2_with (go_at_call 37; refine hr.mono ?_; rintro e W1 ⟨hb, hm⟩; rw [HP.out] at hm; obtain ⟨T, v, rfl⟩ := hm)
  go_ret
  exact ⟨rfl, hb⟩
set_option maxHeartbeats 2000000 in
theorem pparts_atom (t : ByteArray) (w : World) {N : Nat} (hE : Laid3 N w) {a : List UInt8} (hP : readP t.toList = some (.atom a)) :
    Calls Tryz.prog 11 #[.string t] w fun e w' => e = .returned (.slice none 0 0) ∧ Below w.heap.size w w' := by
  have hr := pread40 t.toList w hE
  rw [bytes_eta] at hr
  have HP := Lib.hid hP
  clear hP
  have hm : ∀ W : World, (method 308 145 (.string ⟨a.toArray⟩) "loop.example/surelywrong/impl.parts").run Tryz.prog W = .ok (173, .string ⟨a.toArray⟩) W := fun _ => by kernel_rfl
  go_enter Tryz.func11, Tryz.ntmps11
  go_wp2_with (first
    | (go_at_call 37; refine hr.mono ?_; rintro e W1 ⟨hb, hm⟩; rw [HP.out] at hm; obtain rfl := hm; unfold nodeV)
    | (go_at_call 173; refine (parts128 _ _).mono ?_; rintro e W2 ⟨rfl, rfl⟩))
  go_loopw [5, 18] (fun o i wr => o = .slice none 0 0 ∧ i = .int .i64 0 ∧ wr = W1) (fun _ _ _ => 0)
  case atStart => exact ⟨rfl, rfl, rfl⟩
  case round =>
    obtain ⟨rfl, rfl, rfl⟩ := hrel
    go_wp2
    go_ret
    exact ⟨rfl, hb⟩

set_option maxHeartbeats 2000000 in
theorem pparts_loop (t : ByteArray) (w : World) {N : Nat} (hE : Laid3 N w) {p : Node} (hP : readP t.toList = some (.loop p)) :
    Calls Tryz.prog 11 #[.string t] w fun e w' => ∃ v, e = .returned v ∧ w'.ownsRow w.heap.size 9 1 v 1 (texts [p.text]) ∧ Below w.heap.size w w' := by
  have hr := pread40 t.toList w hE
  rw [bytes_eta] at hr
  obtain ⟨hok, htx, h60, h6⟩ := readP_iff.1 hP
  have hpl : p.text.length ≤ 1000 := by rw [htx] at h60; simp [Node.text] at h60; omega
  have HT := ptext p hok hpl
  have hmt := meth_text p hok
  have hcf := call_text p hok
  have HV := Lib.hid (nodeV_eq p hok)
  have HP := Lib.hid hP
  obtain ⟨i0, hi, hz0, hz1, hz2⟩ := info_parts Tryz.info9
  clear hP htx h60 h6 hok hpl
  have hm : ∀ W : World, (method 308 66 (.agg #[.iface (nodeT p) (nodeX p)]) "loop.example/surelywrong/impl.parts").run Tryz.prog W = .ok (163, .agg #[.iface (nodeT p) (nodeX p)]) W := fun _ => by kernel_rfl
  go_enter Tryz.func11, Tryz.ntmps11
  go_wp2_with (first
    | (go_at_call 37; refine hr.mono ?_; rintro e W1 ⟨hb, hm⟩; rw [HP.out] at hm; obtain rfl := hm; rw [nodeV, HV.out])
    | (go_at_call 163; refine (parts121 _ _ _).mono ?_; rintro e W2 ⟨g, rfl, hg, c0, hb2⟩))
  have hB0 := hb.trans (hb2.mono hb.size)
  go_loopw [5, 18] (fun o i wr => ((i = .int .i64 0 ∧ wr = W2 ∧ o = .slice none 0 0) ∨ (i = .int .i64 1 ∧ wr.ownsRow w.heap.size 9 1 o 1 (texts [p.text]) ∧ Below w.heap.size w wr)) ) (fun _ i _ => 1 - (intOf i).toNat)
  case atStart => exact .inl ⟨rfl, rfl, rfl⟩
  case round =>
    rcases hrel with ⟨rfl, rfl, rfl⟩ | ⟨rfl, hown, hB⟩
    · go_wp2_with (first
        | (refine (HT _).mono ?_; rintro e W3 ⟨rfl, hb3⟩; have hB3 := hB0.trans (hb3.mono hB0.size))
        | (at_builtin; refine wpList_append_own _ rfl _ _ 29 rfl w.heap.size 9 i0 (.string ⟨#[]⟩) 1 16 Tryz.underlying29 hi hz0 hz1 hz2 rfl (by decide) _ 0 (texts []) rfl (World.ownsRow_nil _ _ _ _) ⟨W3.heap.size, 0, none⟩ 1 1 [.string ⟨p.text.toArray⟩] rfl (by rfl) (cell_one_new _ _ _) (by simp [Value.oneCell']) (by unfold maxLen; omega) (by omega) (by have := hB3.size; simp; omega) ?_; intro v' w1 hown' hgrow _; have hE4 := (hB3.alloc hB3.size _).grown hgrow (by have := hB3.size; simp; omega) (fun i e => by cases e); clear hgrow))
      go_roundw
      case rel => exact .inr ⟨rfl, hown', hE4⟩
      case measure => simp [intOf]
    · go_wp2
      go_ret
      exact ⟨_, rfl, hown, hB⟩

set_option maxHeartbeats 2000000 in
theorem pparts_seq (t : ByteArray) (w : World) {N : Nat} (hE : Laid3 N w) {p q : Node} (hP : readP t.toList = some (.pair 59 p q)) :
    Calls Tryz.prog 11 #[.string t] w fun e w' => ∃ v, e = .returned v ∧ w'.ownsRow w.heap.size 9 1 v 2 (texts [p.text, q.text]) ∧ Below w.heap.size w w' := by
  have hr := pread40 t.toList w hE
  rw [bytes_eta] at hr
  obtain ⟨hok, htx, h60, h6⟩ := readP_iff.1 hP
  obtain ⟨_, hok1, hok2⟩ := hok
  have hpl : p.text.length ≤ 1000 ∧ q.text.length ≤ 1000 := by rw [htx] at h60; simp [Node.text] at h60; omega
  have HT1 := ptext p hok1 hpl.1
  have HT2 := ptext q hok2 hpl.2
  have hmt1 := meth_text p hok1
  have hmt2 := meth_text q hok2
  have hcf1 := call_text p hok1
  have hcf2 := call_text q hok2
  have HV1 := Lib.hid (nodeV_eq p hok1)
  have HV2 := Lib.hid (nodeV_eq q hok2)
  have HP := Lib.hid hP
  obtain ⟨i0, hi, hz0, hz1, hz2⟩ := info_parts Tryz.info9
  clear hP htx h60 h6 hok1 hok2 hpl
  have hm : ∀ W : World, (method 308 124 (.agg #[.iface (nodeT p) (nodeX p), .iface (nodeT q) (nodeX q)]) "loop.example/surelywrong/impl.parts").run Tryz.prog W = .ok (169, .agg #[.iface (nodeT p) (nodeX p), .iface (nodeT q) (nodeX q)]) W := fun _ => by kernel_rfl
  go_enter Tryz.func11, Tryz.ntmps11
  go_wp2_with (first
    | (go_at_call 37; refine hr.mono ?_; rintro e W1 ⟨hb, hm⟩; rw [HP.out] at hm; obtain rfl := hm; rw [nodeV_seq, HV1.out, HV2.out])
    | (go_at_call 169; refine (parts117 _ _ _ _ _).mono ?_; rintro e W2 ⟨g, rfl, hg, c0, c1, hb2⟩))
  have hB0 := hb.trans (hb2.mono hb.size)
  go_loopw [5, 18] (fun o i wr => ((i = .int .i64 0 ∧ wr = W2 ∧ o = .slice none 0 0) ∨ (i = .int .i64 1 ∧ wr.ownsRow w.heap.size 9 1 o 1 (texts [p.text]) ∧ Below w.heap.size w wr ∧ Below W2.heap.size W2 wr) ∨ (i = .int .i64 2 ∧ wr.ownsRow w.heap.size 9 1 o 2 (texts [p.text, q.text]) ∧ Below w.heap.size w wr)) ) (fun _ i _ => 2 - (intOf i).toNat)
  case atStart => exact .inl ⟨rfl, rfl, rfl⟩
  case round =>
    rcases hrel with ⟨rfl, rfl, rfl⟩ | ⟨rfl, hown, hB, hC⟩ | ⟨rfl, hown, hB⟩
    · go_wp2_with (first
        | (refine (HT1 _).mono ?_; rintro e W3 ⟨rfl, hb3⟩; have hB3 := hB0.trans (hb3.mono hB0.size))
        | (at_builtin; refine wpList_append_own _ rfl _ _ 29 rfl wr.heap.size 9 i0 (.string ⟨#[]⟩) 1 16 Tryz.underlying29 hi hz0 hz1 hz2 rfl (by decide) _ 0 (texts []) rfl (World.ownsRow_nil _ _ _ _) ⟨W3.heap.size, 0, none⟩ 1 1 [.string ⟨p.text.toArray⟩] rfl (by rfl) (cell_one_new _ _ _) (by simp [Value.oneCell']) (by unfold maxLen; omega) (by omega) (by have := hb3.size; simp; omega) ?_; intro v' w1 hown' hgrow _; have hE4 := (hb3.alloc hb3.size _).grown hgrow (by have := hb3.size; simp; omega) (fun i e => by cases e); clear hgrow))
      go_roundw
      case rel => exact .inr (.inl ⟨rfl, own_base hown' hB0.size, hB0.trans (hE4.mono hB0.size), hE4⟩)
      case measure => simp [intOf]
    · have e1 := (hC.cell (p := ⟨g, 1, none⟩) hg).trans c1
      go_wp2_with (first
        | (refine (HT2 _).mono ?_; rintro e W3 ⟨rfl, hb3⟩; have hB3 := hB.trans (hb3.mono hB.size); have hown3 := own_below hown hb3)
        | (at_builtin; refine wpList_append_own _ rfl _ _ 29 rfl w.heap.size 9 i0 (.string ⟨#[]⟩) 1 16 Tryz.underlying29 hi hz0 hz1 hz2 rfl (by decide) _ 1 (texts [p.text]) rfl (hown3.alloc _) ⟨W3.heap.size, 0, none⟩ 1 1 [.string ⟨q.text.toArray⟩] rfl (by rfl) (cell_one_new _ _ _) (by simp [Value.oneCell']) (by unfold maxLen; omega) (by omega) (by have := hB3.size; simp; omega) ?_; intro v' w1 hown' hgrow _; have hE4 := (hB3.alloc hB3.size _).grown hgrow (by have := hB3.size; simp; omega) (fun i e => (hown3.lt i e).1); clear hgrow))
      go_roundw
      case rel => exact .inr (.inr ⟨rfl, hown', hE4⟩)
      case measure => simp [intOf]
    · go_wp2
      go_ret
      exact ⟨_, rfl, hown, hB⟩

set_option maxHeartbeats 2000000 in
theorem pparts_choice (t : ByteArray) (w : World) {N : Nat} (hE : Laid3 N w) {p q : Node} (hP : readP t.toList = some (.pair 124 p q)) :
    Calls Tryz.prog 11 #[.string t] w fun e w' => ∃ v, e = .returned v ∧ w'.ownsRow w.heap.size 9 1 v 2 (texts [p.text, q.text]) ∧ Below w.heap.size w w' := by
  have hr := pread40 t.toList w hE
  rw [bytes_eta] at hr
  obtain ⟨hok, htx, h60, h6⟩ := readP_iff.1 hP
  obtain ⟨_, hok1, hok2⟩ := hok
  have hpl : p.text.length ≤ 1000 ∧ q.text.length ≤ 1000 := by rw [htx] at h60; simp [Node.text] at h60; omega
  have HT1 := ptext p hok1 hpl.1
  have HT2 := ptext q hok2 hpl.2
  have hmt1 := meth_text p hok1
  have hmt2 := meth_text q hok2
  have hcf1 := call_text p hok1
  have hcf2 := call_text q hok2
  have HV1 := Lib.hid (nodeV_eq p hok1)
  have HV2 := Lib.hid (nodeV_eq q hok2)
  have HP := Lib.hid hP
  obtain ⟨i0, hi, hz0, hz1, hz2⟩ := info_parts Tryz.info9
  clear hP htx h60 h6 hok1 hok2 hpl
  have hm : ∀ W : World, (method 308 127 (.agg #[.iface (nodeT p) (nodeX p), .iface (nodeT q) (nodeX q)]) "loop.example/surelywrong/impl.parts").run Tryz.prog W = .ok (171, .agg #[.iface (nodeT p) (nodeX p), .iface (nodeT q) (nodeX q)]) W := fun _ => by kernel_rfl
  go_enter Tryz.func11, Tryz.ntmps11
  go_wp2_with (first
    | (go_at_call 37; refine hr.mono ?_; rintro e W1 ⟨hb, hm⟩; rw [HP.out] at hm; obtain rfl := hm; rw [nodeV_choice, HV1.out, HV2.out])
    | (go_at_call 171; refine (parts119 _ _ _ _ _).mono ?_; rintro e W2 ⟨g, rfl, hg, c0, c1, hb2⟩))
  have hB0 := hb.trans (hb2.mono hb.size)
  go_loopw [5, 18] (fun o i wr => ((i = .int .i64 0 ∧ wr = W2 ∧ o = .slice none 0 0) ∨ (i = .int .i64 1 ∧ wr.ownsRow w.heap.size 9 1 o 1 (texts [p.text]) ∧ Below w.heap.size w wr ∧ Below W2.heap.size W2 wr) ∨ (i = .int .i64 2 ∧ wr.ownsRow w.heap.size 9 1 o 2 (texts [p.text, q.text]) ∧ Below w.heap.size w wr)) ) (fun _ i _ => 2 - (intOf i).toNat)
  case atStart => exact .inl ⟨rfl, rfl, rfl⟩
  case round =>
    rcases hrel with ⟨rfl, rfl, rfl⟩ | ⟨rfl, hown, hB, hC⟩ | ⟨rfl, hown, hB⟩
    · go_wp2_with (first
        | (refine (HT1 _).mono ?_; rintro e W3 ⟨rfl, hb3⟩; have hB3 := hB0.trans (hb3.mono hB0.size))
        | (at_builtin; refine wpList_append_own _ rfl _ _ 29 rfl wr.heap.size 9 i0 (.string ⟨#[]⟩) 1 16 Tryz.underlying29 hi hz0 hz1 hz2 rfl (by decide) _ 0 (texts []) rfl (World.ownsRow_nil _ _ _ _) ⟨W3.heap.size, 0, none⟩ 1 1 [.string ⟨p.text.toArray⟩] rfl (by rfl) (cell_one_new _ _ _) (by simp [Value.oneCell']) (by unfold maxLen; omega) (by omega) (by have := hb3.size; simp; omega) ?_; intro v' w1 hown' hgrow _; have hE4 := (hb3.alloc hb3.size _).grown hgrow (by have := hb3.size; simp; omega) (fun i e => by cases e); clear hgrow))
      go_roundw
      case rel => exact .inr (.inl ⟨rfl, own_base hown' hB0.size, hB0.trans (hE4.mono hB0.size), hE4⟩)
      case measure => simp [intOf]
    · have e1 := (hC.cell (p := ⟨g, 1, none⟩) hg).trans c1
      go_wp2_with (first
        | (refine (HT2 _).mono ?_; rintro e W3 ⟨rfl, hb3⟩; have hB3 := hB.trans (hb3.mono hB.size); have hown3 := own_below hown hb3)
        | (at_builtin; refine wpList_append_own _ rfl _ _ 29 rfl w.heap.size 9 i0 (.string ⟨#[]⟩) 1 16 Tryz.underlying29 hi hz0 hz1 hz2 rfl (by decide) _ 1 (texts [p.text]) rfl (hown3.alloc _) ⟨W3.heap.size, 0, none⟩ 1 1 [.string ⟨q.text.toArray⟩] rfl (by rfl) (cell_one_new _ _ _) (by simp [Value.oneCell']) (by unfold maxLen; omega) (by omega) (by have := hB3.size; simp; omega) ?_; intro v' w1 hown' hgrow _; have hE4 := (hB3.alloc hB3.size _).grown hgrow (by have := hB3.size; simp; omega) (fun i e => (hown3.lt i e).1); clear hgrow))
      go_roundw
      case rel => exact .inr (.inr ⟨rfl, hown', hE4⟩)
      case measure => simp [intOf]
    · go_wp2
      go_ret
      exact ⟨_, rfl, hown, hB⟩

theorem partsP_len (l : List UInt8) : (partsP l).length ≤ 2 := by
  unfold partsP
  split <;> simp
/-- The parts of a program, each a text of its own. -/
theorem pparts15 (t : ByteArray) (w : World) {N : Nat} (hE : Laid3 N w) :
    Calls Tryz.prog 11 #[.string t] w fun e w' => ∃ v, e = .returned v ∧ w'.ownsRow w.heap.size 9 1 v (partsP t.toList).length (texts (partsP t.toList)) ∧ Below w.heap.size w w' := by
  cases hP : readP t.toList with
  | none =>
    have hp : partsP t.toList = [] := by unfold partsP; rw [hP]
    rw [hp]
    exact (pparts_none t w hE hP).mono fun e w' ⟨he, hb⟩ => ⟨_, he, World.ownsRow_nil _ _ _ _, hb⟩
  | some nd =>
    obtain ⟨hok, _⟩ := readP_iff.1 hP
    cases nd with
    | atom a =>
      have hp : partsP t.toList = [] := by unfold partsP; rw [hP]
      rw [hp]
      exact (pparts_atom t w hE hP).mono fun e w' ⟨he, hb⟩ => ⟨_, he, World.ownsRow_nil _ _ _ _, hb⟩
    | loop p =>
      have hp : partsP t.toList = [p.text] := by unfold partsP; rw [hP]
      rw [hp]
      exact pparts_loop t w hE hP
    | pair k p q =>
      have hp : partsP t.toList = [p.text, q.text] := by unfold partsP; rw [hP]
      rw [hp]
      obtain ⟨rfl | rfl, _, _⟩ := hok
      · exact pparts_seq t w hE hP
      · exact pparts_choice t w hE hP
end Go.Proofs.YtngcdgnijfiocaaGreatDoor

