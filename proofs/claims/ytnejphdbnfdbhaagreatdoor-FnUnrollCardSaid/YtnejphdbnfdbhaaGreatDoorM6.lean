/- The model's answers on what is reached. -/
import Derived.Test.YtnejphdbnfdbhaaGreatDoorM5
import Derived.Test.YtnejphdbnfdbhaaGreatDoorR5
namespace Go.Proofs.YtnejphdbnfdbhaaGreatDoor
open Go.ChangeShapes Go.WideShapes Go.ChangeAt Go.RowKit Go.Shelf
attribute [local go_sem] Oper.semAt_some
set_option maxRecDepth 100000

theorem mexit22 (a b : Nat) (x : Int) (hx : x = 0 ∨ x = 1) (w : World) :
    Calls Tryz.prog 45 #[.agg #[.int .i64 (a : Int), .int .i64 (b : Int)], .int .i64 x] w fun e w' => e = .returned (.int .i64 ((exitN x (a, b) : Nat) : Int)) ∧ Below w.heap.size w w' := by
  rcases hx with rfl | rfl
  · go_enter Tryz.func45, Tryz.ntmps45
    go_wp2_with fail
    go_ret
    exact ⟨rfl, (Below.refl _ _).alloc (Nat.le_refl _) _⟩
  · go_enter Tryz.func45, Tryz.ntmps45
    go_wp2_with fail
    go_ret
    exact ⟨rfl, (Below.refl _ _).alloc (Nat.le_refl _) _⟩

/-- What is asked of a text, a set and an exit. -/
def Asked (t : ByteArray) (b : Bool) (W : World) (e : Ending) (W' : World) : Prop := Below W.heap.size W W' ∧
  ∃ k s ad n cap, e = .returned (.tuple #[.agg #[.int .u8 k, .string s, .slice ad n cap], .bool b]) ∧ ∀ nd, readP t.toList = some nd → NodeIs W' W.heap.size W'.heap.size nd k s ad n cap
theorem ret_asked {Z : World} {a : Act} {k : Int} {s : ByteArray} {ad : Option Addr} {m cap g : Nat} {b : Bool} {R : Ending → World → Prop} (hv : Var Z g k s ad m cap) (ha : a.tmps[6]?.getD undef = .pointer (some ⟨g, 0, none⟩)) (hb : a.tmps[7]?.getD undef = .bool b) (hdf : a.defers = [])
    (h : R (.returned (.tuple #[.agg #[.int .u8 k, .string s, .slice ad m cap], .bool b])) Z) : bodyPost Tryz.prog Tryz.f43 R Exit.ret a Z := by
  obtain ⟨c0, c1, c2, _⟩ := hv.cells
  refine bodyPost_ret (v := .tuple #[.agg #[.int .u8 k, .string s, .slice ad m cap], .bool b]) ?_ hdf h
  simp [results, Tryz.results43, go_sem, ha, hb, c0, c1, c2]
theorem asked_end {W V : World} {k0 k : Int} {s0 s : ByteArray} {ad0 ad : Option Addr} {m0 c0 m cap : Nat} (h : Var V W.heap.size k0 s0 ad0 m0 c0) (hA : Below W.heap.size W V) :
    Var (set3 V W.heap.size k s ad m cap).drew W.heap.size k s ad m cap ∧ Below W.heap.size W (set3 V W.heap.size k s ad m cap).drew :=
  ⟨set3_var h k s ad m cap, (((hA.setCell (p := ⟨W.heap.size, 0, none⟩) (Nat.le_refl _) _).setCell (p := ⟨W.heap.size, 1, none⟩) (Nat.le_refl _) _).setCell (p := ⟨W.heap.size, 2, none⟩) (Nat.le_refl _) _).drew⟩
theorem asked_node {W V : World} {k : Int} {s : ByteArray} {ad : Option Addr} {m cap hi : Nat} {nd : Node} (h : NodeIs V (W.heap.size + 1) hi nd k s ad m cap) (hhi : hi ≤ V.heap.size) :
    NodeIs (set3 V W.heap.size k s ad m cap).drew W.heap.size (set3 V W.heap.size k s ad m cap).drew.heap.size nd k s ad m cap := by
  have h1 := h.same (W' := set3 V W.heap.size k s ad m cap) (fun b hb1 _ => set3_block (g := W.heap.size) (U := V) (by omega) k s ad m cap)
  have h2 : (set3 V W.heap.size k s ad m cap).heap.size = V.heap.size := set3_size V W.heap.size k s ad m cap
  exact (h1.wide (lo' := W.heap.size) (hi' := (set3 V W.heap.size k s ad m cap).heap.size) (by omega) (by omega)).drew
theorem Var.kept {V W : World} {g : Nat} {k : Int} {s : ByteArray} {ad : Option Addr} {m cap : Nat} (hb : Below V.heap.size V W) (h : Var V g k s ad m cap) : Var W g k s ad m cap := (hb.block g (Array.getElem?_eq_some_iff.1 h).1).trans h

set_option maxHeartbeats 4000000 in
theorem masked_none (t : ByteArray) (ht : t.size ≤ 9000000) (s x : Int) (W : World) (hP : readP t.toList = none) :
    Calls Tryz.prog 43 #[.string t, .int .i64 s, .int .i64 x] W (Asked t false W) := by
  have hr := read42 t ht
  have HP := Lib.hid hP
  clear hP
  have V0 := Var.new W 0 ⟨#[]⟩ none 0 0
  have hA : Below W.heap.size W (W.alloc (.cells #[.int .u8 0, .string ⟨#[]⟩, .slice none 0 0] 69)) := (Below.refl _ W).alloc (Nat.le_refl _) _
  go_enter Tryz.func43, Tryz.ntmps43
  go_wp2_with (go_at_call 55; refine (hr _).mono ?_; rintro e W1 ⟨hb1, hm⟩; rw [HP.out] at hm; obtain rfl := hm)
  have V1 := (Var.kept hb1 V0).grown (World.grownBy_alloc W1 (.cells #[.int .u8 0, .string ⟨#[]⟩, .slice none 0 0] 69) none) (by simp)
  have X1 := Var.new W1 0 ⟨#[]⟩ none 0 0
  have hA1 := (hA.trans (hb1.mono hA.size)).alloc (Nat.le_trans hA.size hb1.size) (.cells #[.int .u8 0, .string ⟨#[]⟩, .slice none 0 0] 69)
  clear V0 hA hb1
  generalize W1.alloc (.cells #[.int .u8 0, .string ⟨#[]⟩, .slice none 0 0] 69) = V at V1 X1 hA1 ⊢
  generalize W1.heap.size = g at X1 ⊢
  obtain ⟨c0, c1, c2, _⟩ := X1.cells
  obtain ⟨q0, q1, q2, p0, p1, p2⟩ := V1.cells
  have hW := Lib.hid (And.intro V1 hA1)
  clear V1 hA1 X1
  go_region
  all_goals go_wp2_with fail
  all_goals
    have hE := asked_end (k := 0) (s := ⟨#[]⟩) (ad := none) (m := 0) (cap := 0) hW.out.1 hW.out.2
    exact ret_asked hE.1 rfl rfl rfl ⟨hE.2, _, _, _, _, _, rfl, fun nd h => by rw [HP.out] at h; cases h⟩

set_option maxHeartbeats 4000000 in
theorem masked_set (t : ByteArray) (ht : t.size ≤ 9000000) (s x : Int) (W : World) {nd : Node} (hP : readP t.toList = some nd) (hs : isSet s = false) :
    Calls Tryz.prog 43 #[.string t, .int .i64 s, .int .i64 x] W (Asked t false W) := by
  have hr := read42 t ht
  have HP := Lib.hid hP
  have HS := Lib.hid hs
  clear hP hs
  have V0 := Var.new W 0 ⟨#[]⟩ none 0 0
  have hA : Below W.heap.size W (W.alloc (.cells #[.int .u8 0, .string ⟨#[]⟩, .slice none 0 0] 69)) := (Below.refl _ W).alloc (Nat.le_refl _) _
  go_enter Tryz.func43, Tryz.ntmps43
  go_wp2_with (go_at_call 55; refine (hr _).mono ?_; rintro e W1 ⟨hb1, hm⟩; rw [HP.out] at hm; obtain ⟨k, s1, ad, n, cap, rfl, hnd⟩ := hm)
  have hal : Below W1.heap.size W1 (W1.alloc (.cells #[.int .u8 k, .string s1, .slice ad n cap] 69)) := (Below.refl _ _).alloc (Nat.le_refl _) _
  rw [World.size_alloc] at hnd
  have HD0 : ∀ nd', readP t.toList = some nd' → NodeIs (set3 (W1.alloc (.cells #[.int .u8 k, .string s1, .slice ad n cap] 69)) W.heap.size k s1 ad n cap).drew W.heap.size (set3 (W1.alloc (.cells #[.int .u8 k, .string s1, .slice ad n cap] 69)) W.heap.size k s1 ad n cap).drew.heap.size nd' k s1 ad n cap := by
    intro nd' h
    rw [HP.out] at h
    cases h
    exact asked_node (hnd.below hal (Nat.le_refl _)) hal.size
  have V1 := (Var.kept hb1 V0).grown (World.grownBy_alloc W1 (.cells #[.int .u8 k, .string s1, .slice ad n cap] 69) none) (by simp)
  have X1 := Var.new W1 k s1 ad n cap
  have hA1 := (hA.trans (hb1.mono hA.size)).alloc (Nat.le_trans hA.size hb1.size) (.cells #[.int .u8 k, .string s1, .slice ad n cap] 69)
  clear V0 hA hb1 hal hnd
  generalize W1.alloc (.cells #[.int .u8 k, .string s1, .slice ad n cap] 69) = V at V1 X1 hA1 HD0 ⊢
  generalize W1.heap.size = g at X1 ⊢
  obtain ⟨c0, c1, c2, _⟩ := X1.cells
  obtain ⟨q0, q1, q2, p0, p1, p2⟩ := V1.cells
  have HD := Lib.hid HD0
  clear HD0
  have hW := Lib.hid (And.intro V1 hA1)
  clear V1 hA1 X1
  refine wp_region_any (by kernel_rfl) ?_
  change wpAny _ _ _ _ _ _ _ (World.drew _)
  refine wpAny_take (i := 1) (v := .bool true) rfl (by kernel_rfl) (by kernel_rfl) (by kernel_rfl) (fun _ _ _ h => h) (Or.inl ⟨by rfl, fun w => by first | rfl | go_simp⟩) ?_
  refine wpAny_take (i := 2) (v := .bool true) rfl (by kernel_rfl) (by kernel_rfl) (by kernel_rfl) (fun _ _ _ h => h) (Or.inl ⟨by rfl, fun w => by first | rfl | go_simp⟩) ?_
  refine wpAny_take (i := 3) (v := .int .i64 s) rfl (by kernel_rfl) (by kernel_rfl) (by kernel_rfl) (fun _ _ _ h => h) (Or.inl ⟨by rfl, fun w => by first | rfl | go_simp⟩) ?_
  refine wpAny_ready (rs := [0, 4]) (by kernel_rfl) (by simp) ?_
  refine AllReady.cons rfl (fun K hK => ?_) (AllReady.cons rfl (fun K hK => ?_) AllReady.nil)
  · go_simp
    refine hK _ _ ?_
    clear hK K
    refine wpAny_ready (rs := [4]) (by kernel_rfl) (by simp) ?_
    refine AllReady.cons rfl (fun K hK => ?_) AllReady.nil
    go_simp
    go_wp2_with (go_at_call 72; refine (sv25 _ _).mono ?_; rintro e w' ⟨rfl, rfl⟩; rw [HS.out])
    refine wpAny_take (i := 5) (v := .bool false) rfl (by kernel_rfl) (by kernel_rfl) (by kernel_rfl) (fun _ _ _ h => h) (Or.inl ⟨by rfl, fun w => by first | rfl | go_simp⟩) ?_
    refine wpAny_take (i := 6) (v := .bool false) rfl (by kernel_rfl) (by kernel_rfl) (by kernel_rfl) (fun _ _ _ h => h) (Or.inl ⟨by rfl, fun w => by first | rfl | go_simp⟩) ?_
    refine wpAny_take (i := 7) (v := undef) rfl (by kernel_rfl) (by kernel_rfl) (by kernel_rfl) (fun _ _ _ h => h) (Or.inr ⟨by rfl, rfl⟩) ?_
    refine wpAny_take (i := 8) (v := undef) rfl (by kernel_rfl) (by kernel_rfl) (by kernel_rfl) (fun _ _ _ h => h) (Or.inr ⟨by rfl, rfl⟩) ?_
    refine wpAny_take (i := 9) (v := .bool false) rfl (by kernel_rfl) (by kernel_rfl) (by kernel_rfl) (fun _ _ _ h => h) (Or.inl ⟨by rfl, fun w => by first | rfl | go_simp⟩) ?_
    refine wpAny_ready (rs := [10]) (by kernel_rfl) (by simp) ?_
    refine AllReady.cons rfl (fun K hK => ?_) AllReady.nil
    go_simp
    refine hK _ _ ?_
    clear hK K
    refine wpAny_take (i := 11) (v := .bool false) rfl (by kernel_rfl) (by kernel_rfl) (by kernel_rfl) (fun _ _ _ h => h) (Or.inl ⟨by rfl, fun w => by first | rfl | go_simp⟩) ?_
    refine wpAny_done (by kernel_rfl) ?_ _
    go_wp2_with fail
    have hE := asked_end (k := k) (s := s1) (ad := ad) (m := n) (cap := cap) hW.out.1 hW.out.2
    exact ret_asked hE.1 rfl rfl rfl ⟨hE.2, _, _, _, _, _, rfl, HD.out⟩
  · go_simp
    go_wp2_with (go_at_call 72; refine (sv25 _ _).mono ?_; rintro e w' ⟨rfl, rfl⟩; rw [HS.out])
    refine wpAny_take (i := 5) (v := .bool false) rfl (by kernel_rfl) (by kernel_rfl) (by kernel_rfl) (fun _ _ _ h => h) (Or.inl ⟨by rfl, fun w => by first | rfl | go_simp⟩) ?_
    refine wpAny_take (i := 6) (v := .bool false) rfl (by kernel_rfl) (by kernel_rfl) (by kernel_rfl) (fun _ _ _ h => h) (Or.inl ⟨by rfl, fun w => by first | rfl | go_simp⟩) ?_
    refine wpAny_take (i := 7) (v := undef) rfl (by kernel_rfl) (by kernel_rfl) (by kernel_rfl) (fun _ _ _ h => h) (Or.inr ⟨by rfl, rfl⟩) ?_
    refine wpAny_take (i := 8) (v := undef) rfl (by kernel_rfl) (by kernel_rfl) (by kernel_rfl) (fun _ _ _ h => h) (Or.inr ⟨by rfl, rfl⟩) ?_
    refine wpAny_take (i := 9) (v := .bool false) rfl (by kernel_rfl) (by kernel_rfl) (by kernel_rfl) (fun _ _ _ h => h) (Or.inl ⟨by rfl, fun w => by first | rfl | go_simp⟩) ?_
    refine wpAny_ready (rs := [0]) (by kernel_rfl) (by simp) ?_
    refine AllReady.cons rfl (fun K hK => ?_) AllReady.nil
    go_simp
    refine hK _ _ ?_
    clear hK K
    refine wpAny_ready (rs := [10]) (by kernel_rfl) (by simp) ?_
    refine AllReady.cons rfl (fun K hK => ?_) AllReady.nil
    go_simp
    refine hK _ _ ?_
    clear hK K
    refine wpAny_take (i := 11) (v := .bool false) rfl (by kernel_rfl) (by kernel_rfl) (by kernel_rfl) (fun _ _ _ h => h) (Or.inl ⟨by rfl, fun w => by first | rfl | go_simp⟩) ?_
    refine wpAny_done (by kernel_rfl) ?_ _
    go_wp2_with fail
    have hE := asked_end (k := k) (s := s1) (ad := ad) (m := n) (cap := cap) hW.out.1 hW.out.2
    exact ret_asked hE.1 rfl rfl rfl ⟨hE.2, _, _, _, _, _, rfl, HD.out⟩
theorem cell_other3 {V : World} {g n o : Nat} (hne : g ≠ n) (x y z : Value) : (((V.setCell ⟨n, 0, none⟩ x).setCell ⟨n, 1, none⟩ y).setCell ⟨n, 2, none⟩ z).cell? ⟨g, o, none⟩ = V.cell? ⟨g, o, none⟩ :=
  ((World.cell?_of_block (heap_setCell_other _ _ g _ hne)).trans (World.cell?_of_block (heap_setCell_other _ _ g _ hne))).trans (World.cell?_of_block (heap_setCell_other _ _ g _ hne))

set_option maxHeartbeats 4000000 in
theorem masked_in (t : ByteArray) (ht : t.size ≤ 9000000) (s x : Int) (W : World) {nd : Node} (hP : readP t.toList = some nd) (hs : isSet s = true) :
    Calls Tryz.prog 43 #[.string t, .int .i64 s, .int .i64 x] W (Asked t (inB x 0 1) W) := by
  have hr := read42 t ht
  have HP := Lib.hid hP
  have HS := Lib.hid hs
  clear hP hs
  have V0 := Var.new W 0 ⟨#[]⟩ none 0 0
  have hA : Below W.heap.size W (W.alloc (.cells #[.int .u8 0, .string ⟨#[]⟩, .slice none 0 0] 69)) := (Below.refl _ W).alloc (Nat.le_refl _) _
  go_enter Tryz.func43, Tryz.ntmps43
  go_wp2_with (go_at_call 55; refine (hr _).mono ?_; rintro e W1 ⟨hb1, hm⟩; rw [HP.out] at hm; obtain ⟨k, s1, ad, n, cap, rfl, hnd⟩ := hm)
  have hal : Below W1.heap.size W1 (W1.alloc (.cells #[.int .u8 k, .string s1, .slice ad n cap] 69)) := (Below.refl _ _).alloc (Nat.le_refl _) _
  rw [World.size_alloc] at hnd
  have HD0 : ∀ nd', readP t.toList = some nd' → NodeIs (set3 (W1.alloc (.cells #[.int .u8 k, .string s1, .slice ad n cap] 69)) W.heap.size k s1 ad n cap).drew W.heap.size (set3 (W1.alloc (.cells #[.int .u8 k, .string s1, .slice ad n cap] 69)) W.heap.size k s1 ad n cap).drew.heap.size nd' k s1 ad n cap := by
    intro nd' h
    rw [HP.out] at h
    cases h
    exact asked_node (hnd.below hal (Nat.le_refl _)) hal.size
  have V1 := (Var.kept hb1 V0).grown (World.grownBy_alloc W1 (.cells #[.int .u8 k, .string s1, .slice ad n cap] 69) none) (by simp)
  have X1 := Var.new W1 k s1 ad n cap
  have hA1 := (hA.trans (hb1.mono hA.size)).alloc (Nat.le_trans hA.size hb1.size) (.cells #[.int .u8 k, .string s1, .slice ad n cap] 69)
  have hsz := hb1.size
  rw [World.size_alloc] at hsz
  clear V0 hA hb1 hal hnd
  generalize W1.alloc (.cells #[.int .u8 k, .string s1, .slice ad n cap] 69) = V at V1 X1 hA1 HD0 ⊢
  have hgn : W1.heap.size ≠ W.heap.size := Nat.ne_of_gt (Nat.lt_of_lt_of_le (Nat.lt_succ_self _) hsz)
  clear hsz
  generalize W1.heap.size = g at X1 hgn ⊢
  obtain ⟨c0, c1, c2, _⟩ := X1.cells
  obtain ⟨q0, q1, q2, p0, p1, p2⟩ := V1.cells
  have HD := Lib.hid HD0
  clear HD0
  have hW := Lib.hid (And.intro V1 hA1)
  clear V1 hA1 X1
  go_region_held3 (fun w' => w'.cell? ⟨g, 0, none⟩ = some (.int .u8 k) ∧ w'.cell? ⟨g, 1, none⟩ = some (.string s1) ∧ w'.cell? ⟨g, 2, none⟩ = some (.slice ad n cap)) (first | exact ⟨c0, c1, c2⟩ | exact ⟨(cell_other3 hgn _ _ _).trans c0, (cell_other3 hgn _ _ _).trans c1, (cell_other3 hgn _ _ _).trans c2⟩ | go_keep)
    (first
      | (go_at_call 72; refine (sv25 _ _).mono ?_; rintro e w' ⟨rfl, rfl⟩; rw [HS.out])
      | (go_at_call 44; refine (inB40 _ _ _ _).mono ?_; rintro e w' ⟨rfl, rfl⟩))
  all_goals go_wp2_with fail
  all_goals
    have hE := asked_end (k := k) (s := s1) (ad := ad) (m := n) (cap := cap) hW.out.1 hW.out.2
    exact ret_asked hE.1 rfl rfl rfl ⟨hE.2, _, _, _, _, _, rfl, HD.out⟩
/-- **THE MODEL's QUESTION.** -/
theorem masked21 (t : ByteArray) (ht : t.size ≤ 9000000) (s x : Int) (W : World) :
    Calls Tryz.prog 43 #[.string t, .int .i64 s, .int .i64 x] W (Asked t (reachB t s x) W) := by
  cases hP : readP t.toList with
  | none =>
    rw [(reach_none hP s x).2]
    exact masked_none t ht s x W hP
  | some nd =>
    cases hs : isSet s with
    | false =>
      rw [(reach_bad (t := t) (s := s) (x := x) (by rw [hs]; rfl)).2]
      exact masked_set t ht s x W hP hs
    | true =>
      have e : reachB t s x = inB x 0 1 := by unfold reachB; rw [hP, hs]; rfl
      rw [e]
      exact masked_in t ht s x W hP hs
end Go.Proofs.YtnejphdbnfdbhaaGreatDoor

