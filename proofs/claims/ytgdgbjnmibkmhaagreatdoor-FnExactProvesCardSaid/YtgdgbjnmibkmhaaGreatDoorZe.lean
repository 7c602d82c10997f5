/- Chapter 6, the program: LineHolds. Chapter 6, the program: LineHolds, whole. Chapter 6: the walk of the exact law on whether a line follows by its rule. Triples and lines that lie in slices: where they stand, and an argument opened. -/
import Derived.Test.YtgdgbjnmibkmhaaGreatDoorZj
import Derived.Test.YtgdgbjnmibkmhaaGreatDoorZd
import Derived.Test.YtgdgbjnmibkmhaaGreatDoorZb
import Derived.Test.YtgdgbjnmibkmhaaGreatDoorL5
import Derived.Deep.Slices
import Derived.ChangeSame
namespace Go.Proofs.YtgdgbjnmibkmhaaGreatDoor
open Go.ChangeShapes Go.WideShapes Go.ChangeAt Go.RowKit Go.Shelf
attribute [local go_sem] Oper.semAt_some
attribute [local go_sem] store_func store_nofunc
set_option maxRecDepth 100000

/-- One triple, valid or not: the list of one. -/
theorem one_trip (X : World) (T : Trip) : TripsAt (X.alloc (.cells #[.int .i64 T.b, .string T.p, .int .i64 T.x, .int .i64 T.r] 31)) (.slice (some ⟨X.heap.size, 0, none⟩) 1 1) [T] := by
  refine ⟨_, 1, rfl, Nat.le_refl _, by unfold maxLen; omega, .inr ⟨X.heap.size, 0, rfl, fun j U hU => ?_⟩⟩
  obtain ⟨c0, c1, c2, c3⟩ := (TripAt.new X T.b T.p T.x T.r).cells
  match j, hU with
  | 0, hU => cases hU; exact ⟨c0, c1, c2, c3⟩
theorem rule_vals {k : Nat} {v : Value} (h : RuleV k v) (hk : k < 11) : ∃ (w : List UInt8) (kd : ByteArray) (f : Nat), rulesL[k]? = some w ∧ ruleCells[k * 4 + 1]? = some (.string kd) ∧ ruleCells[k * 4 + 3]? = some (.func (.func f) #[] #[]) ∧ v = .agg #[.string ⟨w.toArray⟩, .string kd, .int .i64 (takesR k), .func (.func f) #[] #[]] := by
  obtain ⟨w, kd, tk, f, h1, h2, h3, h4, rfl⟩ := h
  have e : tk = (takesR k : Int) := by
    match k, hk with
    | 0, _ | 1, _ | 2, _ | 3, _ | 4, _ | 5, _ | 6, _ | 7, _ | 8, _ | 9, _ | 10, _ => cases h3; rfl
  exact ⟨w, kd, f, h1, h2, h4, by rw [e]⟩
set_option maxHeartbeats 4000000 in
theorem plh_none (T : Trip) (u : ByteArray) (ra : Option Addr) (rn rc : Nat) {W : World} {v : Value} {fs : List Trip} (hfs : TripsAt W v fs) {N : Nat} (hL : Laid3 N W) (hN : NoRule N W) (h : ixR u.toList = none) :
    Calls Tryz.prog 14 #[.agg #[.int .i64 T.b, .string T.p, .int .i64 T.x, .int .i64 T.r, .string u, .slice ra rn rc], v] W fun e W' => e = .returned (.bool false) ∧ Below W.heap.size W W' := by
  have hR := fun X (h1 : NoRule N X) h2 => ruleOf91 u X h1 h2
  have H := Lib.hid h
  obtain ⟨a, c, rfl, q1, q2, q3⟩ := hfs
  unfold maxLen at q2
  have hcur : Below W.heap.size W (W.alloc (.cells #[.int .i64 T.b, .string T.p, .int .i64 T.x, .int .i64 T.r, .string u, .slice ra rn rc] 33)) := (Below.refl _ W).alloc (Nat.le_refl _) _
  have hS := Six.new W 33 (.int .i64 T.b) (.string T.p) (.int .i64 T.x) (.int .i64 T.r) (.string u) (.slice ra rn rc)
  obtain ⟨c0, c1, c2, c3, c4, c5⟩ := hS.cells
  clear q3 h
  go_enter Tryz.func14, Tryz.ntmps14
  go_wp2_with fail
  go_at_call 45
  refine (hR _ (hN.below hcur hL.lt) (Nat.le_trans hL.lt hcur.size)).mono ?_
  rintro e W1 ⟨hr, b1⟩
  rcases hr with ⟨k, v, hk, _, _⟩ | ⟨_, T9, u9, rfl⟩
  · rw [H.out] at hk; cases hk
  have hc1 := hcur.trans (b1.mono hcur.size)
  have hF := Four4.new W1 67 (.string ⟨#[]⟩) (.string ⟨#[]⟩) (.int .i64 0) .nilFunc
  obtain ⟨d0, d1, d2, d3⟩ := hF.cells
  go_wp2_with fail
  go_ret
  exact ⟨rfl, hc1.alloc hc1.size _⟩
set_option maxHeartbeats 4000000 in
theorem plh_gen (T : Trip) (u : ByteArray) (ra : Option Addr) (rn rc : Nat) {W : World} {v : Value} {fs : List Trip} (hfs : TripsAt W v fs) {N : Nat} (hL : Laid3 N W) (hN : NoRule N W) {k : Nat} (h : ixR u.toList = some k) (hl : fs.length ≠ takesR k) :
    Calls Tryz.prog 14 #[.agg #[.int .i64 T.b, .string T.p, .int .i64 T.x, .int .i64 T.r, .string u, .slice ra rn rc], v] W fun e W' => e = .returned (.bool false) ∧ Below W.heap.size W W' := by
  have hR := fun X (h1 : NoRule N X) h2 => ruleOf91 u X h1 h2
  have H := Lib.hid h
  obtain ⟨hk11, _⟩ := ix_lt h
  obtain ⟨a, c, rfl, q1, q2, q3⟩ := hfs
  unfold maxLen at q2
  have hcur : Below W.heap.size W (W.alloc (.cells #[.int .i64 T.b, .string T.p, .int .i64 T.x, .int .i64 T.r, .string u, .slice ra rn rc] 33)) := (Below.refl _ W).alloc (Nat.le_refl _) _
  have hS := Six.new W 33 (.int .i64 T.b) (.string T.p) (.int .i64 T.x) (.int .i64 T.r) (.string u) (.slice ra rn rc)
  obtain ⟨c0, c1, c2, c3, c4, c5⟩ := hS.cells
  have hne : ¬ (fs.length : Int) = (takesR k : Int) := by omega
  clear q3 h
  go_enter Tryz.func14, Tryz.ntmps14
  go_wp2_with fail
  go_at_call 45
  refine (hR _ (hN.below hcur hL.lt) (Nat.le_trans hL.lt hcur.size)).mono ?_
  rintro e W1 ⟨hr, b1⟩
  rcases hr with ⟨k', v, hk, hv, rfl⟩ | ⟨hk, _⟩
  case inr => rw [H.out] at hk; cases hk
  rw [H.out] at hk
  cases hk
  obtain ⟨w, kd, f, _, _, _, rfl⟩ := rule_vals hv hk11
  have hc1 := hcur.trans (b1.mono hcur.size)
  have hF := Four4.new W1 67 (.string ⟨w.toArray⟩) (.string kd) (.int .i64 (takesR k)) (.func (.func f) #[] #[])
  obtain ⟨d0, d1, d2, d3⟩ := hF.cells
  generalize (takesR k : Int) = tk at hne d2 ⊢
  go_wp2_with fail
  go_ret
  exact ⟨rfl, hc1.alloc hc1.size _⟩
set_option maxHeartbeats 4000000 in
theorem plh_bad (T : Trip) (u : ByteArray) (ra : Option Addr) (rn rc : Nat) {W : World} {v : Value} {fs : List Trip} (hfs : TripsAt W v fs) {N : Nat} (hL : Laid3 N W) (hN : NoRule N W) {k : Nat} (h : ixR u.toList = some k) (hl : fs.length = takesR k) (hT : okTr T = false) :
    Calls Tryz.prog 14 #[.agg #[.int .i64 T.b, .string T.p, .int .i64 T.x, .int .i64 T.r, .string u, .slice ra rn rc], v] W fun e W' => e = .returned (.bool false) ∧ Below W.heap.size W W' := by
  have hR := fun X (h1 : NoRule N X) h2 => ruleOf91 u X h1 h2
  have H := Lib.hid h
  obtain ⟨hk11, _⟩ := ix_lt h
  obtain ⟨a, c, rfl, q1, q2, q3⟩ := hfs
  unfold maxLen at q2
  have hcur : Below W.heap.size W (W.alloc (.cells #[.int .i64 T.b, .string T.p, .int .i64 T.x, .int .i64 T.r, .string u, .slice ra rn rc] 33)) := (Below.refl _ W).alloc (Nat.le_refl _) _
  have hS := Six.new W 33 (.int .i64 T.b) (.string T.p) (.int .i64 T.x) (.int .i64 T.r) (.string u) (.slice ra rn rc)
  obtain ⟨c0, c1, c2, c3, c4, c5⟩ := hS.cells
  have hA := fun (X : World) v (h : TripsAt X v [T]) (hX : Laid3 N X) => areValid92 h hX
  rw [show [T].all okTr = false by simp [hT]] at hA
  clear hT
  clear q3 h
  go_enter Tryz.func14, Tryz.ntmps14
  go_wp2_with fail
  go_at_call 45
  refine (hR _ (hN.below hcur hL.lt) (Nat.le_trans hL.lt hcur.size)).mono ?_
  rintro e W1 ⟨hr, b1⟩
  rcases hr with ⟨k', v, hk, hv, rfl⟩ | ⟨hk, _⟩
  case inr => rw [H.out] at hk; cases hk
  rw [H.out] at hk
  cases hk
  obtain ⟨w, kd, f, _, _, _, rfl⟩ := rule_vals hv hk11
  have hc1 := hcur.trans (b1.mono hcur.size)
  have hF := Four4.new W1 67 (.string ⟨w.toArray⟩) (.string kd) (.int .i64 (takesR k)) (.func (.func f) #[] #[])
  obtain ⟨d0, d1, d2, d3⟩ := hF.cells
  rw [← hl] at d2 hF ⊢
  clear hl
  have hS1 := (hS.below b1 hS.lt).alloc (.cells #[.string ⟨w.toArray⟩, .string kd, .int .i64 (fs.length : Int), .func (.func f) #[] #[]] 67)
  obtain ⟨c0, c1, c2, c3, c4, c5⟩ := hS1.cells
  have hc2 : Below W.heap.size W (W1.alloc (.cells #[.string ⟨w.toArray⟩, .string kd, .int .i64 (fs.length : Int), .func (.func f) #[] #[]] 67)) := hc1.alloc hc1.size _
  have hO := one_trip (W1.alloc (.cells #[.string ⟨w.toArray⟩, .string kd, .int .i64 (fs.length : Int), .func (.func f) #[] #[]] 67)) T
  rw [World.size_alloc] at hO
  have hc3 := hc2.alloc hc2.size (.cells #[.int .i64 T.b, .string T.p, .int .i64 T.x, .int .i64 T.r] 31)
  have hA1 := hA _ _ hO (hL.below hc3 hL.lt)
  go_wp2_with fail
  go_at_call 46
  refine hA1.mono ?_
  rintro e W2 ⟨rfl, b2⟩
  go_wp2_with fail
  go_ret
  exact ⟨rfl, hc3.trans (b2.mono hc3.size)⟩
set_option maxHeartbeats 4000000 in
theorem plh_from (T : Trip) (u : ByteArray) (ra : Option Addr) (rn rc : Nat) {W : World} {v : Value} {fs : List Trip} (hfs : TripsAt W v fs) {N : Nat} (hL : Laid3 N W) (hN : NoRule N W) {k : Nat} (h : ixR u.toList = some k) (hl : fs.length = takesR k) (hT : okTr T = true) (hF0 : fs.all okTr = false) :
    Calls Tryz.prog 14 #[.agg #[.int .i64 T.b, .string T.p, .int .i64 T.x, .int .i64 T.r, .string u, .slice ra rn rc], v] W fun e W' => e = .returned (.bool false) ∧ Below W.heap.size W W' := by
  have hR := fun X (h1 : NoRule N X) h2 => ruleOf91 u X h1 h2
  have H := Lib.hid h
  obtain ⟨hk11, _⟩ := ix_lt h
  have hfs0 := Lib.hid hfs
  have hG := fun (X : World) (h : TripsAt X v fs) (hX : Laid3 N X) => areValid92 h hX
  rw [hF0] at hG
  have hGG := Lib.hid hG
  clear hF0 hG
  obtain ⟨a, c, rfl, q1, q2, q3⟩ := hfs
  unfold maxLen at q2
  have hcur : Below W.heap.size W (W.alloc (.cells #[.int .i64 T.b, .string T.p, .int .i64 T.x, .int .i64 T.r, .string u, .slice ra rn rc] 33)) := (Below.refl _ W).alloc (Nat.le_refl _) _
  have hS := Six.new W 33 (.int .i64 T.b) (.string T.p) (.int .i64 T.x) (.int .i64 T.r) (.string u) (.slice ra rn rc)
  obtain ⟨c0, c1, c2, c3, c4, c5⟩ := hS.cells
  have hA := fun (X : World) v (h : TripsAt X v [T]) (hX : Laid3 N X) => areValid92 h hX
  rw [show [T].all okTr = true by simp [hT]] at hA
  clear hT
  clear q3 h
  go_enter Tryz.func14, Tryz.ntmps14
  go_wp2_with fail
  go_at_call 45
  refine (hR _ (hN.below hcur hL.lt) (Nat.le_trans hL.lt hcur.size)).mono ?_
  rintro e W1 ⟨hr, b1⟩
  rcases hr with ⟨k', v, hk, hv, rfl⟩ | ⟨hk, _⟩
  case inr => rw [H.out] at hk; cases hk
  rw [H.out] at hk
  cases hk
  obtain ⟨w, kd, f, _, _, _, rfl⟩ := rule_vals hv hk11
  have hc1 := hcur.trans (b1.mono hcur.size)
  have hF := Four4.new W1 67 (.string ⟨w.toArray⟩) (.string kd) (.int .i64 (takesR k)) (.func (.func f) #[] #[])
  obtain ⟨d0, d1, d2, d3⟩ := hF.cells
  rw [← hl] at d2 hF ⊢
  clear hl
  have hS1 := (hS.below b1 hS.lt).alloc (.cells #[.string ⟨w.toArray⟩, .string kd, .int .i64 (fs.length : Int), .func (.func f) #[] #[]] 67)
  obtain ⟨c0, c1, c2, c3, c4, c5⟩ := hS1.cells
  have hc2 : Below W.heap.size W (W1.alloc (.cells #[.string ⟨w.toArray⟩, .string kd, .int .i64 (fs.length : Int), .func (.func f) #[] #[]] 67)) := hc1.alloc hc1.size _
  have hO := one_trip (W1.alloc (.cells #[.string ⟨w.toArray⟩, .string kd, .int .i64 (fs.length : Int), .func (.func f) #[] #[]] 67)) T
  rw [World.size_alloc] at hO
  have hc3 := hc2.alloc hc2.size (.cells #[.int .i64 T.b, .string T.p, .int .i64 T.x, .int .i64 T.r] 31)
  have hA1 := hA _ _ hO (hL.below hc3 hL.lt)
  go_wp2_with fail
  go_at_call 46
  refine hA1.mono ?_
  rintro e W2 ⟨rfl, b2⟩
  have hc4 := hc3.trans (b2.mono hc3.size)
  have hG1 := hGG.out _ (hfs0.out.below hc4) (hL.below hc4 hL.lt)
  clear hfs0 hGG
  go_wp2_with fail
  go_at_call 46
  refine hG1.mono ?_
  rintro e W3 ⟨rfl, b3⟩
  go_wp2_with fail
  go_ret
  exact ⟨rfl, hc4.trans (b3.mono hc4.size)⟩
/-- The cells of a line and of its rule. -/
def LhAt (X : World) (gs gr : Nat) (T : Trip) (u : ByteArray) (ra : Option Addr) (rn rc : Nat) (w : List UInt8) (kd : ByteArray) (n f : Nat) : Prop := X.cell? ⟨gs, 0, none⟩ = some (.int .i64 T.b) ∧ X.cell? ⟨gs, 1, none⟩ = some (.string T.p) ∧ X.cell? ⟨gs, 2, none⟩ = some (.int .i64 T.x) ∧ X.cell? ⟨gs, 3, none⟩ = some (.int .i64 T.r) ∧ X.cell? ⟨gs, 4, none⟩ = some (.string u) ∧ X.cell? ⟨gs, 5, none⟩ = some (.slice ra rn rc) ∧ X.cell? ⟨gr, 0, none⟩ = some (.string ⟨w.toArray⟩) ∧ X.cell? ⟨gr, 1, none⟩ = some (.string kd) ∧ X.cell? ⟨gr, 2, none⟩ = some (.int .i64 (n : Int)) ∧ X.cell? ⟨gr, 3, none⟩ = some (.func (.func f) #[] #[])
theorem LhAt.through {A' X Y : World} {gs gr : Nat} {T : Trip} {u : ByteArray} {ra : Option Addr} {rn rc : Nat} {w : List UInt8} {kd : ByteArray} {n f : Nat} {m : Nat} (bk : Below m X Y) (h : LhAt A' gs gr T u ra rn rc w kd n f) (e : A'.heap = X.heap) (hn : X.heap.size ≤ m) : LhAt Y gs gr T u ra rn rc w kd n f := by
  have hX : LhAt X gs gr T u ra rn rc w kd n f := by unfold LhAt World.cell? at *; rw [← e]; exact h
  have bk := bk.mono hn
  obtain ⟨h0, h1, h2, h3, h4, h5, h6, h7, h8, h9⟩ := hX
  exact ⟨cell_below bk h0, cell_below bk h1, cell_below bk h2, cell_below bk h3, cell_below bk h4, cell_below bk h5, cell_below bk h6, cell_below bk h7, cell_below bk h8, cell_below bk h9⟩
set_option maxHeartbeats 4000000 in
theorem plh_yes (T : Trip) (u : ByteArray) (ra : Option Addr) (rn rc : Nat) {W : World} {v : Value} {fs : List Trip} (hfs : TripsAt W v fs) {N : Nat} (hL : Laid3 N W) (hN : NoRule N W) {k : Nat} (h : ixR u.toList = some k) (hl : fs.length = takesR k) (hT : okTr T = true) (hF0 : fs.all okTr = true) (hE : NoTrip N W)
    {w0 : List UInt8} {kd0 : ByteArray} {f0 : Nat} (r1 : rulesL[k]? = some w0) (r2 : ruleCells[k * 4 + 1]? = some (.string kd0)) (r3 : ruleCells[k * 4 + 3]? = some (.func (.func f0) #[] #[])) (x1 x2 : Bool) (hEn : ∀ args w, (callFunc f0 args).run Tryz.prog w = .ok (.enter f0 args) w)
    (hFits : ∀ X, Laid3 N X → Calls Tryz.prog 47 #[.agg #[.string ⟨w0.toArray⟩, .string kd0, .int .i64 (fs.length : Int), .func (.func f0) #[] #[]], .string T.p] X fun e W' => e = .returned (.bool x1) ∧ Below X.heap.size X W')
    (hFol : x1 = true → ∀ (X : World) (pa : Option Addr) (pc : Nat), (∃ B, X.ownsRow B 9 1 (.slice pa (partsP T.p.toList).length pc) (partsP T.p.toList).length (texts (partsP T.p.toList))) → TripsAt X v fs → Laid3 N X → NoTrip N X → ∀ a c, v = .slice a fs.length c →
      Calls Tryz.prog f0 #[.agg #[.int .i64 T.b, .string T.p, .int .i64 T.x, .int .i64 T.r, .string u, .slice ra rn rc, .slice pa (partsP T.p.toList).length pc, .slice a fs.length c]] X fun e W' => e = .returned (.bool x2) ∧ Below X.heap.size X W') :
    Calls Tryz.prog 14 #[.agg #[.int .i64 T.b, .string T.p, .int .i64 T.x, .int .i64 T.r, .string u, .slice ra rn rc], v] W fun e W' => e = .returned (.bool (x1 && x2)) ∧ Below W.heap.size W W' := by
  have hR := fun X (h1 : NoRule N X) h2 => ruleOf91 u X h1 h2
  have H := Lib.hid h
  obtain ⟨hk11, _⟩ := ix_lt h
  have hPt := fun X (hX : Laid3 N X) => pparts15 T.p X hX
  have HF := Lib.hid hFol
  clear hFol
  generalize partsP T.p.toList = ps at hPt HF
  have hfs0 := Lib.hid hfs
  have hG := fun (X : World) (h : TripsAt X v fs) (hX : Laid3 N X) => areValid92 h hX
  rw [hF0] at hG
  have hGG := Lib.hid hG
  clear hF0 hG
  obtain ⟨a, c, rfl, q1, q2, q3⟩ := hfs
  unfold maxLen at q2
  have hcur : Below W.heap.size W (W.alloc (.cells #[.int .i64 T.b, .string T.p, .int .i64 T.x, .int .i64 T.r, .string u, .slice ra rn rc] 33)) := (Below.refl _ W).alloc (Nat.le_refl _) _
  have hS := Six.new W 33 (.int .i64 T.b) (.string T.p) (.int .i64 T.x) (.int .i64 T.r) (.string u) (.slice ra rn rc)
  obtain ⟨c0, c1, c2, c3, c4, c5⟩ := hS.cells
  have hA := fun (X : World) v (h : TripsAt X v [T]) (hX : Laid3 N X) => areValid92 h hX
  rw [show [T].all okTr = true by simp [hT]] at hA
  clear hT
  clear q3 h
  go_enter Tryz.func14, Tryz.ntmps14
  go_wp2_with fail
  go_at_call 45
  refine (hR _ (hN.below hcur hL.lt) (Nat.le_trans hL.lt hcur.size)).mono ?_
  rintro e W1 ⟨hr, b1⟩
  rcases hr with ⟨k', v, hk, hv, rfl⟩ | ⟨hk, _⟩
  case inr => rw [H.out] at hk; cases hk
  rw [H.out] at hk
  cases hk
  obtain ⟨w, kd, f, s1, s2, s3, rfl⟩ := rule_vals hv hk11
  rw [r1] at s1
  rw [r2] at s2
  rw [r3] at s3
  obtain rfl := Option.some.inj s1
  obtain rfl : kd0 = kd := Value.string.inj (Option.some.inj s2)
  obtain rfl : f0 = f := by have := Option.some.inj s3; simpa using this
  clear s1 s2 s3 r1 r2 r3
  have hc1 := hcur.trans (b1.mono hcur.size)
  have hF := Four4.new W1 67 (.string ⟨w0.toArray⟩) (.string kd0) (.int .i64 (takesR k)) (.func (.func f0) #[] #[])
  obtain ⟨d0, d1, d2, d3⟩ := hF.cells
  rw [← hl] at d2 hF ⊢
  clear hl
  have hS1 := (hS.below b1 hS.lt).alloc (.cells #[.string ⟨w0.toArray⟩, .string kd0, .int .i64 (fs.length : Int), .func (.func f0) #[] #[]] 67)
  obtain ⟨c0, c1, c2, c3, c4, c5⟩ := hS1.cells
  have hc2 : Below W.heap.size W (W1.alloc (.cells #[.string ⟨w0.toArray⟩, .string kd0, .int .i64 (fs.length : Int), .func (.func f0) #[] #[]] 67)) := hc1.alloc hc1.size _
  have hO := one_trip (W1.alloc (.cells #[.string ⟨w0.toArray⟩, .string kd0, .int .i64 (fs.length : Int), .func (.func f0) #[] #[]] 67)) T
  rw [World.size_alloc] at hO
  have hc3 := hc2.alloc hc2.size (.cells #[.int .i64 T.b, .string T.p, .int .i64 T.x, .int .i64 T.r] 31)
  have hA1 := hA _ _ hO (hL.below hc3 hL.lt)
  go_wp2_with fail
  go_at_call 46
  refine hA1.mono ?_
  rintro e W2 ⟨rfl, b2⟩
  have hc4 := hc3.trans (b2.mono hc3.size)
  have hG1 := hGG.out _ (hfs0.out.below hc4) (hL.below hc4 hL.lt)
  clear hGG
  go_wp2_with fail
  go_at_call 46
  refine hG1.mono ?_
  rintro e W3 ⟨rfl, b3⟩
  have hc5 := hc4.trans (b3.mono hc4.size)
  have hS5 := ((hS1.alloc (.cells #[.int .i64 T.b, .string T.p, .int .i64 T.x, .int .i64 T.r] 31)).below b2 (hS1.alloc (.cells #[.int .i64 T.b, .string T.p, .int .i64 T.x, .int .i64 T.r] 31)).lt)
  have hS6 := hS5.below b3 hS5.lt
  obtain ⟨c0, c1, c2, c3, c4, c5⟩ := hS6.cells
  have hF5 := (hF.below ((Below.refl _ _).alloc (Nat.le_refl _) (.cells #[.int .i64 T.b, .string T.p, .int .i64 T.x, .int .i64 T.r] 31)) hF.lt)
  have hF6 := (hF5.below b2 hF5.lt).below b3 (hF5.below b2 hF5.lt).lt
  obtain ⟨d0, d1, d2, d3⟩ := hF6.cells
  have hq : LhAt W3 W.heap.size W1.heap.size T u ra rn rc w0 kd0 fs.length f0 := ⟨c0, c1, c2, c3, c4, c5, d0, d1, d2, d3⟩
  clear hS1 hS hF hF5 hF6 hS5 hS6 hO hA1 hG1
  cases x1 with
  | false =>
    go_wp2_with fail
    refine wp_region_held (S := fun w' => LhAt w' W.heap.size W1.heap.size T u ra rn rc w0 kd0 fs.length f0) (by kernel_rfl) ?_
    refine wpAnyH_take (i := 0) (v := .agg #[.string ⟨w0.toArray⟩, .string kd0, .int .i64 (fs.length : Int), .func (.func f0) #[] #[]]) rfl (by kernel_rfl) (by kernel_rfl) (by kernel_rfl) (fun _ _ _ h => h) (Or.inl ⟨by rfl, fun w hw => by obtain ⟨l0, l1, l2, l3, l4, l5, l6, l7, l8, l9⟩ := hw; first | (go_simp; done) | rfl⟩) hq ?_
    go_simp
    refine wpAnyH_take (i := 1) (v := .pointer (some ⟨W.heap.size, 0, none⟩)) rfl (by kernel_rfl) (by kernel_rfl) (by kernel_rfl) (fun _ _ _ h => h) (Or.inl ⟨by rfl, fun w hw => by go_simp⟩) hq ?_
    go_simp
    refine wpAnyH_take (i := 2) (v := .pointer (some ⟨W.heap.size, 1, none⟩)) rfl (by kernel_rfl) (by kernel_rfl) (by kernel_rfl) (fun _ _ _ h => h) (Or.inl ⟨by rfl, fun w hw => by go_simp⟩) hq ?_
    go_simp
    refine wpAnyH_take (i := 3) (v := .string T.p) rfl (by kernel_rfl) (by kernel_rfl) (by kernel_rfl) (fun _ _ _ h => h) (Or.inl ⟨by rfl, fun w hw => by obtain ⟨l0, l1, l2, l3, l4, l5, l6, l7, l8, l9⟩ := hw; first | (go_simp; done) | rfl⟩) hq ?_
    go_simp
    refine wpAnyH_ready (rs := [4]) (by kernel_rfl) (by simp) ?_
    refine AllReadyH.cons rfl (fun K hK => ?_) AllReadyH.nil
    go_simp
    go_wp2_with (go_at_call 47; refine (hFits _ (hL.below hc5.drew hL.lt)).mono ?_; rintro e Wk1 ⟨rfl, bk1⟩; have hc6 := hc5.drew.trans (bk1.mono hc5.size))
    refine hK _ _ (LhAt.through bk1 hq rfl (Nat.le_refl _)) (fun hR1 => ?_)
    clear hK K
    go_simp
    refine wpAnyH_take (i := 5) (v := .bool false) rfl (by kernel_rfl) (by kernel_rfl) (by kernel_rfl) (fun _ _ _ h => h) (Or.inl ⟨by rfl, fun w hw => by go_simp⟩) hR1 ?_
    go_simp
    refine wpAnyH_take (i := 6) (v := undef) rfl (by kernel_rfl) (by kernel_rfl) (by kernel_rfl) (fun _ _ _ h => h) (Or.inr ⟨by rfl, rfl⟩) hR1 ?_
    go_simp
    refine wpAnyH_take (i := 7) (v := undef) rfl (by kernel_rfl) (by kernel_rfl) (by kernel_rfl) (fun _ _ _ h => h) (Or.inr ⟨by rfl, rfl⟩) hR1 ?_
    go_simp
    refine wpAnyH_take (i := 8) (v := undef) rfl (by kernel_rfl) (by kernel_rfl) (by kernel_rfl) (fun _ _ _ h => h) (Or.inr ⟨by rfl, rfl⟩) hR1 ?_
    go_simp
    refine wpAnyH_take (i := 9) (v := undef) rfl (by kernel_rfl) (by kernel_rfl) (by kernel_rfl) (fun _ _ _ h => h) (Or.inr ⟨by rfl, rfl⟩) hR1 ?_
    go_simp
    refine wpAnyH_take (i := 10) (v := undef) rfl (by kernel_rfl) (by kernel_rfl) (by kernel_rfl) (fun _ _ _ h => h) (Or.inr ⟨by rfl, rfl⟩) hR1 ?_
    go_simp
    refine wpAnyH_take (i := 11) (v := undef) rfl (by kernel_rfl) (by kernel_rfl) (by kernel_rfl) (fun _ _ _ h => h) (Or.inr ⟨by rfl, rfl⟩) hR1 ?_
    go_simp
    refine wpAnyH_take (i := 12) (v := undef) rfl (by kernel_rfl) (by kernel_rfl) (by kernel_rfl) (fun _ _ _ h => h) (Or.inr ⟨by rfl, rfl⟩) hR1 ?_
    go_simp
    refine wpAnyH_take (i := 13) (v := undef) rfl (by kernel_rfl) (by kernel_rfl) (by kernel_rfl) (fun _ _ _ h => h) (Or.inr ⟨by rfl, rfl⟩) hR1 ?_
    go_simp
    refine wpAnyH_take (i := 14) (v := undef) rfl (by kernel_rfl) (by kernel_rfl) (by kernel_rfl) (fun _ _ _ h => h) (Or.inr ⟨by rfl, rfl⟩) hR1 ?_
    go_simp
    refine wpAnyH_take (i := 15) (v := undef) rfl (by kernel_rfl) (by kernel_rfl) (by kernel_rfl) (fun _ _ _ h => h) (Or.inr ⟨by rfl, rfl⟩) hR1 ?_
    go_simp
    refine wpAnyH_take (i := 16) (v := .bool false) rfl (by kernel_rfl) (by kernel_rfl) (by kernel_rfl) (fun _ _ _ h => h) (Or.inl ⟨by rfl, fun w hw => by go_simp⟩) hR1 ?_
    go_simp
    refine wpAnyH_take (i := 17) (v := .bool false) rfl (by kernel_rfl) (by kernel_rfl) (by kernel_rfl) (fun _ _ _ h => h) (Or.inl ⟨by rfl, fun w hw => by go_simp⟩) hR1 ?_
    go_simp
    refine wpAnyH_done (by kernel_rfl) ?_ _
    go_wp2_with fail
    go_ret
    exact ⟨rfl, hc6⟩
  | true =>
    go_wp2_with fail
    refine wp_region_held (S := fun w' => LhAt w' W.heap.size W1.heap.size T u ra rn rc w0 kd0 fs.length f0) (by kernel_rfl) ?_
    refine wpAnyH_take (i := 0) (v := .agg #[.string ⟨w0.toArray⟩, .string kd0, .int .i64 (fs.length : Int), .func (.func f0) #[] #[]]) rfl (by kernel_rfl) (by kernel_rfl) (by kernel_rfl) (fun _ _ _ h => h) (Or.inl ⟨by rfl, fun w hw => by obtain ⟨l0, l1, l2, l3, l4, l5, l6, l7, l8, l9⟩ := hw; first | (go_simp; done) | rfl⟩) hq ?_
    go_simp
    refine wpAnyH_take (i := 1) (v := .pointer (some ⟨W.heap.size, 0, none⟩)) rfl (by kernel_rfl) (by kernel_rfl) (by kernel_rfl) (fun _ _ _ h => h) (Or.inl ⟨by rfl, fun w hw => by go_simp⟩) hq ?_
    go_simp
    refine wpAnyH_take (i := 2) (v := .pointer (some ⟨W.heap.size, 1, none⟩)) rfl (by kernel_rfl) (by kernel_rfl) (by kernel_rfl) (fun _ _ _ h => h) (Or.inl ⟨by rfl, fun w hw => by go_simp⟩) hq ?_
    go_simp
    refine wpAnyH_take (i := 3) (v := .string T.p) rfl (by kernel_rfl) (by kernel_rfl) (by kernel_rfl) (fun _ _ _ h => h) (Or.inl ⟨by rfl, fun w hw => by obtain ⟨l0, l1, l2, l3, l4, l5, l6, l7, l8, l9⟩ := hw; first | (go_simp; done) | rfl⟩) hq ?_
    go_simp
    refine wpAnyH_ready (rs := [4]) (by kernel_rfl) (by simp) ?_
    refine AllReadyH.cons rfl (fun K hK => ?_) AllReadyH.nil
    go_simp
    go_wp2_with (go_at_call 47; refine (hFits _ (hL.below hc5.drew hL.lt)).mono ?_; rintro e Wk1 ⟨rfl, bk1⟩; have hc6 := hc5.drew.trans (bk1.mono hc5.size))
    refine hK _ _ (LhAt.through bk1 hq rfl (Nat.le_refl _)) (fun hR1 => ?_)
    clear hK K
    go_simp
    refine wpAnyH_take (i := 5) (v := .bool true) rfl (by kernel_rfl) (by kernel_rfl) (by kernel_rfl) (fun _ _ _ h => h) (Or.inl ⟨by rfl, fun w hw => by go_simp⟩) hR1 ?_
    go_simp
    refine wpAnyH_take (i := 6) (v := .pointer (some ⟨W1.heap.size, 3, none⟩)) rfl (by kernel_rfl) (by kernel_rfl) (by kernel_rfl) (fun _ _ _ h => h) (Or.inl ⟨by rfl, fun w hw => by go_simp⟩) hR1 ?_
    go_simp
    refine wpAnyH_take (i := 7) (v := .func (.func f0) #[] #[]) rfl (by kernel_rfl) (by kernel_rfl) (by kernel_rfl) (fun _ _ _ h => h) (Or.inl ⟨by rfl, fun w hw => by obtain ⟨l0, l1, l2, l3, l4, l5, l6, l7, l8, l9⟩ := hw; first | (go_simp; done) | rfl⟩) hR1 ?_
    go_simp
    refine wpAnyH_take (i := 8) (v := .agg #[.int .i64 T.b, .string T.p, .int .i64 T.x, .int .i64 T.r, .string u, .slice ra rn rc]) rfl (by kernel_rfl) (by kernel_rfl) (by kernel_rfl) (fun _ _ _ h => h) (Or.inl ⟨by rfl, fun w hw => by obtain ⟨l0, l1, l2, l3, l4, l5, l6, l7, l8, l9⟩ := hw; first | (go_simp; done) | rfl⟩) hR1 ?_
    go_simp
    refine wpAnyH_take (i := 9) (v := .pointer (some ⟨W.heap.size, 0, none⟩)) rfl (by kernel_rfl) (by kernel_rfl) (by kernel_rfl) (fun _ _ _ h => h) (Or.inl ⟨by rfl, fun w hw => by go_simp⟩) hR1 ?_
    go_simp
    refine wpAnyH_take (i := 10) (v := .pointer (some ⟨W.heap.size, 1, none⟩)) rfl (by kernel_rfl) (by kernel_rfl) (by kernel_rfl) (fun _ _ _ h => h) (Or.inl ⟨by rfl, fun w hw => by go_simp⟩) hR1 ?_
    go_simp
    refine wpAnyH_take (i := 11) (v := .string T.p) rfl (by kernel_rfl) (by kernel_rfl) (by kernel_rfl) (fun _ _ _ h => h) (Or.inl ⟨by rfl, fun w hw => by obtain ⟨l0, l1, l2, l3, l4, l5, l6, l7, l8, l9⟩ := hw; first | (go_simp; done) | rfl⟩) hR1 ?_
    go_simp
    refine wpAnyH_take (i := 13) (v := .slice a fs.length c) rfl (by kernel_rfl) (by kernel_rfl) (by kernel_rfl) (fun _ _ _ h => h) (Or.inl ⟨by rfl, fun w hw => by go_simp⟩) hR1 ?_
    go_simp
    refine wpAnyH_ready (rs := [12]) (by kernel_rfl) (by simp) ?_
    refine AllReadyH.cons rfl (fun K hK => ?_) AllReadyH.nil
    go_simp
    go_wp2_with (go_at_call 48; refine (hPt _ (hL.below hc6 hL.lt)).mono ?_; rintro e Wk2 ⟨pv, rfl, hown, bk2⟩; obtain ⟨pa, pc, rfl⟩ := row_slice hown; have hc7 := hc6.trans (bk2.mono hc6.size))
    refine hK _ _ (LhAt.through bk2 hR1 rfl (Nat.le_refl _)) (fun hR2 => ?_)
    clear hK K
    go_simp
    refine wpAnyH_take (i := 14) (v := .agg #[.int .i64 T.b, .string T.p, .int .i64 T.x, .int .i64 T.r, .string u, .slice ra rn rc, .slice pa ps.length pc, .slice a fs.length c]) rfl (by kernel_rfl) (by kernel_rfl) (by kernel_rfl) (fun _ _ _ h => h) (Or.inl ⟨by rfl, fun w hw => by go_simp⟩) hR2 ?_
    go_simp
    refine wpAnyH_ready (rs := [15]) (by kernel_rfl) (by simp) ?_
    refine AllReadyH.cons rfl (fun K hK => ?_) AllReadyH.nil
    go_simp
    refine (HF.out (by simp) _ pa pc ⟨_, hown⟩ (hfs0.out.below hc7) (hL.below hc7 hL.lt) (hE.below hc7 hL.lt) _ _ rfl).mono ?_
    rintro e Wk3 ⟨rfl, bk3⟩
    refine hK _ _ (LhAt.through bk3 hR2 rfl (Nat.le_refl _)) (fun hR3 => ?_)
    clear hK K
    go_simp
    refine wpAnyH_take (i := 16) (v := .bool x2) rfl (by kernel_rfl) (by kernel_rfl) (by kernel_rfl) (fun _ _ _ h => h) (Or.inl ⟨by rfl, fun w hw => by go_simp⟩) hR3 ?_
    go_simp
    refine wpAnyH_take (i := 17) (v := .bool x2) rfl (by kernel_rfl) (by kernel_rfl) (by kernel_rfl) (fun _ _ _ h => h) (Or.inl ⟨by rfl, fun w hw => by go_simp⟩) hR3 ?_
    go_simp
    refine wpAnyH_done (by kernel_rfl) ?_ _
    go_wp2_with fail
    go_ret
    exact ⟨rfl, hc7.trans (bk3.mono hc7.size)⟩
end Go.Proofs.YtgdgbjnmibkmhaaGreatDoor

namespace Go.Proofs.YtgdgbjnmibkmhaaGreatDoor
open Go.ChangeShapes Go.WideShapes Go.ChangeAt Go.RowKit Go.Shelf
set_option maxRecDepth 100000

theorem first_of {X : World} {v : Value} {A : Trip} {r : List Trip} {a : Option Addr} {n c : Nat} (h : TripsAt X v (A :: r)) (hv : v = .slice a n c) : ∃ g o, a = some ⟨g, o, none⟩ ∧ TripCells X g o A := by
  obtain ⟨a', c', rfl, _, _, h3⟩ := h
  cases hv
  rcases h3 with h3 | ⟨g, o, rfl, h3⟩
  · cases h3
  · exact ⟨g, o, rfl, by have := h3 0 A rfl; rwa [Nat.zero_mul, Nat.add_zero] at this⟩
theorem two_of {X : World} {v : Value} {A C : Trip} {r : List Trip} {a : Option Addr} {n c : Nat} (h : TripsAt X v (A :: C :: r)) (hv : v = .slice a n c) : ∃ g o, a = some ⟨g, o, none⟩ ∧ TripCells X g o A ∧ TripCells X g (o + 4) C := by
  obtain ⟨a', c', rfl, _, _, h3⟩ := h
  cases hv
  rcases h3 with h3 | ⟨g, o, rfl, h3⟩
  · cases h3
  · exact ⟨g, o, rfl, by have := h3 0 A rfl; rwa [Nat.zero_mul, Nat.add_zero] at this, by have := h3 1 C rfl; rwa [Nat.one_mul] at this⟩
theorem part_of {X : World} {B : Nat} {pa : Option Addr} {pc j : Nat} {ps : List (List UInt8)} {q : List UInt8} (h : X.ownsRow B 9 1 (.slice pa ps.length pc) ps.length (texts ps)) (hj : ps[j]? = some q) : ∃ h i, pa = some ⟨h, i, none⟩ ∧ j < ps.length ∧ X.cell? ⟨h, i + j, none⟩ = some (.string ⟨q.toArray⟩) := by
  have hlt : j < ps.length := (List.getElem?_eq_some_iff.1 hj).1
  have hne : ps ≠ [] := by intro e; rw [e] at hlt; simp at hlt
  obtain ⟨g, cap, e, _, hc⟩ := texts_at (ws := ps) h hne
  cases e
  exact ⟨g, 0, rfl, hlt, by rw [Nat.zero_add]; exact hc j q hj⟩
theorem len_zero {fs : List Trip} (h : fs.length = 0) : fs = [] := List.length_eq_zero_iff.1 h
theorem len_one {fs : List Trip} (h : fs.length = 1) : ∃ A, fs = [A] := by
  match fs, h with
  | [A], _ => exact ⟨A, rfl⟩
theorem len_two {fs : List Trip} (h : fs.length = 2) : ∃ A C, fs = [A, C] := by
  match fs, h with
  | [A, C], _ => exact ⟨A, C, rfl⟩
theorem beq_eq8 {a b : List UInt8} (h : (a == b) = true) : b = a := (eq_of_beq h).symm
set_option maxHeartbeats 4000000 in
theorem plh_rule (T : Trip) (u : ByteArray) (ra : Option Addr) (rn rc : Nat) {W : World} {v : Value} {fs : List Trip} (hfs : TripsAt W v fs) {N : Nat} (hL : Laid3 N W) (hE : NoTrip N W) (hN : NoRule N W) {k : Nat} (hk : k < 11) (h : ixR u.toList = some k) (hl : fs.length = takesR k) (hT : okTr T = true) (hF : fs.all okTr = true) :
    Calls Tryz.prog 14 #[.agg #[.int .i64 T.b, .string T.p, .int .i64 T.x, .int .i64 T.r, .string u, .slice ra rn rc], v] W fun e W' => e = .returned (.bool (folR T k fs)) ∧ Below W.heap.size W W' := by
  have hx : T.x = 0 ∨ T.x = 1 := (valid_all (show validT T.b T.p T.x T.r = true from hT)).2.2.1
  match k, hk with
  | 0, _ =>
    obtain rfl := len_zero hl
    have e : folR T 0 [] = (true && (((partsP T.p.toList).length : Int) == 0 && (sureT T.b T.p T.x T.r && alwaysT T.b T.p T.x T.r))) := by rw [Bool.true_and]; rfl
    rw [e]
    refine plh_yes T u ra rn rc hfs hL hN h hl hT hF hE rfl rfl rfl true _ (enters_of Tryz.func94 (by kernel_rfl) rfl) (fun X _ => fits93_any _ _ _ T.p X) ?_
    rintro h1 X pa pc ⟨B, hown⟩ hts hX hEX a c hv
    exact rule0 ⟨T.b, T.p, T.x, T.r, u, ra, rn, rc, pa, (partsP T.p.toList).length, pc, a, 0, c⟩ X hX hEX
  | 1, _ =>
    obtain rfl := len_zero hl
    have e : folR T 1 [] = (true && (T.r == 0)) := by rw [Bool.true_and]; rfl
    rw [e]
    refine plh_yes T u ra rn rc hfs hL hN h hl hT hF hE rfl rfl rfl true _ (enters_of Tryz.func96 (by kernel_rfl) rfl) (fun X _ => fits93_any _ _ _ T.p X) ?_
    rintro h1 X pa pc ⟨B, hown⟩ hts hX hEX a c hv
    exact rule1 ⟨T.b, T.p, T.x, T.r, u, ra, rn, rc, pa, (partsP T.p.toList).length, pc, a, 0, c⟩ X
  | 2, _ =>
    obtain ⟨A, C, rfl⟩ := len_two hl
    have e : folR T 2 [A, C] = (([59] == kindP T.p.toList) && (sameT A.b A.p A.x A.r T.b (prt T.p 0) 0 A.r && sameT C.b C.p C.x C.r A.r (prt T.p 1) T.x T.r)) := rfl
    rw [e]
    refine plh_yes T u ra rn rc hfs hL hN h hl hT hF hE rfl rfl rfl ([59] == kindP T.p.toList) _ (enters_of Tryz.func97 (by kernel_rfl) rfl) (fun X hX => fits93_seq _ _ _ T.p X hX) ?_
    rintro h1 X pa pc ⟨B, hown⟩ hts hX hEX a c hv
    obtain ⟨p, q, ep, _, _⟩ := parts_pair (k := 59) (Or.inl rfl) (beq_eq8 h1)
    have g0 : (partsP T.p.toList)[0]? = some p := by rw [ep]; rfl
    have g1 : (partsP T.p.toList)[1]? = some q := by rw [ep]; rfl
    obtain ⟨g, o, ha, ht, hu⟩ := two_of hts hv
    have hf : TwoAt X ⟨T.b, T.p, T.x, T.r, u, ra, rn, rc, pa, (partsP T.p.toList).length, pc, a, 2, c⟩ A C := ⟨g, o, ha, Nat.lt_succ_self _, ht, hu⟩
    rw [prt_at g0, prt_at g1]
    exact rule2 ⟨T.b, T.p, T.x, T.r, u, ra, rn, rc, pa, (partsP T.p.toList).length, pc, a, 2, c⟩ A C ⟨p.toArray⟩ ⟨q.toArray⟩ X hf (part_of hown g0) (part_of hown g1)
  | 3, _ =>
    obtain ⟨A, rfl⟩ := len_one hl
    have e : folR T 3 [A] = (([59] == kindP T.p.toList) && (T.x == 1 && sameT A.b A.p A.x A.r T.b (prt T.p 0) T.x T.r)) := rfl
    rw [e]
    refine plh_yes T u ra rn rc hfs hL hN h hl hT hF hE rfl rfl rfl ([59] == kindP T.p.toList) _ (enters_of Tryz.func99 (by kernel_rfl) rfl) (fun X hX => fits93_seq _ _ _ T.p X hX) ?_
    rintro h1 X pa pc ⟨B, hown⟩ hts hX hEX a c hv
    obtain ⟨p, q, ep, _, _⟩ := parts_pair (k := 59) (Or.inl rfl) (beq_eq8 h1)
    have g0 : (partsP T.p.toList)[0]? = some p := by rw [ep]; rfl
    have g1 : (partsP T.p.toList)[1]? = some q := by rw [ep]; rfl
    obtain ⟨g, o, ha, ht⟩ := first_of hts hv
    have hf : FirstAt X ⟨T.b, T.p, T.x, T.r, u, ra, rn, rc, pa, (partsP T.p.toList).length, pc, a, 1, c⟩ A := ⟨g, o, ha, Nat.one_pos, ht⟩
    rw [prt_at g0]
    exact fails136 ⟨T.b, T.p, T.x, T.r, u, ra, rn, rc, pa, (partsP T.p.toList).length, pc, a, 1, c⟩ A ⟨p.toArray⟩ X hf (part_of hown g0) hx
  | 4, _ =>
    obtain ⟨A, rfl⟩ := len_one hl
    have e : folR T 4 [A] = (([124] == kindP T.p.toList) && (sameT A.b A.p A.x A.r T.b (prt T.p 0) T.x T.r)) := rfl
    rw [e]
    refine plh_yes T u ra rn rc hfs hL hN h hl hT hF hE rfl rfl rfl ([124] == kindP T.p.toList) _ (enters_of Tryz.func100 (by kernel_rfl) rfl) (fun X hX => fits93_or _ _ _ T.p X hX) ?_
    rintro h1 X pa pc ⟨B, hown⟩ hts hX hEX a c hv
    obtain ⟨p, q, ep, _, _⟩ := parts_pair (k := 124) (Or.inr rfl) (beq_eq8 h1)
    have g0 : (partsP T.p.toList)[0]? = some p := by rw [ep]; rfl
    have g1 : (partsP T.p.toList)[1]? = some q := by rw [ep]; rfl
    obtain ⟨g, o, ha, ht⟩ := first_of hts hv
    have hf : FirstAt X ⟨T.b, T.p, T.x, T.r, u, ra, rn, rc, pa, (partsP T.p.toList).length, pc, a, 1, c⟩ A := ⟨g, o, ha, Nat.one_pos, ht⟩
    rw [prt_at g0]
    exact rule4 ⟨T.b, T.p, T.x, T.r, u, ra, rn, rc, pa, (partsP T.p.toList).length, pc, a, 1, c⟩ A ⟨p.toArray⟩ X hf (part_of hown g0)
  | 5, _ =>
    obtain ⟨A, rfl⟩ := len_one hl
    have e : folR T 5 [A] = (([124] == kindP T.p.toList) && (sameT A.b A.p A.x A.r T.b (prt T.p 1) T.x T.r)) := rfl
    rw [e]
    refine plh_yes T u ra rn rc hfs hL hN h hl hT hF hE rfl rfl rfl ([124] == kindP T.p.toList) _ (enters_of Tryz.func102 (by kernel_rfl) rfl) (fun X hX => fits93_or _ _ _ T.p X hX) ?_
    rintro h1 X pa pc ⟨B, hown⟩ hts hX hEX a c hv
    obtain ⟨p, q, ep, _, _⟩ := parts_pair (k := 124) (Or.inr rfl) (beq_eq8 h1)
    have g0 : (partsP T.p.toList)[0]? = some p := by rw [ep]; rfl
    have g1 : (partsP T.p.toList)[1]? = some q := by rw [ep]; rfl
    obtain ⟨g, o, ha, ht⟩ := first_of hts hv
    have hf : FirstAt X ⟨T.b, T.p, T.x, T.r, u, ra, rn, rc, pa, (partsP T.p.toList).length, pc, a, 1, c⟩ A := ⟨g, o, ha, Nat.one_pos, ht⟩
    rw [prt_at g1]
    exact rule5 ⟨T.b, T.p, T.x, T.r, u, ra, rn, rc, pa, (partsP T.p.toList).length, pc, a, 1, c⟩ A ⟨q.toArray⟩ X hf (part_of hown g1)
  | 6, _ =>
    obtain rfl := len_zero hl
    have e : folR T 6 [] = (([123] == kindP T.p.toList) && (T.x == 0 && T.r == T.b)) := rfl
    rw [e]
    refine plh_yes T u ra rn rc hfs hL hN h hl hT hF hE rfl rfl rfl ([123] == kindP T.p.toList) _ (enters_of Tryz.func103 (by kernel_rfl) rfl) (fun X hX => fits93_loop _ _ _ T.p X hX) ?_
    rintro h1 X pa pc ⟨B, hown⟩ hts hX hEX a c hv
    exact rule6 ⟨T.b, T.p, T.x, T.r, u, ra, rn, rc, pa, (partsP T.p.toList).length, pc, a, 0, c⟩ X
  | 7, _ =>
    obtain ⟨A, C, rfl⟩ := len_two hl
    have e : folR T 7 [A, C] = (([123] == kindP T.p.toList) && (sameT A.b A.p A.x A.r T.b (prt T.p 0) 0 A.r && sameT C.b C.p C.x C.r A.r T.p T.x T.r)) := rfl
    rw [e]
    refine plh_yes T u ra rn rc hfs hL hN h hl hT hF hE rfl rfl rfl ([123] == kindP T.p.toList) _ (enters_of Tryz.func104 (by kernel_rfl) rfl) (fun X hX => fits93_loop _ _ _ T.p X hX) ?_
    rintro h1 X pa pc ⟨B, hown⟩ hts hX hEX a c hv
    obtain ⟨p, ep, _⟩ := parts_loop (beq_eq8 h1)
    have g0 : (partsP T.p.toList)[0]? = some p := by rw [ep]; rfl
    obtain ⟨g, o, ha, ht, hu⟩ := two_of hts hv
    have hf : TwoAt X ⟨T.b, T.p, T.x, T.r, u, ra, rn, rc, pa, (partsP T.p.toList).length, pc, a, 2, c⟩ A C := ⟨g, o, ha, Nat.lt_succ_self _, ht, hu⟩
    rw [prt_at g0]
    exact rule7 ⟨T.b, T.p, T.x, T.r, u, ra, rn, rc, pa, (partsP T.p.toList).length, pc, a, 2, c⟩ A C ⟨p.toArray⟩ X hf (part_of hown g0)
  | 8, _ =>
    obtain ⟨A, rfl⟩ := len_one hl
    have e : folR T 8 [A] = (([123] == kindP T.p.toList) && (T.x == 1 && sameT A.b A.p A.x A.r T.b (prt T.p 0) T.x T.r)) := rfl
    rw [e]
    refine plh_yes T u ra rn rc hfs hL hN h hl hT hF hE rfl rfl rfl ([123] == kindP T.p.toList) _ (enters_of Tryz.func99 (by kernel_rfl) rfl) (fun X hX => fits93_loop _ _ _ T.p X hX) ?_
    rintro h1 X pa pc ⟨B, hown⟩ hts hX hEX a c hv
    obtain ⟨p, ep, _⟩ := parts_loop (beq_eq8 h1)
    have g0 : (partsP T.p.toList)[0]? = some p := by rw [ep]; rfl
    obtain ⟨g, o, ha, ht⟩ := first_of hts hv
    have hf : FirstAt X ⟨T.b, T.p, T.x, T.r, u, ra, rn, rc, pa, (partsP T.p.toList).length, pc, a, 1, c⟩ A := ⟨g, o, ha, Nat.one_pos, ht⟩
    rw [prt_at g0]
    exact fails136 ⟨T.b, T.p, T.x, T.r, u, ra, rn, rc, pa, (partsP T.p.toList).length, pc, a, 1, c⟩ A ⟨p.toArray⟩ X hf (part_of hown g0) hx
  | 9, _ =>
    obtain ⟨A, C, rfl⟩ := len_two hl
    have e : folR T 9 [A, C] = (true && (sameT 0 A.p A.x 0 0 T.p T.x 0 && (sameT 0 C.p C.x 0 0 T.p T.x 0 && (bits .or .i64 A.b C.b == T.b && bits .or .i64 A.r C.r == T.r)))) := by rw [Bool.true_and]; rfl
    rw [e]
    refine plh_yes T u ra rn rc hfs hL hN h hl hT hF hE rfl rfl rfl true _ (enters_of Tryz.func105 (by kernel_rfl) rfl) (fun X _ => fits93_any _ _ _ T.p X) ?_
    rintro h1 X pa pc ⟨B, hown⟩ hts hX hEX a c hv
    obtain ⟨g, o, ha, ht, hu⟩ := two_of hts hv
    have hf : TwoAt X ⟨T.b, T.p, T.x, T.r, u, ra, rn, rc, pa, (partsP T.p.toList).length, pc, a, 2, c⟩ A C := ⟨g, o, ha, Nat.lt_succ_self _, ht, hu⟩
    exact joins142 ⟨T.b, T.p, T.x, T.r, u, ra, rn, rc, pa, (partsP T.p.toList).length, pc, a, 2, c⟩ A C X hf
  | 10, _ =>
    obtain ⟨A, rfl⟩ := len_one hl
    have e : folR T 10 [A] = (true && (sameT 0 A.p A.x 0 0 T.p T.x 0 && (within A.b T.b && within T.r A.r))) := by rw [Bool.true_and]; rfl
    rw [e]
    refine plh_yes T u ra rn rc hfs hL hN h hl hT hF hE rfl rfl rfl true _ (enters_of Tryz.func106 (by kernel_rfl) rfl) (fun X _ => fits93_any _ _ _ T.p X) ?_
    rintro h1 X pa pc ⟨B, hown⟩ hts hX hEX a c hv
    obtain ⟨g, o, ha, ht⟩ := first_of hts hv
    have hf : FirstAt X ⟨T.b, T.p, T.x, T.r, u, ra, rn, rc, pa, (partsP T.p.toList).length, pc, a, 1, c⟩ A := ⟨g, o, ha, Nat.one_pos, ht⟩
    exact weakens143 ⟨T.b, T.p, T.x, T.r, u, ra, rn, rc, pa, (partsP T.p.toList).length, pc, a, 1, c⟩ A X hf
/-- **WHETHER A LINE FOLLOWS BY ITS RULE.** -/
theorem plh30 (T : Trip) (u : ByteArray) (ra : Option Addr) (rn rc : Nat) {W : World} {v : Value} {fs : List Trip} (hfs : TripsAt W v fs) {N : Nat} (hL : Laid3 N W) (hE : NoTrip N W) (hN : NoRule N W) :
    Calls Tryz.prog 14 #[.agg #[.int .i64 T.b, .string T.p, .int .i64 T.x, .int .i64 T.r, .string u, .slice ra rn rc], v] W fun e W' => e = .returned (.bool (lineH u T fs)) ∧ Below W.heap.size W W' := by
  cases hx : ixR u.toList with
  | none => rw [holds_none T fs hx]; exact plh_none T u ra rn rc hfs hL hN hx
  | some k =>
    by_cases hl : fs.length = takesR k
    · cases hT : okTr T with
      | false => rw [holds_bad fs hx hT]; exact plh_bad T u ra rn rc hfs hL hN hx hl hT
      | true =>
        cases hF : fs.all okTr with
        | false => rw [holds_from T hx hF]; exact plh_from T u ra rn rc hfs hL hN hx hl hT hF
        | true => rw [holds_yes hx hl hT hF]; exact plh_rule T u ra rn rc hfs hL hE hN (ix_lt hx).1 hx hl hT hF
    · rw [holds_len T hx hl]; exact plh_gen T u ra rn rc hfs hL hN hx hl
end Go.Proofs.YtgdgbjnmibkmhaaGreatDoor

namespace Go.Proofs.YtgdgbjnmibkmhaaGreatDoor
open Go.ChangeShapes Go.WideShapes Go.ChangeAt Go.RowKit Go.Shelf
attribute [local go_sem] Oper.semAt_some
set_option maxRecDepth 100000

theorem wt_mem : ∀ {ts : List Trip} {T : Trip}, T ∈ ts → T.p.size ≤ wtT ts
  | x :: ts, T, h => by
    unfold wtT
    rw [List.map_cons, List.sum_cons]
    rcases List.mem_cons.1 h with rfl | h
    · omega
    · have := wt_mem h
      unfold wtT at this
      omega
set_option maxHeartbeats 8000000 in
theorem walkLineHolds (T : Trip) (u : ByteArray) (rv : Value) (zs : List Int) (v : Value) (fs : List Trip) (w : World) (hI : IntsAt w rv zs) (hfs : TripsAt w v fs) (hp : T.p.size ≤ maxLen) (hu : u.size ≤ maxLen) (hsz : ∀ F ∈ fs, F.p.size ≤ maxLen) {N : Nat} (hL : Laid3 N w) (hE : NoTrip N w) (hR : NoRule N w) :
    Calls Tryz.prog 3 #[.agg #[.int .i64 T.b, .string T.p, .int .i64 T.x, .int .i64 T.r, .string u, rv], v] w fun e w' => e = .returned (.bool true) ∧ Below w.heap.size w w' := by
  have hI0 := hI
  obtain ⟨ra, rcap, rfl, r1, r2, r3⟩ := hI
  clear r1 r2 r3
  have hX := Six.new w 26 (.int .i64 T.b) (.string T.p) (.int .i64 T.x) (.int .i64 T.r) (.string u) (.slice ra zs.length rcap)
  have B0 : Below w.heap.size w (w.alloc (.cells #[.int .i64 T.b, .string T.p, .int .i64 T.x, .int .i64 T.r, .string u, .slice ra zs.length rcap] 26)) := (Below.refl _ w).alloc (Nat.le_refl _) _
  obtain ⟨c0, c1, c2, c3, c4, c5⟩ := hX.cells
  have hS := szL49 T.b T.p T.x T.r u (.slice ra zs.length rcap) zs _ (hI0.below B0) hp hu 1048576 (by omega) (by omega)
  by_cases h1 : T.p.size + u.size + zs.length ≤ 1048576
  case neg =>
    have hso : szOf (T.p.size + u.size + zs.length) 1048576 = -1 := if_neg (by omega)
    rw [hso] at hS
    go_enter Tryz.func3, Tryz.ntmps3
    go_wp2_with fail
    go_at_call 9
    refine hS.mono ?_
    rintro e W1 ⟨rfl, b1⟩
    go_wp2_with fail
    go_ret
    exact ⟨rfl, B0.trans (b1.mono B0.size)⟩
  case pos =>
    have hso : szOf (T.p.size + u.size + zs.length) 1048576 = 1048576 - ((T.p.size + u.size + zs.length : Nat) : Int) := if_pos (by omega)
    rw [hso] at hS
    have hnn : ¬ ((1048576 : Int) - ((T.p.size + u.size + zs.length : Nat) : Int) < 0) := by omega
    have hlo : (0 : Int) ≤ 1048576 - ((T.p.size + u.size + zs.length : Nat) : Int) := by omega
    have hhi : (1048576 : Int) - ((T.p.size + u.size + zs.length : Nat) : Int) ≤ 1048576 := by omega
    have hT := fun (X : World) (h : TripsAt X v fs) => szT50 h hsz (1048576 - ((T.p.size + u.size + zs.length : Nat) : Int)) hlo hhi
    have hzs : zs.length ≤ 1048576 := by omega
    have hpT : T.p.size ≤ 9000000 := by omega
    by_cases h2 : ((fs.length + wtT fs : Nat) : Int) ≤ 1048576 - ((T.p.size + u.size + zs.length : Nat) : Int)
    case neg =>
      have hso2 : szOf (fs.length + wtT fs) (1048576 - ((T.p.size + u.size + zs.length : Nat) : Int)) = -1 := if_neg h2
      rw [hso2] at hT
      generalize (1048576 : Int) - ((T.p.size + u.size + zs.length : Nat) : Int) = left at hS hnn hT
      clear h2 hso hso2 hlo hhi h1
      go_enter Tryz.func3, Tryz.ntmps3
      go_wp2_with fail
      go_at_call 9
      refine hS.mono ?_
      rintro e W1 ⟨rfl, b1⟩
      have B1 := B0.trans (b1.mono B0.size)
      have hT1 := hT _ (hfs.below B1)
      clear hT
      go_wp2_with fail
      go_at_call 10
      refine hT1.mono ?_
      rintro e W2 ⟨rfl, b2⟩
      go_wp2_with fail
      go_ret
      exact ⟨rfl, B1.trans (b2.mono B1.size)⟩
    case pos =>
      have hso2 : szOf (fs.length + wtT fs) (1048576 - ((T.p.size + u.size + zs.length : Nat) : Int)) = 1048576 - ((T.p.size + u.size + zs.length : Nat) : Int) - ((fs.length + wtT fs : Nat) : Int) := if_pos h2
      rw [hso2] at hT
      have hnn2 : ¬ ((1048576 : Int) - ((T.p.size + u.size + zs.length : Nat) : Int) - ((fs.length + wtT fs : Nat) : Int) < 0) := by omega
      have hfl : fs.length ≤ 1048576 := by omega
      have hsF : ∀ F ∈ fs, F.p.size ≤ 9000000 := fun F hF => by have := wt_mem hF; omega
      have HT := Lib.hid hT
      clear hT
      generalize hle : (1048576 : Int) - ((T.p.size + u.size + zs.length : Nat) : Int) = left at hS hnn HT hnn2
      generalize hle2 : left - ((fs.length + wtT fs : Nat) : Int) = left2 at HT hnn2
      clear h2 hso hso2 hlo hhi h1 hle hle2
      have HF := Lib.hid hfs
      have HI := Lib.hid hI0
      have HsF := Lib.hid hsF
      clear hfs hI0 hsF hsz
      go_enter Tryz.func3, Tryz.ntmps3
      go_wp2_with fail
      go_at_call 9
      refine hS.mono ?_
      rintro e W1 ⟨rfl, b1⟩
      have B1 := B0.trans (b1.mono B0.size)
      have hX := hX.below b1 hX.lt
      obtain ⟨c0, c1, c2, c3, c4, c5⟩ := hX.cells
      go_wp2_with fail
      go_at_call 10
      refine (HT.out _ (HF.out.below B1)).mono ?_
      rintro e W2 ⟨rfl, b2⟩
      have hX := hX.below b2 hX.lt
      obtain ⟨c0, c1, c2, c3, c4, c5⟩ := hX.cells
      have B2 := B1.trans (b2.mono B1.size)
      go_wp2_with fail
      go_at_call 12
      refine (toL51 T.b T.p T.x T.r u _ zs W2 (HI.out.below B2) hzs).mono ?_
      rintro e W3 ⟨g3, rfl, i3, b3⟩
      have hX := hX.below b3 hX.lt
      obtain ⟨c0, c1, c2, c3, c4, c5⟩ := hX.cells
      have B3 := B2.trans (b3.mono B2.size)
      clear i3
      go_wp2_with fail
      go_at_call 13
      refine (toT52 (HF.out.below B3) hfl).mono ?_
      rintro e W4 ⟨rfl, t4, b4⟩
      have hX := hX.below b4 hX.lt
      obtain ⟨c0, c1, c2, c3, c4, c5⟩ := hX.cells
      have B4 := B3.trans (b4.mono B3.size)
      have M4 := mlh11 T u (some ⟨g3, 0, none⟩) zs.length zs.length t4 hpT HsF.out
      clear t4
      go_wp2_with fail
      go_at_call 11
      refine M4.mono ?_
      rintro e W5 ⟨rfl, b5⟩
      have hX := hX.below b5 hX.lt
      obtain ⟨c0, c1, c2, c3, c4, c5⟩ := hX.cells
      have B5 := B4.trans (b5.mono B4.size)
      clear M4
      go_wp2_with fail
      go_at_call 12
      refine (toL51 T.b T.p T.x T.r u _ zs W5 (HI.out.below B5) hzs).mono ?_
      rintro e W6 ⟨g6, rfl, i6, b6⟩
      have hX := hX.below b6 hX.lt
      obtain ⟨c0, c1, c2, c3, c4, c5⟩ := hX.cells
      have B6 := B5.trans (b6.mono B5.size)
      have hY := Six.new W6 33 (.int .i64 T.b) (.string T.p) (.int .i64 T.x) (.int .i64 T.r) (.string u) (.slice (some ⟨g6, 0, none⟩) zs.length zs.length)
      have A6 : Below W6.heap.size W6 (W6.alloc (.cells #[.int .i64 T.b, .string T.p, .int .i64 T.x, .int .i64 T.r, .string u, .slice (some ⟨g6, 0, none⟩) zs.length zs.length] 33)) := (Below.refl _ W6).alloc (Nat.le_refl _) _
      have j6 := Lib.hid (i6.ints.below A6)
      have hX := hX.below A6 hX.lt
      obtain ⟨c0, c1, c2, c3, c4, c5⟩ := hX.cells
      have B6 := B6.trans (A6.mono B6.size)
      obtain ⟨y0, y1, y2, y3, y4, y5⟩ := hY.cells
      clear i6
      go_wp2_with fail
      go_at_call 13
      refine (toT52 (HF.out.below B6) hfl).mono ?_
      rintro e W7 ⟨rfl, t7, b7⟩
      have hX := hX.below b7 hX.lt
      have hY := hY.below b7 hY.lt
      obtain ⟨y0, y1, y2, y3, y4, y5⟩ := hY.cells
      obtain ⟨c0, c1, c2, c3, c4, c5⟩ := hX.cells
      have B7 := B6.trans (b7.mono B6.size)
      have j7 := Lib.hid (j6.out.below b7)
      rw [World.size_alloc] at t7
      have T7 := Lib.hid t7
      have P7 := plh30 T u (some ⟨g6, 0, none⟩) zs.length zs.length t7 (hL.below B7 hL.lt) (hE.below B7 hL.lt) (hR.below B7 hL.lt)
      clear t7 j6
      go_wp2_with fail
      go_at_call 14
      refine P7.mono ?_
      rintro e W8 ⟨rfl, b8⟩
      have hX := hX.below b8 hX.lt
      have hY := hY.below b8 hY.lt
      obtain ⟨y0, y1, y2, y3, y4, y5⟩ := hY.cells
      obtain ⟨c0, c1, c2, c3, c4, c5⟩ := hX.cells
      have B8 := B7.trans (b8.mono B7.size)
      have j8 := Lib.hid (j7.out.below b8)
      have T8 := Lib.hid (T7.out.below b8)
      clear P7 j7 T7
      generalize lineH u T fs = res
      go_wp2_with fail
      have e9 := (Below.refl W8.heap.size W8).drew
      have B8d := B8.drew
      go_region_held3 (fun w' => w'.cell? ⟨w.heap.size, 0, none⟩ = some (.int .i64 T.b) ∧ w'.cell? ⟨w.heap.size, 1, none⟩ = some (.string T.p) ∧ w'.cell? ⟨w.heap.size, 2, none⟩ = some (.int .i64 T.x) ∧ w'.cell? ⟨w.heap.size, 3, none⟩ = some (.int .i64 T.r) ∧ w'.cell? ⟨w.heap.size, 4, none⟩ = some (.string u) ∧ w'.cell? ⟨w.heap.size, 5, none⟩ = some (.slice ra zs.length rcap) ∧ w'.cell? ⟨W6.heap.size, 0, none⟩ = some (.int .i64 T.b) ∧ w'.cell? ⟨W6.heap.size, 1, none⟩ = some (.string T.p) ∧ w'.cell? ⟨W6.heap.size, 2, none⟩ = some (.int .i64 T.x) ∧ w'.cell? ⟨W6.heap.size, 3, none⟩ = some (.int .i64 T.r) ∧ w'.cell? ⟨W6.heap.size, 4, none⟩ = some (.string u) ∧ w'.cell? ⟨W6.heap.size, 5, none⟩ = some (.slice (some ⟨g6, 0, none⟩) zs.length zs.length)) (first | exact ⟨c0, c1, c2, c3, c4, c5, y0, y1, y2, y3, y4, y5⟩ | exact ⟨cell_below b9 c0, cell_below b9 c1, cell_below b9 c2, cell_below b9 c3, cell_below b9 c4, cell_below b9 c5, cell_below b9 y0, cell_below b9 y1, cell_below b9 y2, cell_below b9 y3, cell_below b9 y4, cell_below b9 y5⟩ | exact ⟨cell_below b10 (cell_below b9 c0), cell_below b10 (cell_below b9 c1), cell_below b10 (cell_below b9 c2), cell_below b10 (cell_below b9 c3), cell_below b10 (cell_below b9 c4), cell_below b10 (cell_below b9 c5), cell_below b10 (cell_below b9 y0), cell_below b10 (cell_below b9 y1), cell_below b10 (cell_below b9 y2), cell_below b10 (cell_below b9 y3), cell_below b10 (cell_below b9 y4), cell_below b10 (cell_below b9 y5)⟩ | go_keep)
        (first
          | (go_at_call 12; refine (toL51 T.b T.p T.x T.r u _ zs _ (HI.out.below B8d) hzs).mono ?_; rintro e W9 ⟨g9, rfl, i9, b9⟩; have b9 := e9.trans b9)
          | (go_at_call 15; refine (eqL53 T.b T.p T.x T.r u _ _ zs W9 (j8.out.below b9) i9.ints).mono ?_; rintro e W10 ⟨rfl, b10⟩))
      have B9 := B8.trans (b9.mono B8.size)
      have B10 := B9.trans (b10.mono B9.size)
      have T10 := Lib.hid ((T8.out.below b9).below b10)
      clear j8 T8 i9
      go_wp2_with fail
      go_at_call 13
      refine (toT52 (HF.out.below B10) hfl).mono ?_
      rintro e W11 ⟨rfl, t11, b11⟩
      have B11 := B10.trans (b11.mono B10.size)
      have E11 := eqT54 (T10.out.below b11) t11 hfl
      clear t11 T10
      go_wp2_with fail
      go_at_call 16
      refine E11.mono ?_
      rintro e W12 ⟨rfl, b12⟩
      go_wp2_with fail
      go_ret
      exact ⟨rfl, B11.trans (b12.mono B11.size)⟩
end Go.Proofs.YtgdgbjnmibkmhaaGreatDoor

namespace Go.Proofs.YtgdgbjnmibkmhaaGreatDoor
open Go.ChangeShapes Go.WideShapes Go.ChangeAt Go.RowKit Go.Deep
set_option maxRecDepth 100000

instance : Inhabited Trip := ⟨zeroT⟩
instance : Inhabited LineD := ⟨⟨zeroT, ⟨#[]⟩, []⟩⟩
section
variable {H : Type} {enc : TypeId × Value → H} {W : World} {base : Nat} {sp : Nat → Bool} {held : Bool}
theorem trip_of {n : Nat} {cs : List Value} {x : DataW H × List MemPlace} (h : DataW.trod enc Tryz.prog W base sp held n 23 cs = some x) :
    ∃ T : Trip, cs = [.int .i64 T.b, .string T.p, .int .i64 T.x, .int .i64 T.r] ∧ T.p.size ≤ maxLen := by
  obtain ⟨ys, m, _, _, hlen, _, hg⟩ := DataW.trod_struct Tryz.underlying23 h
  rw [show Tryz.prog.cellsOf 23 = 4 by kernel_rfl] at hlen
  match cs, hlen with
  | [c0, c1, c2, c3], _ =>
    have ci : Tryz.prog.cellsOf 3 = 1 := by kernel_rfl
    have cs : Tryz.prog.cellsOf 9 = 1 := by kernel_rfl
    have h0 := hg 0 _ rfl
    have h1 := hg 1 _ rfl
    have h2 := hg 2 _ rfl
    have h3 := hg 3 _ rfl
    simp [ci, cs] at h0 h1 h2 h3
    have g : ∀ i, i < 4 → ∃ y, ys[i]? = some y := fun i hi => ⟨ys[i]'(by simp_all), List.getElem?_eq_getElem _⟩
    obtain ⟨y0, e0⟩ := g 0 (by omega)
    obtain ⟨y1, e1⟩ := g 1 (by omega)
    obtain ⟨y2, e2⟩ := g 2 (by omega)
    obtain ⟨y3, e3⟩ := g 3 (by omega)
    rw [e0] at h0
    rw [e1] at h1
    rw [e2] at h2
    rw [e3] at h3
    obtain ⟨b, e0, _, _⟩ := DataW.trod_int Tryz.underlying3 h0
    obtain ⟨t, e1, _, w1⟩ := DataW.trod_string Tryz.underlying9 h1
    obtain ⟨x, e2, _, _⟩ := DataW.trod_int Tryz.underlying3 h2
    obtain ⟨r, e3, _, _⟩ := DataW.trod_int Tryz.underlying3 h3
    refine ⟨⟨b, t, x, r⟩, ?_, w1⟩
    simp_all
end

/-! ### Opened -/
section
variable {H : Type} {enc : TypeId × Value → H} {W : World} {base : Nat} {held : Bool}
theorem ints_of {n : Nat} {cs : List Value} {x : DataW H × List MemPlace} (h : DataW.trod enc Tryz.prog W base (fun _ => true) held n 24 cs = some x) : ∃ v zs, cs = [v] ∧ IntsAt W v zs := by
  rcases open_ints Tryz.underlying24 Tryz.underlying3 (by kernel_rfl) h with ⟨hcs, _⟩ | ⟨a, l, c, zs, hcs, _, hl, hm, hz, _, hcell, _⟩
  · exact ⟨_, [], hcs, none, 0, rfl, Nat.le_refl _, Nat.zero_le _, .inl rfl⟩
  · have hz' : zs.length = c := by simpa using hz
    refine ⟨_, zs.take l, hcs, some a, c, by rw [List.length_take, Nat.min_eq_left (by omega)], by rw [List.length_take]; omega, hm, ?_⟩
    by_cases h0 : zs.take l = []
    · exact .inl h0
    · have hp : 0 < zs.length := by
        cases zs with
        | nil => simp at h0
        | cons _ _ => simp
      obtain ⟨b, off, rfl, hc⟩ := ints_at hcell hp
      refine .inr ⟨b, off, rfl, fun j z hj => ?_⟩
      have hjl : j < (zs.take l).length := (List.getElem?_eq_some_iff.1 hj).1
      rw [List.length_take] at hjl
      rw [hc j (by omega)]
      rw [List.getElem?_take] at hj
      split at hj
      · rw [List.getD_eq_getElem?_getD, hj]; rfl
      · cases hj
theorem line_of {n : Nat} {cs : List Value} {x : DataW H × List MemPlace} (h : DataW.trod enc Tryz.prog W base (fun _ => true) held n 26 cs = some x) :
    ∃ (l : LineD) (v : Value), cs = [.int .i64 l.t.b, .string l.t.p, .int .i64 l.t.x, .int .i64 l.t.r, .string l.rule, v] ∧ IntsAt W v l.refs ∧ l.t.p.size ≤ maxLen ∧ l.rule.size ≤ maxLen := by
  obtain ⟨ys, m, _, _, hlen, _, hg⟩ := DataW.trod_struct Tryz.underlying26 h
  rw [show Tryz.prog.cellsOf 26 = 6 by kernel_rfl] at hlen
  match cs, hlen with
  | [c0, c1, c2, c3, c4, c5], _ =>
    have ct : Tryz.prog.cellsOf 23 = 4 := by kernel_rfl
    have ci : Tryz.prog.cellsOf 24 = 1 := by kernel_rfl
    have cs : Tryz.prog.cellsOf 9 = 1 := by kernel_rfl
    have h0 := hg 0 _ rfl
    have h1 := hg 1 _ rfl
    have h2 := hg 2 _ rfl
    simp [ct, ci, cs] at h0 h1 h2
    have g : ∀ i, i < 3 → ∃ y, ys[i]? = some y := fun i hi => ⟨ys[i]'(by simp_all), List.getElem?_eq_getElem _⟩
    obtain ⟨y0, e0⟩ := g 0 (by omega)
    obtain ⟨y1, e1⟩ := g 1 (by omega)
    obtain ⟨y2, e2⟩ := g 2 (by omega)
    rw [e0] at h0
    rw [e1] at h1
    rw [e2] at h2
    obtain ⟨T, e0, w0⟩ := trip_of h0
    obtain ⟨t, e1, _, w1⟩ := DataW.trod_string Tryz.underlying9 h1
    obtain ⟨v, zs, e2, hI⟩ := ints_of h2
    refine ⟨⟨T, t, zs⟩, v, ?_, hI, w0, w1⟩
    simp_all
theorem add_two (b off i j : Nat) : ((⟨b, off, none⟩ : Addr).add i).add j = ⟨b, off + i + j, none⟩ := by
  rw [Go.WideShapes.add_plain, Go.WideShapes.add_plain]
theorem open_trips {rr : Reach} {b0 : Nat} {v : Value} {d : DataW H} {q : List MemPlace} (hv : Value.okWide Tryz.prog W rr b0 27 v) (h : DataW.Trod enc Tryz.prog W base (fun _ => true) held 27 v d q) :
    ∃ ts, TripsAt W v ts ∧ ∀ T ∈ ts, T.p.size ≤ maxLen := by
  obtain ⟨a0, len0, cap0, rfl⟩ := okWide_slice Tryz.underlying27 hv
  obtain ⟨fuel, hf⟩ := h
  have hc4 : Tryz.prog.cellsOf 23 = 4 := by kernel_rfl
  rcases open_slice Tryz.underlying27 hf with ⟨hcs, _⟩ | ⟨a, len, cap, m, n, D, Pl, hcs, _, hl, hm, hmm, _, hi⟩
  · simp [Value.cells] at hcs
    obtain ⟨rfl, rfl, rfl⟩ := hcs
    exact ⟨[], ⟨none, 0, rfl, Nat.le_refl _, Nat.zero_le _, .inl rfl⟩, by simp⟩
  · simp [Value.cells] at hcs
    obtain ⟨rfl, rfl, rfl⟩ := hcs
    simp only [if_true] at hmm
    subst hmm
    rw [hc4] at hi
    have each : ∀ i, i < len0 → ∃ T : Trip, W.cells? base (a.add (i * 4)) 4 = some [.int .i64 T.b, .string T.p, .int .i64 T.x, .int .i64 T.r] ∧ T.p.size ≤ maxLen := fun i hil => by
      obtain ⟨cs', h1, h2⟩ := hi i (by omega)
      obtain ⟨T, rfl, hT⟩ := trip_of h2
      exact ⟨T, h1, hT⟩
    obtain ⟨F, hF⟩ := choose_lt each
    refine ⟨(List.range len0).map F, ⟨some a, m, by simp, by simpa using hl, hm, ?_⟩, fun T hT => ?_⟩
    · by_cases h0 : len0 = 0
      · exact .inl (by rw [h0]; rfl)
      · obtain ⟨b, off, spot⟩ := a
        have hs : spot = none := by
          obtain ⟨_, _, hat⟩ := World.cells?_some (hF 0 (by omega)).1
          have := hat 0 (by omega)
          simpa [Addr.add] using World.cell?_spot (this.trans rfl)
        subst hs
        refine .inr ⟨b, off, rfl, fun j T hT => ?_⟩
        rw [List.getElem?_map] at hT
        have hj : j < len0 := by
          by_cases hj : j < len0
          · exact hj
          · rw [List.getElem?_eq_none (by simpa using hj)] at hT; cases hT
        rw [List.getElem?_range hj] at hT
        cases hT
        obtain ⟨_, _, hat⟩ := World.cells?_some (hF j hj).1
        have g := fun i (hi : i < 4) => (add_two b off (j * 4) i) ▸ hat i hi
        exact ⟨g 0 (by omega), g 1 (by omega), g 2 (by omega), g 3 (by omega)⟩
    · obtain ⟨i, hi2, rfl⟩ := List.mem_map.1 hT
      exact (hF i (List.mem_range.1 hi2)).2
theorem open_line {rr : Reach} {b0 : Nat} {v : Value} {d : DataW H} {q : List MemPlace} (hv : Value.okWide Tryz.prog W rr b0 26 v) (h : DataW.Trod enc Tryz.prog W base (fun _ => true) held 26 v d q) :
    ∃ (l : LineD) (u : Value), v = .agg #[.int .i64 l.t.b, .string l.t.p, .int .i64 l.t.x, .int .i64 l.t.r, .string l.rule, u] ∧ IntsAt W u l.refs ∧ l.t.p.size ≤ maxLen ∧ l.rule.size ≤ maxLen := by
  obtain ⟨cs, rfl, _⟩ := okWide_struct Tryz.underlying26 hv
  obtain ⟨fuel, hf⟩ := h
  obtain ⟨l, u, hcs, h1, h2, h3⟩ := line_of hf
  refine ⟨l, u, ?_, h1, h2, h3⟩
  have e : cs.toList = _ := hcs
  rw [← Array.toArray_toList (xs := cs), e]
theorem open_lines {rr : Reach} {b0 : Nat} {v : Value} {d : DataW H} {q : List MemPlace} (hv : Value.okWide Tryz.prog W rr b0 40 v) (h : DataW.Trod enc Tryz.prog W base (fun _ => true) held 40 v d q) :
    ∃ ls, LinesAt W v ls ∧ ∀ l ∈ ls, l.t.p.size ≤ maxLen ∧ l.rule.size ≤ maxLen := by
  obtain ⟨a0, len0, cap0, rfl⟩ := okWide_slice Tryz.underlying40 hv
  obtain ⟨fuel, hf⟩ := h
  have hc4 : Tryz.prog.cellsOf 26 = 6 := by kernel_rfl
  rcases open_slice Tryz.underlying40 hf with ⟨hcs, _⟩ | ⟨a, len, cap, m, n, D, Pl, hcs, _, hl, hm, hmm, _, hi⟩
  · simp [Value.cells] at hcs
    obtain ⟨rfl, rfl, rfl⟩ := hcs
    exact ⟨[], ⟨none, 0, rfl, Nat.le_refl _, Nat.zero_le _, .inl rfl⟩, by simp⟩
  · simp [Value.cells] at hcs
    obtain ⟨rfl, rfl, rfl⟩ := hcs
    simp only [if_true] at hmm
    subst hmm
    rw [hc4] at hi
    have each : ∀ i, i < len0 → ∃ lv : LineD × Value, W.cells? base (a.add (i * 6)) 6 = some [.int .i64 lv.1.t.b, .string lv.1.t.p, .int .i64 lv.1.t.x, .int .i64 lv.1.t.r, .string lv.1.rule, lv.2] ∧ IntsAt W lv.2 lv.1.refs ∧ lv.1.t.p.size ≤ maxLen ∧ lv.1.rule.size ≤ maxLen := fun i hil => by
      obtain ⟨cs', h1, h2⟩ := hi i (by omega)
      obtain ⟨l, v, rfl, h3, h4, h5⟩ := line_of h2
      exact ⟨(l, v), h1, h3, h4, h5⟩
    obtain ⟨F, hF⟩ := choose_lt each
    refine ⟨(List.range len0).map fun i => (F i).1, ⟨some a, m, by simp, by simpa using hl, hm, ?_⟩, fun l hT => ?_⟩
    · by_cases h0 : len0 = 0
      · exact .inl (by rw [h0]; rfl)
      · obtain ⟨b, off, spot⟩ := a
        have hs : spot = none := by
          obtain ⟨_, _, hat⟩ := World.cells?_some (hF 0 (by omega)).1
          have := hat 0 (by omega)
          simpa [Addr.add] using World.cell?_spot (this.trans rfl)
        subst hs
        refine .inr ⟨b, off, rfl, fun j T hT => ?_⟩
        rw [List.getElem?_map] at hT
        have hj : j < len0 := by
          by_cases hj : j < len0
          · exact hj
          · rw [List.getElem?_eq_none (by simpa using hj)] at hT; cases hT
        rw [List.getElem?_range hj] at hT
        cases hT
        obtain ⟨hc, hI, _, _⟩ := hF j hj
        obtain ⟨_, _, hat⟩ := World.cells?_some hc
        have g := fun i (hi : i < 6) => (add_two b off (j * 6) i) ▸ hat i hi
        exact ⟨⟨g 0 (by omega), g 1 (by omega), g 2 (by omega), g 3 (by omega)⟩, g 4 (by omega), (F j).2, g 5 (by omega), hI⟩
    · obtain ⟨i, hi2, rfl⟩ := List.mem_map.1 hT
      exact (hF i (List.mem_range.1 hi2)).2.2
end
end Go.Proofs.YtgdgbjnmibkmhaaGreatDoor
