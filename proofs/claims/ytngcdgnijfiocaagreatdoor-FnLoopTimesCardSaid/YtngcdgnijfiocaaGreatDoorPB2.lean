/- Chapter 7, the model: LoopTimes. -/
import Derived.Test.YtngcdgnijfiocaaGreatDoorPB
namespace Go.Proofs.YtngcdgnijfiocaaGreatDoor
open Go.ChangeShapes Go.WideShapes Go.ChangeAt Go.RowKit Go.Shelf
attribute [local go_sem] Oper.semAt_some
set_option maxRecDepth 100000

theorem cell_below4 {W W' : World} (hb : Below W.heap.size W W') {b o : Nat} {v : Value} (h : W.cell? ⟨b, o, none⟩ = some v) : W'.cell? ⟨b, o, none⟩ = some v := keepCell hb h
theorem mwithin64 (p : Node) (hok : p.ok) (W : World) (lo hi : Nat) (k : Int) (s : ByteArray) (ad : Option Addr) (n cap : Nat) (h : NodeIs W lo hi (.loop p) k s ad n cap) (hhi : hi ≤ W.heap.size) (m : Nat) (hm : m < 512) (x : Int) (hx : x = 0 ∨ x = 1) (t : Nat) (ht : t ≤ 1000) :
    Calls Tryz.prog 76 #[.agg #[.int .u8 k, .string s, .slice ad n cap], .int .i64 (m : Int), .int .i64 x, .int .i64 (t : Int)] W fun e W' => e = .returned (.int .i64 ((exitN x (upP p m t) : Nat) : Int)) ∧ Below W.heap.size W W' := by
  rw [← within_up p m hx t]
  rcases hx with rfl | rfl
  · exact mwithin_0 p hok W lo hi k s ad n cap h hhi m hm t ht
  · exact mwithin_1 p hok W lo hi k s ad n cap h hhi m hm t ht
set_option maxHeartbeats 4000000 in
theorem mtimes41 (p : Node) (hok : p.ok) (W : World) (lo hi : Nat) (k : Int) (s : ByteArray) (ad : Option Addr) (n cap : Nat) (h : NodeIs W lo hi (.loop p) k s ad n cap) (hhi : hi ≤ W.heap.size) (m : Nat) (hm : m < 512) (x : Int) (hx : x = 0 ∨ x = 1) :
    Calls Tryz.prog 42 #[.agg #[.int .u8 k, .string s, .slice ad n cap], .int .i64 (m : Int), .int .i64 x] W fun e W' => e = .returned (.int .i64 ((timesN p x m : Nat) : Int)) ∧ Below W.heap.size W W' := by
  have HR := fun X (hX : NodeIs X lo hi (.loop p) k s ad n cap) (h2 : hi ≤ X.heap.size) => mrun23 (.loop p) hok X lo hi k s ad n cap m hX h2 hm
  have HW := fun X (hX : NodeIs X lo hi (.loop p) k s ad n cap) (h2 : hi ≤ X.heap.size) t ht => mwithin64 p hok X lo hi k s ad n cap hX h2 m hm x hx t ht
  have HE := fun a b X => mexit22 a b x hx X
  have HT := Lib.hid (fun t ht h3 h4 => times_at (p := p) (x := x) (m := m) (t := t) ht h3 h4)
  have HZ := Lib.hid (times_end hok x hm)
  generalize timesN p x m = res at HT ⊢
  have hA : Below W.heap.size W (W.alloc (.cells #[.int .u8 k, .string s, .slice ad n cap] 72)) := (Below.refl _ _).alloc (Nat.le_refl _) _
  have hv := Var.new W k s ad n cap
  go_enter Tryz.func42, Tryz.ntmps42
  go_wp2_with fail
  go_loopw [7] (fun i wr => ∃ j : Nat, j ≤ 18 ∧ i = .int .i64 (j : Int) ∧ (∀ j', j' < j → eqAt p x m j' = false) ∧ Below (W.heap.size + 1) (W.alloc (.cells #[.int .u8 k, .string s, .slice ad n cap] 72)) wr) (fun i _ => 19 - (intOf i).toNat)
  case atStart => exact ⟨0, by omega, rfl, fun j hj => by omega, Below.refl _ _⟩
  case round =>
    obtain ⟨j, hj, rfl, hno, hB⟩ := hrel
    have hBW := hA.trans (hB.mono (Nat.le_succ _))
    obtain ⟨x0, x1, x2, _⟩ := (hv.stay hB).cells
    have hNd := (h.below hBW hhi).drew
    have hhd : hi ≤ wr.drew.heap.size := Nat.le_trans hhi hBW.size
    have e0 := (Below.refl wr.heap.size wr).drew
    have q : eqAt p x m j = decide (exitN x (upP p m j) = exitN x (runR (.loop p) m)) := rfl
    have HWj := fun X hX h2 => HW X hX h2 j (by omega)
    have HEj := fun X => HE (runR (.loop p) m).1 (runR (.loop p) m).2 X
    change ∀ X, Calls _ _ _ X fun e w' => e = .returned (.int .i64 ((exitN x (runR (.loop p) m) : Nat) : Int)) ∧ Below X.heap.size X w' at HEj
    clear HW HE hv hA
    generalize exitN x (upP p m j) = a at q HWj
    generalize exitN x (runR (.loop p) m) = z at q HEj
    generalize runR (.loop p) m = o at HR HEj
    by_cases hq : (a : Int) = (z : Int)
    · have hyes : eqAt p x m j = true := by rw [q]; exact decide_eq_true (by omega)
      have hres := HT.out j hj hno hyes
      subst hres
      clear HT hno q hyes HZ
      go_wp2_with fail
      go_region_held3 (fun w' => w'.cell? ⟨W.heap.size, 0, none⟩ = some (.int .u8 k) ∧ w'.cell? ⟨W.heap.size, 1, none⟩ = some (.string s) ∧ w'.cell? ⟨W.heap.size, 2, none⟩ = some (.slice ad n cap)) (first | exact ⟨x0, x1, x2⟩ | exact ⟨cell_below4 b2 x0, cell_below4 b2 x1, cell_below4 b2 x2⟩ | exact ⟨cell_below4 b3 (cell_below4 b2 x0), cell_below4 b3 (cell_below4 b2 x1), cell_below4 b3 (cell_below4 b2 x2)⟩ | exact ⟨cell_below4 b4 (cell_below4 b3 (cell_below4 b2 x0)), cell_below4 b4 (cell_below4 b3 (cell_below4 b2 x1)), cell_below4 b4 (cell_below4 b3 (cell_below4 b2 x2))⟩ | go_keep)
        (first
          | (go_at_call 76; refine (HWj _ hNd hhd).mono ?_; rintro e W2 ⟨rfl, b2⟩; have b2 := e0.trans b2; have hN2 := (h.below hBW hhi).below b2 hhd; have hh2 : hi ≤ W2.heap.size := Nat.le_trans hhd b2.size)
          | (go_at_call 78; refine (HR _ hN2 hh2).mono ?_; rintro e W3 ⟨rfl, b3⟩)
          | (go_at_call 77; refine (HEj _).mono ?_; rintro e W4 ⟨rfl, b4⟩))
      all_goals go_wp2_with fail
      all_goals go_ret
      all_goals exact ⟨rfl, ((hBW.trans (b2.mono hBW.size)).trans (b3.mono (hBW.trans (b2.mono hBW.size)).size)).trans (b4.mono ((hBW.trans (b2.mono hBW.size)).trans (b3.mono (hBW.trans (b2.mono hBW.size)).size)).size)⟩
    · have hnot : eqAt p x m j = false := by rw [q]; exact decide_eq_false (by omega)
      have hj17 : j ≤ 17 := by
        by_cases h18 : j = 18
        · subst h18; have := HZ.out; rw [this] at hnot; cases hnot
        · omega
      have hno2 : ∀ j', j' < j + 1 → eqAt p x m j' = false := fun j' hj' => by
        by_cases he : j' = j
        · rw [he]; exact hnot
        · exact hno j' (by omega)
      have HNO := Lib.hid hno2
      clear hno hno2 q hnot HZ HT
      go_wp2_with fail
      go_region_held3 (fun w' => w'.cell? ⟨W.heap.size, 0, none⟩ = some (.int .u8 k) ∧ w'.cell? ⟨W.heap.size, 1, none⟩ = some (.string s) ∧ w'.cell? ⟨W.heap.size, 2, none⟩ = some (.slice ad n cap)) (first | exact ⟨x0, x1, x2⟩ | exact ⟨cell_below4 b2 x0, cell_below4 b2 x1, cell_below4 b2 x2⟩ | exact ⟨cell_below4 b3 (cell_below4 b2 x0), cell_below4 b3 (cell_below4 b2 x1), cell_below4 b3 (cell_below4 b2 x2)⟩ | exact ⟨cell_below4 b4 (cell_below4 b3 (cell_below4 b2 x0)), cell_below4 b4 (cell_below4 b3 (cell_below4 b2 x1)), cell_below4 b4 (cell_below4 b3 (cell_below4 b2 x2))⟩ | go_keep)
        (first
          | (go_at_call 76; refine (HWj _ hNd hhd).mono ?_; rintro e W2 ⟨rfl, b2⟩; have b2 := e0.trans b2; have hN2 := (h.below hBW hhi).below b2 hhd; have hh2 : hi ≤ W2.heap.size := Nat.le_trans hhd b2.size)
          | (go_at_call 78; refine (HR _ hN2 hh2).mono ?_; rintro e W3 ⟨rfl, b3⟩)
          | (go_at_call 77; refine (HEj _).mono ?_; rintro e W4 ⟨rfl, b4⟩))
      all_goals go_wp2_with fail
      all_goals go_roundw
      all_goals first | exact ⟨j + 1, by omega, by go_num, HNO.out, (hB.trans (b2.mono (Nat.le_trans (by simp) hB.size))).trans ((b3.mono b2.size).trans (b4.mono (Nat.le_trans b2.size b3.size)) |>.mono (Nat.le_trans (by simp) hB.size))⟩ | (simp [intOf]; omega)
end Go.Proofs.YtngcdgnijfiocaaGreatDoor

