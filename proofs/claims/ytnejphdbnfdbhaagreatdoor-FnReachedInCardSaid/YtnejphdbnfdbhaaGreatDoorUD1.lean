/- The visitor's atoms. -/
import Derived.Test.YtnejphdbnfdbhaaGreatDoorUD0
namespace Go.Proofs.YtnejphdbnfdbhaaGreatDoor
open Go.ChangeShapes Go.WideShapes Go.ChangeAt Go.RowKit Go.Shelf
attribute [local go_sem] Oper.semAt_some
set_option maxRecDepth 100000

set_option maxHeartbeats 4000000 in
theorem b_atom (T : Nat) (a : List UInt8) (hok : (Node.atom a).ok) (b : Nat) (x : Nat × Nat) (W : World) (hx : Small x) (hB : Box W b T x) :
    Calls Tryz.prog 158 #[.pointer (some ⟨b, 0, none⟩), .string ⟨a.toArray⟩] W (Left W b T (aft T (.atom a) x)) := by
  have hra : ∀ w, Calls Tryz.prog 78 #[.string ⟨a.toArray⟩, .int .i64 (x.1 : Int)] w (RunsTo w (runR (.atom a) x.1)) := ra47 a hok x.1 hx.1
  have hs := run_small hok x.1 hx.1
  have e1 : aft T (.atom a) x = ((runR (.atom a) x.1).1, x.2 ||| (runR (.atom a) x.1).2) := by unfold aft runT runR; rfl
  rw [e1]
  generalize runR (.atom a) x.1 = y at hra hs ⊢
  obtain ⟨c0, c1, c2, f1, f2⟩ := hB.cells
  go_enter Tryz.func158, Tryz.ntmps158
  go_wp2_with fail
  go_region_held3 (fun w' => w'.cell? ⟨b, 1, none⟩ = some (.int .i64 (x.1 : Int)))
    (first | exact c1 | exact d1 | exact cell_put2 (Nat.ne_of_lt (lt_cell c1)) d1 | exact cell_put2 (Nat.ne_of_lt (lt_cell c1)) c1 | go_keep)
    (first
      | (go_at_call 154; refine (text129 _ _).mono ?_; rintro e W1 ⟨rfl, rfl⟩)
      | (go_at_call 78; refine (hra _).mono ?_; rintro e W2 ⟨rfl, hb2⟩; refine one_then (a := ⟨b, 1, none⟩) (u := .int .i64 (x.1 : Int)) hb2 ?_ ?_; exact c1; intro d1)
      | (go_at_call 78; refine (hra _).mono ?_; rintro e W2 ⟨rfl, hb2⟩; refine one_then (a := ⟨b, 1, none⟩) (u := .int .i64 (x.1 : Int)) hb2 ?_ ?_; exact cellAlloc _ c1; intro d1; have hN := lies_kept hb2 (Lies.new W #[.int .i64 0, .int .i64 0] 64); obtain ⟨n0, n1, n2, n3⟩ := hN.cells))
  · have R := bt_new (y := y) hB hb2
    clear c0 c1 c2 f1 f2 d1 hb2 hB
    generalize W2.alloc (.cells #[.int .i64 (y.1 : Int), .int .i64 (y.2 : Int)] 64) = Y at R ⊢
    generalize W2.heap.size = g at R ⊢
    obtain ⟨c0, c1, c2, f1, f2⟩ := R.box.cells
    obtain ⟨n0, n1, n2, n3⟩ := R.beh.cells
    have HR := Lib.hid R
    clear R
    go_wp2_with fail
    go_region_with (go_at_call 75; refine (with44s x.2 y hx.2 hs _).mono ?_; rintro e W3 ⟨rfl, hb3⟩; have hB3 := HR.out.box.drew.below hb3; obtain ⟨d0, d1, d2, g1, g2⟩ := hB3.cells)
    all_goals go_wp2_with fail
    all_goals
      have RG := grown_trans_b (drewG HR.out.gr) hb3
      obtain ⟨RB, RG⟩ := left_put hB3 (left_none RG) y.1 (x.2 ||| y.2)
      go_end0
      exact ⟨rfl, RB, RG⟩
  all_goals
    have R := bt_set (y := y) hB hb2 hN
    clear c0 c1 c2 f1 f2 d1 hb2 hB hN n0 n1 n2 n3
    generalize (W2.setCell ⟨W.heap.size, 0, none⟩ (.int .i64 (y.1 : Int))).setCell ⟨W.heap.size, 1, none⟩ (.int .i64 (y.2 : Int)) = Y at R ⊢
    have hne := R.ne
    generalize W.heap.size = g at R ⊢
    obtain ⟨c0, c1, c2, f1, f2⟩ := R.box.cells
    obtain ⟨n0, n1, n2, n3⟩ := R.beh.cells
    have HR := Lib.hid R
    clear R hne
    go_wp2_with fail
    go_region_with (go_at_call 75; refine (with44s x.2 y hx.2 hs _).mono ?_; rintro e W3 ⟨rfl, hb3⟩; have hB3 := HR.out.box.drew.below hb3; obtain ⟨d0, d1, d2, g1, g2⟩ := hB3.cells)
    all_goals go_wp2_with fail
    all_goals
      have RG := grown_trans_b (drewG HR.out.gr) hb3
      obtain ⟨RB, RG⟩ := left_put hB3 (left_none RG) y.1 (x.2 ||| y.2)
      go_end0
      exact ⟨rfl, RB, RG⟩
end Go.Proofs.YtnejphdbnfdbhaaGreatDoor

