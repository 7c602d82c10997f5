/- The model's reader of programs: whatever text is left. -/
import Derived.Test.YtemilnkglkpnjaaDoorQ8
namespace Go.Proofs.YtemilnkglkpnjaaDoor
open Go.ChangeShapes Go.WideShapes Go.ChangeAt Go.RowKit Go.Shelf
attribute [local go_sem] Oper.semAt_some
set_option maxRecDepth 100000

theorem reads_all (t : ByteArray) (ht : t.size ≤ 9000000) (rb : Nat) : ∀ n, Reads t rb n
  | 0 => fun i W hi hn hr => node_nil t ht rb 0 i W hi hr (List.length_eq_zero_iff.1 (Nat.le_zero.1 hn))
  | n + 1 => fun i W hi hn hr => by
    have IH := reads_all t ht rb n
    cases hl : t.toList.drop i with
    | nil => exact node_nil t ht rb (n + 1) i W hi hr hl
    | cons c r =>
      have hrn : r.length ≤ n := by rw [hl] at hn; simpa using hn
      by_cases h1 : c = 46 ∨ c = 33
      · exact node_dot t ht rb n i W hr hl h1
      · by_cases h2 : c = 120 ∨ c = 121
        · exact node_xy t ht rb n i W hr hl h2
        · by_cases h3 : c = 91
          · subst h3
            by_cases hs : r.length ≤ 3
            · exact node_short t ht rb n i W hr hl hs
            · match r, hl, hs with
              | a :: b :: d :: e :: r', hl, _ => exact node_test t ht rb n i W hr hl
              | [], _, hs => simp at hs
              | [_], _, hs => simp at hs
              | [_, _], _, hs => simp at hs
              | [_, _, _], _, hs => simp at hs
          · by_cases h4 : c = 123
            · subst h4; exact node_loop t ht rb n i IH W hr hl hrn
            · by_cases h5 : c = 40
              · subst h5
                cases hp : rd n r with
                | none => exact pair_first t ht rb n i IH W hr hl hrn hp
                | some x =>
                  obtain ⟨p, r1⟩ := x
                  cases r1 with
                  | nil => exact pair_nosign t ht rb n i IH W hr hl hrn hp
                  | cons sb r2 =>
                    by_cases hs : sb = 59 ∨ sb = 124
                    · cases hq : rd n r2 with
                      | none => exact pair_second t ht rb n i IH W hr hl hrn hp hs hq
                      | some y =>
                        obtain ⟨q, r3⟩ := y
                        cases r3 with
                        | nil => exact pair_open t ht rb n i IH W hr hl hrn hp hs hq
                        | cons e r4 =>
                          by_cases he : e = 41
                          · subst he; exact pair_hit t ht rb n i IH W hr hl hrn hp hs hq
                          · exact pair_miss t ht rb n i IH W hr hl hrn hp hs hq he
                    · exact pair_other t ht rb n i IH W hr hl hrn hp hs
              · exact node_other t ht rb n i W hr hl h1 h2 h3 h4 h5
end Go.Proofs.YtemilnkglkpnjaaDoor

