/- The model's maker of programs: a program that is made of programs. -/
import Derived.Test.YtemilnkglkpnjaaDoorQ13
namespace Go.Proofs.YtemilnkglkpnjaaDoor
open Go.ChangeShapes Go.WideShapes Go.ChangeAt Go.RowKit Go.Shelf
attribute [local go_sem] Oper.semAt_some
set_option maxRecDepth 100000

/-- All parts are programs, and the whole is one. -/
def madeOk (out : ByteArray) (ts : List ByteArray) : Bool := (ts.all fun t => isP t.toList) && isP out.toList
/-- What the maker answers. -/
def madeV (out : ByteArray) (ts : List ByteArray) : Value :=
  .tuple #[.string (if madeOk out ts then out else ⟨#[]⟩), .bool (madeOk out ts)]

theorem made_miss {out : ByteArray} {ts : List ByteArray} {k : Nat} {p : ByteArray} (hp : ts[k]? = some p) (h : isP p.toList = false) : madeOk out ts = false := by
  have hall : (ts.all fun t => isP t.toList) = false := by
    rw [List.all_eq_false]
    exact ⟨p, List.mem_of_getElem? hp, by rw [h]; simp⟩
  unfold madeOk
  rw [hall]; rfl

theorem made_hit {ts : List ByteArray} {k : Nat} {p : ByteArray} (hp : ts[k]? = some p) (h : isP p.toList = true) (ha : ((ts.take k).all fun t => isP t.toList) = true) : ((ts.take (k + 1)).all fun t => isP t.toList) = true := by
  rw [List.take_add_one, hp, List.all_append, ha]
  simp [h]

set_option maxHeartbeats 1000000 in
theorem made52 (out : ByteArray) (ho : out.size ≤ 9000000) (ts : List ByteArray) (hn : ts.length ≤ 9000000) (hs : ∀ t ∈ ts, t.size ≤ 9000000) (W : World) (g c : Nat) (hg : g < W.heap.size)
    (hc : ∀ (i : Nat) t, ts[i]? = some t → W.cell? ⟨g, i, none⟩ = some (.string t)) :
    Calls Tryd.prog 52 #[.string out, .slice (some ⟨g, 0, none⟩) ts.length c] W fun e W' => e = .returned (madeV out ts) ∧ Below W.heap.size W W' := by
  have HC := Lib.hid hc
  have HS := Lib.hid hs
  clear hc hs
  go_enter Tryd.func52, Tryd.ntmps52
  go_wp2
  go_loopw [10] (fun i wr => ∃ k : Nat, k ≤ ts.length ∧ i = .int .i64 k ∧ Below W.heap.size W wr ∧ ((ts.take k).all fun t => isP t.toList) = true) (fun i _ => ts.length - (intOf i).toNat)
  case atStart => exact ⟨0, by omega, rfl, Below.refl _ _, rfl⟩
  case round =>
    obtain ⟨k, hk, rfl, hB, ha⟩ := hrel
    by_cases hlt : k < ts.length
    · obtain ⟨p, hp⟩ : ∃ p, ts[k]? = some p := ⟨_, List.getElem?_eq_getElem hlt⟩
      have hps : p.size ≤ 9000000 := HS.out p (List.mem_of_getElem? hp)
      have c1 : wr.cell? ⟨g, k, none⟩ = some (.string p) := (hB.cell (p := ⟨g, k, none⟩) hg).trans (HC.out k p hp)
      have HP := Lib.hid hp
      have HA := Lib.hid ha
      clear hp ha
      cases hv : isP p.toList with
      | true =>
        have HV := Lib.hid hv
        clear hv
        go_wp2_with (go_at_call 21; refine (valid21 p hps _).mono ?_; rintro e W1 ⟨rfl, hb⟩; rw [HV.out])
        go_roundw
        case rel => exact ⟨k + 1, by omega, by go_num, hB.trans (hb.mono hB.size), made_hit HP.out HV.out HA.out⟩
        case measure => simp [intOf]; omega
      | false =>
        have HV := Lib.hid hv
        clear hv
        have hm : madeV out ts = .tuple #[.string ⟨#[]⟩, .bool false] := by unfold madeV; rw [made_miss HP.out HV.out]; rfl
        go_wp2_with (go_at_call 21; refine (valid21 p hps _).mono ?_; rintro e W1 ⟨rfl, hb⟩; rw [HV.out])
        go_ret2
        exact ⟨by rw [hm]; rfl, hB.trans (hb.mono hB.size)⟩
    · obtain rfl : k = ts.length := by omega
      rw [List.take_length] at ha
      cases hv : isP out.toList with
      | true =>
        have HV := Lib.hid hv
        have hm : madeV out ts = .tuple #[.string out, .bool true] := by
          have : madeOk out ts = true := by unfold madeOk; rw [ha, hv]; rfl
          unfold madeV; rw [this]; rfl
        clear hv ha
        go_wp2_with (go_at_call 21; refine (valid21 out ho _).mono ?_; rintro e W1 ⟨rfl, hb⟩; rw [HV.out])
        go_ret2
        exact ⟨by rw [hm]; rfl, hB.trans (hb.mono hB.size)⟩
      | false =>
        have HV := Lib.hid hv
        have hm : madeV out ts = .tuple #[.string ⟨#[]⟩, .bool false] := by
          have : madeOk out ts = false := by unfold madeOk; rw [hv]; simp
          unfold madeV; rw [this]; rfl
        clear hv ha
        go_wp2_with (go_at_call 21; refine (valid21 out ho _).mono ?_; rintro e W1 ⟨rfl, hb⟩; rw [HV.out])
        go_ret2
        exact ⟨by rw [hm]; rfl, hB.trans (hb.mono hB.size)⟩
end Go.Proofs.YtemilnkglkpnjaaDoor

