/- The program's answers on one text: its kind, its size, its loops, its parts. -/
import Derived.Test.YtnejphdbnfdbhaaGreatDoorNB
namespace Go.Proofs.YtnejphdbnfdbhaaGreatDoor
open Go.ChangeShapes Go.WideShapes Go.ChangeAt Go.RowKit Go.Shelf
attribute [local go_sem] Oper.semAt_some
set_option maxRecDepth 100000

theorem size_le_len : ∀ nd : Node, nd.ok → nd.size ≤ nd.text.length
  | .atom a, h => by have := text_pos (.atom a) h; simp [Node.size]; omega
  | .loop p, h => by have := size_le_len p h; simp [Node.size, Node.text]; omega
  | .pair k p q, h => by have := size_le_len p h.2.1; have := size_le_len q h.2.2; simp [Node.size, Node.text]; omega


theorem ploops24 (t : ByteArray) (w : World) {N : Nat} (hE : Laid3 N w) :
    Calls Tryz.prog 19 #[.string t] w fun e w' => e = .returned (.int .i64 (loopsP t.toList)) ∧ Below w.heap.size w w' := by
  have hr := pread40 t.toList w hE
  rw [bytes_eta] at hr
  cases hP : readP t.toList with
  | none =>
    have HP := Lib.hid hP
    have hi : loopsP t.toList = -1 := by unfold loopsP; rw [hP]
    rw [hi]
    clear hP hi
    go_enter Tryz.func19, Tryz.ntmps19
    go_wp2_with (go_at_call 37; refine hr.mono ?_; rintro e W1 ⟨hb, hm⟩; rw [HP.out] at hm; obtain ⟨T, v, rfl⟩ := hm)
    go_ret
    exact ⟨rfl, hb⟩
  | some nd =>
    have HP := Lib.hid hP
    have hi : loopsP t.toList = (nd.loops : Int) := by unfold loopsP; rw [hP]
    obtain ⟨hok, htx, h60, h6⟩ := readP_iff.1 hP
    have hsz := ploops46 nd hok (by omega)
    obtain ⟨T0, x0, hv⟩ := nodeV_iface nd
    have HV := Lib.hid hv
    rw [hv] at hsz
    rw [hi]
    clear hP hi hv htx
    go_enter Tryz.func19, Tryz.ntmps19
    go_wp2_with (first
      | (go_at_call 37; refine hr.mono ?_; rintro e W1 ⟨hb, hm⟩; rw [HP.out] at hm; obtain rfl := hm; rw [HV.out])
      | (go_at_call 58; refine (hsz _).mono ?_; rintro e W2 ⟨rfl, hb2⟩))
    go_ret
    exact ⟨rfl, hb.trans (hb2.mono hb.size)⟩

/-- What a program is made by. -/
def kindN : Node → List UInt8
  | .atom a => a
  | .loop _ => [123]
  | .pair k _ _ => [k]
theorem kindP_some {l : List UInt8} {nd : Node} (h : readP l = some nd) : kindP l = kindN nd := by
  unfold kindP
  rw [h]
  cases nd <;> rfl
theorem pkindN (nd : Node) (hok : nd.ok) (w : World) : Calls Tryz.prog 83 #[nodeV nd] w fun e w' => e = .returned (.string ⟨(kindN nd).toArray⟩) ∧ Below w.heap.size w w' := by
  have := pkind41 nd hok w
  cases nd <;> exact this


/-! ### Its parts -/
theorem own_below {W W' : World} {B n : Nat} {v : Value} {xs : List Value} (h : W.ownsRow B 9 1 v n xs) (hb : Below W.heap.size W W') : W'.ownsRow B 9 1 v n xs :=
  h.kept (below_grown hb none) (by cases h : v.ownBlock <;> simp)





theorem partsP_len (l : List UInt8) : (partsP l).length ≤ 2 := by
  unfold partsP
  split <;> simp
end Go.Proofs.YtnejphdbnfdbhaaGreatDoor

