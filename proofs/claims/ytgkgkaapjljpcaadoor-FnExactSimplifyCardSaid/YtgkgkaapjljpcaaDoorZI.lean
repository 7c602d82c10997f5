/- Chapter 11, the program: one rule used at a program's top. -/
import Derived.Test.YtgkgkaapjljpcaaDoorZH
namespace Go.Proofs.YtgkgkaapjljpcaaDoor
open Go.ChangeShapes Go.WideShapes Go.ChangeAt Go.RowKit Go.Shelf
attribute [local go_sem] Oper.semAt_some
set_option maxRecDepth 100000

theorem fn_row (W : World) (fs : Array Value) (t : TypeId) (i : Nat) (v : Value) (h : fs[i]? = some v) : (W.alloc (.cells fs t)).cell? ⟨W.heap.size, i, none⟩ = some v := by
  have n0 := heap_alloc_new W (.cells fs t)
  rw [cell_of_row _ W.heap.size i _ t (0, 0) n0]; exact h
theorem two_below (w : World) (a b : Obj) : Below w.heap.size w ((w.alloc a).alloc b) := ((Below.refl _ w).alloc (Nat.le_refl _) a).alloc (by simp) b

def topV (r : Option Node) : Value := match r with
  | some n => nodeV n
  | none => .nilIface
theorem topIs_iff (r : Option Node) (W : World) (e : Ending) (W' : World) : TopIs r W e W' ↔ Below W.heap.size W W' ∧ e = .returned (.tuple #[topV r, .bool r.isSome]) := by
  cases r <;> exact Iff.rfl
theorem topIs_calls {f : FuncId} {args : Array Value} {r : Option Node} {W X : World} (h : Calls Tryd.prog f args X fun e w' => Below W.heap.size W w' ∧ e = .returned (.tuple #[topV r, .bool r.isSome])) : Calls Tryd.prog f args X (TopIs r W) := h.mono fun e w' h => (topIs_iff r W e w').2 h
set_option maxHeartbeats 2000000 in
theorem ptop (nd : Node) (hok : nd.ok) (hl : nd.text.length ≤ 1000) (w : World) {N : Nat} (hL : Laid3 N w) :
    Calls Tryd.prog 51 #[nodeV nd] w (TopIs (topN nd) w) := by
  cases nd with
  | atom a =>
    rw [show nodeV (.atom a) = .iface 133 (.string ⟨a.toArray⟩) from rfl]
    have t1 := as93_77 ⟨a.toArray⟩
    have t2 := as93_79 ⟨a.toArray⟩
    have t3 := as93_81 ⟨a.toArray⟩
    go_enter Tryd.func51, Tryd.ntmps51
    go_wp2_with fail
    go_ret2
    exact ⟨Below.refl _ _, rfl⟩
  | loop p =>
    have hp : p.ok := hok
    have hr1 := rule7 p hp
    have hr2 := rule8 p hp
    show Calls _ _ _ _ (TopIs (topLoop p) w)
    rw [topLoop_or]
    rw [show nodeV (.loop p) = .iface 117 (.agg #[nodeV p]) from rfl]
    obtain ⟨T, x, hv⟩ := nodeV_iface p
    rw [hv] at hr1 hr2 ⊢
    have t1 := as81_77 (.iface T x)
    have t2 := as81_79 (.iface T x)
    have t3 := as81_81 (.iface T x)
    have hF := fit_loop _ _ x T ((w.alloc (.cells #[.iface T x] 117)).alloc (.cells #[.func (.func 79) #[] #[], .func (.func 80) #[] #[]] 144)) (w.heap.size + 1) (by simp)
      (by have := fn_row (w.alloc (.cells #[.iface T x] 117)) #[.func (.func 79) #[] #[], .func (.func 80) #[] #[]] 144 0 _ rfl; rw [World.size_alloc] at this; exact this)
      (by have := fn_row (w.alloc (.cells #[.iface T x] 117)) #[.func (.func 79) #[] #[], .func (.func 80) #[] #[]] 144 1 _ rfl; rw [World.size_alloc] at this; exact this)
      (fun w _ => hr1 w) (fun w _ => hr2 w)
    have hF := hF.mono fun e w' h => (topIs_iff _ _ e w').1 h
    apply topIs_calls
    generalize orN _ _ = r at hF ⊢
    generalize topV r = tv at hF ⊢
    generalize r.isSome = tb at hF ⊢
    go_enter Tryd.func51, Tryd.ntmps51
    go_wp2_with (go_at_call 78; refine hF.mono ?_; rintro e W1 ⟨hb1, rfl⟩)
    go_ret2
    exact ⟨(two_below w _ _).trans (hb1.mono (two_below w _ _).size), rfl⟩
  | pair k p q =>
    obtain ⟨hk, hp, hq⟩ := hok
    have lp : p.text.length ≤ 1000 := by simp [Node.text] at hl; omega
    have lq : q.text.length ≤ 1000 := by simp [Node.text] at hl; omega
    obtain ⟨T, x, hv⟩ := nodeV_iface p
    obtain ⟨U, y, hv2⟩ := nodeV_iface q
    rcases hk with rfl | rfl
    · have hr1 := rule1 p q hp hq
      have hr2 := rule2 p q hp
      have hr3 := rule3 p q hp hq lp lq
      have hr4 := fun w (h : Laid3 N w) => rule4 p q hp hq w h
      have hr5 := rule5 p q hp
      show Calls _ _ _ _ (TopIs (topSeq p q) w)
      rw [topSeq_or]
      rw [nodeV_seq]
      rw [hv, hv2] at hr1 hr2 hr3 hr5 ⊢
      simp only [hv, hv2] at hr4
      have t1 := as77_77 (.iface T x) (.iface U y)
      have hF := fit_seq _ _ _ _ _ x y T U ((w.alloc (.cells #[.iface T x, .iface U y] 107)).alloc (.cells #[.func (.func 71) #[] #[], .func (.func 72) #[] #[], .func (.func 73) #[] #[], .func (.func 74) #[] #[], .func (.func 75) #[] #[]] 139)) (w.heap.size + 1) (by simp)
        (by have := fn_row (w.alloc (.cells #[.iface T x, .iface U y] 107)) #[.func (.func 71) #[] #[], .func (.func 72) #[] #[], .func (.func 73) #[] #[], .func (.func 74) #[] #[], .func (.func 75) #[] #[]] 139 0 _ rfl; rw [World.size_alloc] at this; exact this)
        (by have := fn_row (w.alloc (.cells #[.iface T x, .iface U y] 107)) #[.func (.func 71) #[] #[], .func (.func 72) #[] #[], .func (.func 73) #[] #[], .func (.func 74) #[] #[], .func (.func 75) #[] #[]] 139 1 _ rfl; rw [World.size_alloc] at this; exact this)
        (by have := fn_row (w.alloc (.cells #[.iface T x, .iface U y] 107)) #[.func (.func 71) #[] #[], .func (.func 72) #[] #[], .func (.func 73) #[] #[], .func (.func 74) #[] #[], .func (.func 75) #[] #[]] 139 2 _ rfl; rw [World.size_alloc] at this; exact this)
        (by have := fn_row (w.alloc (.cells #[.iface T x, .iface U y] 107)) #[.func (.func 71) #[] #[], .func (.func 72) #[] #[], .func (.func 73) #[] #[], .func (.func 74) #[] #[], .func (.func 75) #[] #[]] 139 3 _ rfl; rw [World.size_alloc] at this; exact this)
        (by have := fn_row (w.alloc (.cells #[.iface T x, .iface U y] 107)) #[.func (.func 71) #[] #[], .func (.func 72) #[] #[], .func (.func 73) #[] #[], .func (.func 74) #[] #[], .func (.func 75) #[] #[]] 139 4 _ rfl; rw [World.size_alloc] at this; exact this)
        (fun w _ => hr1 w) (fun w _ => hr2 w) (fun w _ => hr3 w) (fun w' hb => hr4 w' ((hL.below (two_below w _ _) hL.lt).below hb (Nat.le_trans hL.lt (two_below w _ _).size))) (fun w _ => hr5 w)
      have hF := hF.mono fun e w' h => (topIs_iff _ _ e w').1 h
      apply topIs_calls
      generalize orN _ _ = r at hF ⊢
      generalize topV r = tv at hF ⊢
      generalize r.isSome = tb at hF ⊢
      go_enter Tryd.func51, Tryd.ntmps51
      go_wp2_with (go_at_call 70; refine hF.mono ?_; rintro e W1 ⟨hb1, rfl⟩)
      go_ret2
      exact ⟨(two_below w _ _).trans (hb1.mono (two_below w _ _).size), rfl⟩
    · have hr1 := rule6 p q hp hq lp lq
      show Calls _ _ _ _ (TopIs (if p.text = q.text then some p else none) w)
      rw [nodeV_choice]
      rw [hv, hv2] at hr1 ⊢
      have t1 := as79_77 (.iface T x) (.iface U y)
      have t2 := as79_79 (.iface T x) (.iface U y)
      have hF := fit_choice _ x y T U ((w.alloc (.cells #[.iface T x, .iface U y] 112)).alloc (.cells #[.func (.func 77) #[] #[]] 143)) (w.heap.size + 1) (by simp)
        (by have := fn_row (w.alloc (.cells #[.iface T x, .iface U y] 112)) #[.func (.func 77) #[] #[]] 143 0 _ rfl; rw [World.size_alloc] at this; exact this)
        (fun w _ => hr1 w)
      have hF := hF.mono fun e w' h => (topIs_iff _ _ e w').1 h
      apply topIs_calls
      generalize (if p.text = q.text then some p else none) = r at hF ⊢
      generalize topV r = tv at hF ⊢
      generalize r.isSome = tb at hF ⊢
      go_enter Tryd.func51, Tryd.ntmps51
      go_wp2_with (go_at_call 76; refine hF.mono ?_; rintro e W1 ⟨hb1, rfl⟩)
      go_ret2
      exact ⟨(two_below w _ _).trans (hb1.mono (two_below w _ _).size), rfl⟩
end Go.Proofs.YtgkgkaapjljpcaaDoor

