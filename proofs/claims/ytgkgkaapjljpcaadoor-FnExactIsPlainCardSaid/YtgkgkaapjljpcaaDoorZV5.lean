/- Chapter 11: programs made simpler, counted and told plain, both sides, and the walks of the laws. -/
import Derived.Test.YtgkgkaapjljpcaaDoorZV3
import Derived.Test.YtgkgkaapjljpcaaDoorZV4
import Derived.Test.YtgkgkaapjljpcaaDoorZC5
namespace Go.Proofs.YtgkgkaapjljpcaaDoor
open Go.ChangeShapes Go.WideShapes Go.ChangeAt Go.RowKit Go.Shelf
attribute [local go_sem] Oper.semAt_some
set_option maxRecDepth 100000

theorem msim_all {nd o : Node} {k c : Nat} (h : Sim nd o k c) : nd.ok → nd.text.length ≤ 60 → c ≤ 8000000 → MSim nd o k := by
  induction h with
  | atom a => exact fun hok _ _ => msim_atom a hok
  | @loopStop p p' k c h ht ih =>
    intro hok h60 hc
    have lp : p.text.length ≤ 60 := by simp [Node.text] at h60; omega
    obtain ⟨ok1, ln1, _⟩ := sim_keeps h hok
    have h60' : (Node.loop p').text.length ≤ 1048576 := by simp [Node.text] at h60 ⊢; omega
    have e1 := sim_le h
    exact msim_loop_stop p p' k ok1 h60' ht (by omega) (ih hok lp (by omega))
  | @loopGo p p' nn o k c k2 c2 h ht hn2 ih ihn =>
    intro hok h60 hc
    have lp : p.text.length ≤ 60 := by simp [Node.text] at h60; omega
    obtain ⟨ok1, ln1, _⟩ := sim_keeps h hok
    have h60' : (Node.loop p').text.length ≤ 60 := by simp [Node.text] at h60 ⊢; omega
    have hnl := top_len ht
    have e1 := sim_le h
    have e2 := sim_le hn2
    have okn := top_ok (nd := .loop p') ht ok1
    exact msim_loop_go p p' k ok1 (by omega) nn o k2 ht (by omega) (sim_keeps hn2 okn).1 (ihn okn (by omega) (by omega)) (by omega) (ih hok lp (by omega))
  | @pairStop s p p' q q' k1 c1 k2 c2 h1 h2 ht ih1 ih2 =>
    intro hok h60 hc
    have lp : p.text.length ≤ 60 := by simp [Node.text] at h60; omega
    have lq : q.text.length ≤ 60 := by simp [Node.text] at h60; omega
    obtain ⟨ok1, ln1, _⟩ := sim_keeps h1 hok.2.1
    obtain ⟨ok2, ln2, _⟩ := sim_keeps h2 hok.2.2
    have h60' : (Node.pair s p' q').text.length ≤ 1048576 := by simp [Node.text] at h60 ⊢; omega
    have e1 := sim_le h1
    have e2 := sim_le h2
    exact msim_pair_stop s p p' q q' k1 k2 ⟨hok.1, ok1, ok2⟩ h60' ht (by omega) (ih1 hok.2.1 lp (by omega)) (ih2 hok.2.2 lq (by omega))
  | @pairGo s p p' q q' nn o k1 c1 k2 c2 k3 c3 h1 h2 ht hn3 ih1 ih2 ihn =>
    intro hok h60 hc
    have lp : p.text.length ≤ 60 := by simp [Node.text] at h60; omega
    have lq : q.text.length ≤ 60 := by simp [Node.text] at h60; omega
    obtain ⟨ok1, ln1, _⟩ := sim_keeps h1 hok.2.1
    obtain ⟨ok2, ln2, _⟩ := sim_keeps h2 hok.2.2
    have okm : (Node.pair s p' q').ok := ⟨hok.1, ok1, ok2⟩
    have h60' : (Node.pair s p' q').text.length ≤ 60 := by simp [Node.text] at h60 ⊢; omega
    have hnl := top_len ht
    have e1 := sim_le h1
    have e2 := sim_le h2
    have e3 := sim_le hn3
    have okn := top_ok ht okm
    exact msim_pair_go s p p' q q' k1 k2 okm (by omega) nn o k3 ht (by omega) (sim_keeps hn3 okn).1 (ihn okn (by omega) (by omega)) (by omega) (ih1 hok.2.1 lp (by omega)) (ih2 hok.2.2 lq (by omega))

set_option maxHeartbeats 2000000 in
theorem msimplify_none (p : ByteArray) (hp : p.size ≤ 9000000) (w : World) (hP : readP p.toList = none) :
    Calls Tryd.prog 24 #[.string p] w fun e w' => e = .returned (.tuple #[.string ⟨#[]⟩, .bool false]) ∧ Below w.heap.size w w' := by
  have hr := read42 p hp
  go_enter Tryd.func24, Tryd.ntmps24
  go_wp2_with fail
  go_at_call 42
  refine (hr _).mono ?_
  rintro e W1 ⟨hb1, hm⟩
  rw [hP] at hm
  dsimp only at hm
  subst hm
  clear hP hr
  go_wp2_with fail
  go_ret2
  exact ⟨rfl, hb1.alloc hb1.size _⟩
set_option maxHeartbeats 2000000 in
theorem mcount_none (p : ByteArray) (hp : p.size ≤ 9000000) (w : World) (hP : readP p.toList = none) :
    Calls Tryd.prog 28 #[.string p] w fun e w' => e = .returned (.int .i64 (-1)) ∧ Below w.heap.size w w' := by
  have hr := read42 p hp
  go_enter Tryd.func28, Tryd.ntmps28
  go_wp2_with fail
  go_at_call 42
  refine (hr _).mono ?_
  rintro e W1 ⟨hb1, hm⟩
  rw [hP] at hm
  dsimp only at hm
  subst hm
  clear hP hr
  go_wp2_with fail
  go_ret
  exact ⟨rfl, hb1.alloc hb1.size _⟩
set_option maxHeartbeats 2000000 in
theorem msimplify_some (p : ByteArray) (hp : p.size ≤ 9000000) (w : World) {nd o : Node} {k c : Nat} (hP : readP p.toList = some nd) (hs : Sim nd o k c) (hc : c ≤ 8000000) :
    Calls Tryd.prog 24 #[.string p] w fun e w' => e = .returned (.tuple #[.string ⟨o.text.toArray⟩, .bool true]) ∧ Below w.heap.size w w' := by
  have hr := read42 p hp
  obtain ⟨hok, hpt, h60, _⟩ := readP_iff.1 hP
  have h60' : nd.text.length ≤ 60 := by rw [← hpt]; exact h60
  obtain ⟨hoo, hol, _⟩ := sim_keeps hs hok
  have hms := msim_all hs hok h60' hc
  have hx := fun W k s ad m cap (h : Nd W o k s ad m cap) => text43 o W 0 W.heap.size k s ad m cap h (Nat.le_refl _) hoo (by omega)
  go_enter Tryd.func24, Tryd.ntmps24
  go_wp2_with fail
  go_at_call 42
  refine (hr _).mono ?_
  rintro e W1 ⟨hb1, hm⟩
  rw [hP] at hm
  dsimp only at hm
  obtain ⟨k1, s1, ad1, m1, cap1, rfl, hn⟩ := hm
  have hB := hb1.alloc hb1.size (.cells #[.int .u8 k1, .string s1, .slice ad1 m1 cap1] 52)
  have hN : Nd (W1.alloc (.cells #[.int .u8 k1, .string s1, .slice ad1 m1 cap1] 52)) nd k1 s1 ad1 m1 cap1 := Nd.below (NodeIs.wide (Nat.zero_le _) (Nat.le_refl _) hn) ((Below.refl _ W1).alloc (Nat.le_refl _) _)
  have hm2 := hms _ _ _ _ _ _ hN
  clear hP hr hms hn hs hc
  go_wp2_with fail
  go_at_call 46
  refine hm2.mono ?_
  rintro e W2 ⟨hb2, k2, s2, ad2, m2, cap2, rfl, hn2⟩
  have hN2 : Nd (W2.alloc (.cells #[.int .u8 k2, .string s2, .slice ad2 m2 cap2] 52)) o k2 s2 ad2 m2 cap2 := Nd.below (NodeIs.wide (Nat.zero_le _) (Nat.le_refl _) hn2) ((Below.refl _ W2).alloc (Nat.le_refl _) _)
  have hx2 := hx _ _ _ _ _ _ hN2
  have hB2 := hB.trans (hb2.mono hB.size)
  have hB3 := hB2.alloc hB2.size (.cells #[.int .u8 k2, .string s2, .slice ad2 m2 cap2] 52)
  clear hb2 hx hn2 hm2
  go_wp2_with (go_at_call 47; refine hx2.mono ?_; rintro e W3 ⟨rfl, hb3⟩)
  go_ret2
  exact ⟨rfl, hB3.trans (hb3.mono hB3.size)⟩
set_option maxHeartbeats 2000000 in
theorem mcount_some (p : ByteArray) (hp : p.size ≤ 9000000) (w : World) {nd o : Node} {k c : Nat} (hP : readP p.toList = some nd) (hs : Sim nd o k c) (hc : c ≤ 8000000) :
    Calls Tryd.prog 28 #[.string p] w fun e w' => e = .returned (.int .i64 (k : Int)) ∧ Below w.heap.size w w' := by
  have hr := read42 p hp
  obtain ⟨hok, hpt, h60, _⟩ := readP_iff.1 hP
  have h60' : nd.text.length ≤ 60 := by rw [← hpt]; exact h60
  have hms := msim_all hs hok h60' hc
  go_enter Tryd.func28, Tryd.ntmps28
  go_wp2_with fail
  go_at_call 42
  refine (hr _).mono ?_
  rintro e W1 ⟨hb1, hm⟩
  rw [hP] at hm
  dsimp only at hm
  obtain ⟨k1, s1, ad1, m1, cap1, rfl, hn⟩ := hm
  have hB := hb1.alloc hb1.size (.cells #[.int .u8 k1, .string s1, .slice ad1 m1 cap1] 52)
  have hN : Nd (W1.alloc (.cells #[.int .u8 k1, .string s1, .slice ad1 m1 cap1] 52)) nd k1 s1 ad1 m1 cap1 := Nd.below (NodeIs.wide (Nat.zero_le _) (Nat.le_refl _) hn) ((Below.refl _ W1).alloc (Nat.le_refl _) _)
  have hm2 := hms _ _ _ _ _ _ hN
  clear hP hr hms hn hs hc
  go_wp2_with fail
  go_at_call 46
  refine hm2.mono ?_
  rintro e W2 ⟨hb2, k2, s2, ad2, m2, cap2, rfl, hn2⟩
  have hB2 := hB.trans (hb2.mono hB.size)
  clear hb2 hn2 hm2
  go_wp2_with fail
  go_ret
  first | exact ⟨rfl, hB2⟩ | exact ⟨rfl, hB2.alloc hB2.size _⟩
theorem mplain (p : ByteArray) (w : World) (z : Int) (H : Calls Tryd.prog 28 #[.string p] w fun e w' => e = .returned (.int .i64 z) ∧ Below w.heap.size w w') :
    Calls Tryd.prog 30 #[.string p] w fun e w' => e = .returned (.bool (z == 0)) ∧ Below w.heap.size w w' := by
  go_enter Tryd.func30, Tryd.ntmps30
  go_wp2_with (go_at_call 28; refine H.mono ?_; rintro e W1 ⟨rfl, hb1⟩)
  go_ret
  exact ⟨rfl, hb1⟩

/-- Both sides say the same. -/
theorem simp_both (t : ByteArray) (ht : t.size ≤ 9000000) : ∃ s b, (∀ W, Calls Tryd.prog 24 #[.string t] W fun e w' => e = .returned (.tuple #[.string s, .bool b]) ∧ Below W.heap.size W w') ∧
    (∀ (X : World) (N : Nat), Laid3 N X → Calls Tryd.prog 25 #[.string t] X fun e w' => e = .returned (.tuple #[.string s, .bool b]) ∧ Below X.heap.size X w') := by
  cases hP : readP t.toList with
  | none => exact ⟨_, _, fun W => msimplify_none t ht W hP, fun X N hL => psimplify_none t X hL hP⟩
  | some nd =>
    obtain ⟨hok, hpt, h60, _⟩ := readP_iff.1 hP
    have hsz := size_le_text nd hok
    obtain ⟨o, k, c, hs, _, _, hc⟩ := sim_some nd (by rw [← hpt] at hsz; omega)
    have hc' : c ≤ 8000000 := by rw [← hpt] at hsz; omega
    exact ⟨_, _, fun W => msimplify_some t ht W hP hs hc', fun X N hL => psimplify_some t X hL hP hs hc'⟩
theorem count_both (t : ByteArray) (ht : t.size ≤ 9000000) : ∃ z : Int, (∀ W, Calls Tryd.prog 28 #[.string t] W fun e w' => e = .returned (.int .i64 z) ∧ Below W.heap.size W w') ∧
    (∀ (X : World) (N : Nat), Laid3 N X → Calls Tryd.prog 29 #[.string t] X fun e w' => e = .returned (.int .i64 z) ∧ Below X.heap.size X w') := by
  cases hP : readP t.toList with
  | none => exact ⟨_, fun W => mcount_none t ht W hP, fun X N hL => pcount_none t X hL hP⟩
  | some nd =>
    obtain ⟨hok, hpt, h60, _⟩ := readP_iff.1 hP
    have hsz := size_le_text nd hok
    obtain ⟨o, k, c, hs, _, _, hc⟩ := sim_some nd (by rw [← hpt] at hsz; omega)
    have hc' : c ≤ 8000000 := by rw [← hpt] at hsz; omega
    exact ⟨_, fun W => mcount_some t ht W hP hs hc', fun X N hL => pcount_some t X hL hP hs hc'⟩

set_option maxHeartbeats 2000000 in
theorem walkSimplify (t : ByteArray) (hm : t.size ≤ maxLen) (w : World) {N : Nat} (hL : Laid3 N w) :
    Calls Tryd.prog 7 #[.string t] w fun e w' => e = .returned (.bool true) ∧ Below w.heap.size w w' := by
  unfold maxLen at hm
  by_cases hlt : t.size ≤ 1048576
  · have hlti : (t.size : Int) ≤ 1048576 := by omega
    obtain ⟨zs, zb, hmod, hprog⟩ := simp_both t (by omega)
    go_enter Tryd.func7, Tryd.ntmps7
    go_wp2_with (first
      | (go_at_call 24; refine (hmod _).mono ?_; rintro e W1 ⟨rfl, hb1⟩; have hL1 := hL.below hb1 hL.lt)
      | (go_at_call 25; refine (hprog _ _ hL1).mono ?_; rintro e W2 ⟨rfl, hb2⟩))
    go_ret
    exact ⟨rfl, hb1.trans (hb2.mono hb1.size)⟩
  · have hlti : (1048576 : Int) < (t.size : Int) := by omega
    go_enter Tryd.func7, Tryd.ntmps7
    go_wp2
    go_ret
    exact ⟨rfl, Below.refl _ _⟩

set_option maxHeartbeats 2000000 in
theorem walkCountSimpler (t : ByteArray) (hm : t.size ≤ maxLen) (w : World) {N : Nat} (hL : Laid3 N w) :
    Calls Tryd.prog 9 #[.string t] w fun e w' => e = .returned (.bool true) ∧ Below w.heap.size w w' := by
  unfold maxLen at hm
  by_cases hlt : t.size ≤ 1048576
  · have hlti : (t.size : Int) ≤ 1048576 := by omega
    obtain ⟨z, hmod, hprog⟩ := count_both t (by omega)
    go_enter Tryd.func9, Tryd.ntmps9
    go_wp2_with (first
      | (go_at_call 28; refine (hmod _).mono ?_; rintro e W1 ⟨rfl, hb1⟩; have hL1 := hL.below hb1 hL.lt)
      | (go_at_call 29; refine (hprog _ _ hL1).mono ?_; rintro e W2 ⟨rfl, hb2⟩))
    go_ret
    exact ⟨rfl, hb1.trans (hb2.mono hb1.size)⟩
  · have hlti : (1048576 : Int) < (t.size : Int) := by omega
    go_enter Tryd.func9, Tryd.ntmps9
    go_wp2
    go_ret
    exact ⟨rfl, Below.refl _ _⟩

set_option maxHeartbeats 2000000 in
theorem walkIsPlain (t : ByteArray) (hm : t.size ≤ maxLen) (w : World) {N : Nat} (hL : Laid3 N w) :
    Calls Tryd.prog 10 #[.string t] w fun e w' => e = .returned (.bool true) ∧ Below w.heap.size w w' := by
  unfold maxLen at hm
  by_cases hlt : t.size ≤ 1048576
  · have hlti : (t.size : Int) ≤ 1048576 := by omega
    obtain ⟨z, hm0, hp0⟩ := count_both t (by omega)
    have hmod := fun W => mplain t W z (hm0 W)
    have hprog := fun (X : World) (N : Nat) (hX : Laid3 N X) => pplain t X z (hp0 X N hX)
    clear hm0 hp0
    generalize (z == 0) = zz at hmod hprog
    go_enter Tryd.func10, Tryd.ntmps10
    go_wp2_with (first
      | (go_at_call 30; refine (hmod _).mono ?_; rintro e W1 ⟨rfl, hb1⟩; have hL1 := hL.below hb1 hL.lt)
      | (go_at_call 31; refine (hprog _ _ hL1).mono ?_; rintro e W2 ⟨rfl, hb2⟩))
    go_ret
    exact ⟨rfl, hb1.trans (hb2.mono hb1.size)⟩
  · have hlti : (1048576 : Int) < (t.size : Int) := by omega
    go_enter Tryd.func10, Tryd.ntmps10
    go_wp2
    go_ret
    exact ⟨rfl, Below.refl _ _⟩

end Go.Proofs.YtgkgkaapjljpcaaDoor

