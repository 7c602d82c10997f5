/- Chapter 7: the walk of the law on how many times a loop is gone through. -/
import Derived.Test.YtngcdgnijfiocaaGreatDoorPE
import Derived.Test.YtngcdgnijfiocaaGreatDoorPD
import Derived.Test.YtngcdgnijfiocaaGreatDoorV5
namespace Go.Proofs.YtngcdgnijfiocaaGreatDoor
open Go.ChangeShapes Go.WideShapes Go.ChangeAt Go.RowKit Go.Shelf
attribute [local go_sem] Oper.semAt_some
set_option maxRecDepth 100000

set_option maxHeartbeats 4000000 in
theorem looptimes_walk (w : World) (a : Option Addr) (len cap : Nat) (hc : Code w.heap.size w a len cap) (hl : len ≤ 1048576) {N : Nat} (hL : Laid3 N w) :
    Calls Tryz.prog 3 #[.slice a len cap] w fun e w' => e = .returned (.bool true) ∧ Below w.heap.size w w' := by
  have l1 : (len : Int) ≤ 1048576 := by omega
  have HC := Lib.hid hc
  clear hc
  go_enter Tryz.func3, Tryz.ntmps3
  go_wp2_with fail
  go_at_call 6
  refine (drawL9 HC.out (Nat.le_refl _)).mono ?_
  rintro e W0 ⟨t, s, x, ht, rfl, hcur⟩
  have cT := fun (X : World) (hX : Below w.heap.size w X) => plt17 t s x X (hL.below hX hL.lt)
  have mT := fun (X : World) => mlt27 t (by omega) s x X
  have cR := fun (X : World) (hX : Below w.heap.size w X) => preach10 t s x X (hL.below hX hL.lt)
  have cK := fun (X : World) (hX : Below w.heap.size w X) => pkind16 t X (hL.below hX hL.lt)
  cases hb : reachB t s x with
  | false =>
    have hz := reach_false hb
    have tz := timesZ_bad hb
    simp only [hb, hz, tz] at cR cT mT
    clear hb hz tz ht cK
    go_wp2_with (first
      | (go_at_call 7; refine (cT _ hcur).mono ?_; rintro e Wk ⟨rfl, hb⟩; replace hcur := hcur.trans (hb.mono hcur.size); clear hb)
      | (go_at_call 8; refine (mT _).mono ?_; rintro e Wk ⟨rfl, hb⟩; replace hcur := hcur.trans (hb.mono hcur.size); clear hb)
      | (go_at_call 9; refine (cR _ hcur).mono ?_; rintro e Wk ⟨rfl, hb⟩; replace hcur := hcur.trans (hb.mono hcur.size); clear hb))
    go_ret
    exact ⟨rfl, hcur⟩
  | true =>
    obtain ⟨nd, m, hP, hm, rfl, hx, hn⟩ := reach_true hb
    simp only [hb, hn] at cR
    clear hb hn
    cases nd with
    | atom l =>
      obtain ⟨hk, hp, hok⟩ := read_atom hP
      obtain ⟨n1, n2, n3⟩ := atom_signs hok
      have tz := timesZ_atom hP (m : Int) x
      simp only [hk] at cK
      simp only [tz] at cT mT
      have q3 : (l == [123]) = false := by simpa using n3
      generalize exitN x (runR (.atom l) m) = z at cR
      clear n1 n2 n3 hP hok hx ht hm hk hp tz
      go_wp2_with (first
        | (go_at_call 7; refine (cT _ hcur).mono ?_; rintro e Wk ⟨rfl, hb⟩; replace hcur := hcur.trans (hb.mono hcur.size); clear hb)
        | (go_at_call 8; refine (mT _).mono ?_; rintro e Wk ⟨rfl, hb⟩; replace hcur := hcur.trans (hb.mono hcur.size); clear hb)
        | (go_at_call 9; refine (cR _ hcur).mono ?_; rintro e Wk ⟨rfl, hb⟩; replace hcur := hcur.trans (hb.mono hcur.size); clear hb)
        | (go_at_call 10; refine (cK _ hcur).mono ?_; rintro e Wk ⟨rfl, hb⟩; replace hcur := hcur.trans (hb.mono hcur.size); clear hb))
      go_ret
      exact ⟨rfl, hcur⟩
    | pair k p q =>
      obtain ⟨hkk, _, _, _, _, hk, hp⟩ := read_pair hP
      have tz := timesZ_pair hP (m : Int) x
      simp only [hk] at cK
      simp only [tz] at cT mT
      generalize exitN x (runR (.pair k p q) m) = z at cR
      clear hP hx ht hm hk hp tz
      rcases hkk with rfl | rfl
      all_goals
        go_wp2_with (first
          | (go_at_call 7; refine (cT _ hcur).mono ?_; rintro e Wk ⟨rfl, hb⟩; replace hcur := hcur.trans (hb.mono hcur.size); clear hb)
          | (go_at_call 8; refine (mT _).mono ?_; rintro e Wk ⟨rfl, hb⟩; replace hcur := hcur.trans (hb.mono hcur.size); clear hb)
          | (go_at_call 9; refine (cR _ hcur).mono ?_; rintro e Wk ⟨rfl, hb⟩; replace hcur := hcur.trans (hb.mono hcur.size); clear hb)
          | (go_at_call 10; refine (cK _ hcur).mono ?_; rintro e Wk ⟨rfl, hb⟩; replace hcur := hcur.trans (hb.mono hcur.size); clear hb))
        go_ret
        exact ⟨rfl, hcur⟩
    | loop p =>
      obtain ⟨hok0, rp, hk, hp⟩ := read_loop hP
      have hok : p.ok := hok0
      have cP : ∀ X : World, Below w.heap.size w X → Calls Tryz.prog 11 #[.string t] X fun e w' => ∃ v, e = .returned v ∧ TRow w' X.heap.size v (partsP t.toList) ∧ Below X.heap.size X w' := fun X hX => pparts15 t X (hL.below hX hL.lt)
      simp only [hp] at cP
      have tz := timesZ_loop hP hm hx
      simp only [tz] at cT mT
      obtain ⟨h9, hall, hlast⟩ := times_all hok hm hx
      have hE : exitN x (runR (.loop p) m) < 512 := by rw [← hall]; exact wM_lt hok x hm _
      generalize timesN p x m = n at cT mT h9 hall hlast
      generalize exitN x (runR (.loop p) m) = E at cR hall hlast hE
      have n0 : ¬ (n : Int) < 0 := by omega
      have n0' : (0 : Int) ≤ (n : Int) := by omega
      have b0 := fun (k : Nat) (X : World) (hX : Below w.heap.size w X) => reach0 rp (sM_lt hok hm k) X (hL.below hX hL.lt)
      have b1 := fun (k : Nat) (X : World) (hX : Below w.heap.size w X) => reach1 rp (sM_lt hok hm k) X (hL.below hX hL.lt)
      clear hP hk hp tz ht cK hok0 rp
      go_wp2_with (first
        | (go_at_call 7; refine (cT _ hcur).mono ?_; rintro e Wk ⟨rfl, hb⟩; replace hcur := hcur.trans (hb.mono hcur.size); clear hb)
        | (go_at_call 8; refine (mT _).mono ?_; rintro e Wk ⟨rfl, hb⟩; replace hcur := hcur.trans (hb.mono hcur.size); clear hb)
        | (go_at_call 9; refine (cR _ hcur).mono ?_; rintro e Wk ⟨rfl, hb⟩; replace hcur := hcur.trans (hb.mono hcur.size); clear hb)
        | (go_at_call 11; refine (cP _ hcur).mono ?_; rintro e W3 ⟨v, rfl, hrow, hb⟩; replace hcur := hcur.trans (hb.mono hcur.size); clear hb; rcases hrow.cases with ⟨_, h0⟩ | ⟨g, cap', rfl, _, hgl, _⟩; (exact absurd h0 (by simp)); (have e0 : W3.cell? ⟨g, 0, none⟩ = some (.string (bytesOf p)) := hrow.cell rfl 0 (by simp)); clear hrow))
      clear cT mT cR cP
      rcases hx with rfl | rfl
      · have hs0 := (rfl : sM p m 0 = m)
        go_loopw [4, 10, 11, 12] (fun f b l i wr => ∃ k : Nat, k ≤ n + 1 ∧ f = .int .i64 ((sM p m k : Nat) : Int) ∧ b = .int .i64 ((wM p 0 m k : Nat) : Int) ∧ l = .int .i64 ((lastM p 0 m k : Nat) : Int) ∧ i = .int .i64 (k : Int) ∧ Below w.heap.size w wr) (fun _ _ _ i _ => n + 1 - (intOf i).toNat)
        case atStart => exact ⟨0, by omega, rfl, rfl, rfl, rfl, hcur⟩
        case round =>
          obtain ⟨k, hk, rfl, rfl, rfl, rfl, hcur2⟩ := hrel
          by_cases hlt : k ≤ n
          · have k8 : (k : Int) ≤ (n : Int) := by omega
            have k0 : (0 : Int) ≤ (k : Int) := by omega
            have k9 : (k : Int) ≤ 9 := by omega
            have h0 := b0 k
            have h1 := b1 k
            have e1 : sM p m (k + 1) = (runR p (sM p m k)).1 := rfl
            have e2 : wM p 0 m (k + 1) = wM p 0 m k ||| gM p 0 (sM p m k) := rfl
            have e3 : lastM p 0 m (k + 1) = wM p 0 m k := rfl
            have hor := or_nat (wM p 0 m k) (gM p 0 (sM p m k)) (by have := wM_lt hok 0 hm k; omega) (by have := gM_lt hok 0 (sM_lt hok hm k); omega)
            rw [← e2] at hor
            rw [gM_zero] at hor
            rw [← e1] at h0
            clear b0 b1 e1 e2 e3 hall hlast hE
            generalize hs' : sM p m (k + 1) = s' at h0
            generalize hb' : wM p 0 m (k + 1) = b' at hor
            generalize lastM p 0 m k = l0
            generalize hbb : wM p 0 m k = bb at hor ⊢
            generalize runR p (sM p m k) = rr at h0 h1 hor
            generalize sM p m k = ss at h0 h1 hor
            go_wp2_with (first
              | (go_at_call 9; refine (h0 _ hcur2).mono ?_; rintro e Wk ⟨rfl, hb⟩; replace hcur2 := hcur2.trans (hb.mono hcur2.size); clear hb))
            go_roundw
            case rel => exact ⟨k + 1, by omega, by rw [hs'], by rw [hb'], by rw [← hbb]; rfl, by go_num, hcur2⟩
            case measure => (simp [intOf] <;> omega)
          · obtain rfl : k = n + 1 := by omega
            clear b0 b1 hs0
            rw [hall]
            generalize sM p m (n + 1) = ss
            cases n with
            | zero =>
              rw [show lastM p 0 m (0 + 1) = 0 from rfl]
              go_wp2_with fail
              go_ret
              exact ⟨rfl, hcur2⟩
            | succ j =>
              have hne := hlast j rfl
              rw [show lastM p 0 m (j + 1 + 1) = wM p 0 m (j + 1) from rfl]
              clear hall hlast
              generalize wM p 0 m (j + 1) = L at hne ⊢
              have hni : ¬ (L : Int) = (E : Int) := by omega
              have j9 : ((j + 1 : Nat) : Int) ≤ 9 := by omega
              have j0 : ¬ ((j + 1 : Nat) : Int) = 0 := by omega
              have j1 : ¬ ((j + 1 + 1 : Nat) : Int) ≤ ((j + 1 : Nat) : Int) := by omega
              go_wp2_with fail
              have hne2 : ((L : Int) != (E : Int)) = true := bne_iff_ne.2 hni
              have hfin : (((j : Int) + 1 == 0 || (L : Int) != (E : Int)) && decide ((j : Int) + 1 ≤ 9)) = true := by
                rw [hne2, Bool.or_true, Bool.true_and]
                exact decide_eq_true (by omega)
              rw [hfin]
              go_ret
              exact ⟨rfl, hcur2⟩
      · have hs0 := (rfl : sM p m 0 = m)
        go_loopw [4, 10, 11, 12] (fun f b l i wr => ∃ k : Nat, k ≤ n + 1 ∧ f = .int .i64 ((sM p m k : Nat) : Int) ∧ b = .int .i64 ((wM p 1 m k : Nat) : Int) ∧ l = .int .i64 ((lastM p 1 m k : Nat) : Int) ∧ i = .int .i64 (k : Int) ∧ Below w.heap.size w wr) (fun _ _ _ i _ => n + 1 - (intOf i).toNat)
        case atStart => exact ⟨0, by omega, rfl, rfl, rfl, rfl, hcur⟩
        case round =>
          obtain ⟨k, hk, rfl, rfl, rfl, rfl, hcur2⟩ := hrel
          by_cases hlt : k ≤ n
          · have k8 : (k : Int) ≤ (n : Int) := by omega
            have k0 : (0 : Int) ≤ (k : Int) := by omega
            have k9 : (k : Int) ≤ 9 := by omega
            have h0 := b0 k
            have h1 := b1 k
            have e1 : sM p m (k + 1) = (runR p (sM p m k)).1 := rfl
            have e2 : wM p 1 m (k + 1) = wM p 1 m k ||| gM p 1 (sM p m k) := rfl
            have e3 : lastM p 1 m (k + 1) = wM p 1 m k := rfl
            have hor := or_nat (wM p 1 m k) (gM p 1 (sM p m k)) (by have := wM_lt hok 1 hm k; omega) (by have := gM_lt hok 1 (sM_lt hok hm k); omega)
            rw [← e2] at hor
            rw [gM_one] at hor
            rw [← e1] at h0
            clear b0 b1 e1 e2 e3 hall hlast hE
            generalize hs' : sM p m (k + 1) = s' at h0
            generalize hb' : wM p 1 m (k + 1) = b' at hor
            generalize lastM p 1 m k = l0
            generalize hbb : wM p 1 m k = bb at hor ⊢
            generalize runR p (sM p m k) = rr at h0 h1 hor
            generalize sM p m k = ss at h0 h1 hor
            go_wp2_with (first
            | (go_at_call_of 9 (Value.int IntKind.i64 1); refine (h1 _ hcur2).mono ?_; rintro e Wk ⟨rfl, hb⟩; replace hcur2 := hcur2.trans (hb.mono hcur2.size); clear hb)
              | (go_at_call 9; refine (h0 _ hcur2).mono ?_; rintro e Wk ⟨rfl, hb⟩; replace hcur2 := hcur2.trans (hb.mono hcur2.size); clear hb))
            go_roundw
            case rel => exact ⟨k + 1, by omega, by rw [hs'], by rw [hb'], by rw [← hbb]; rfl, by go_num, hcur2⟩
            case measure => (simp [intOf] <;> omega)
          · obtain rfl : k = n + 1 := by omega
            clear b0 b1 hs0
            rw [hall]
            generalize sM p m (n + 1) = ss
            cases n with
            | zero =>
              rw [show lastM p 1 m (0 + 1) = 0 from rfl]
              go_wp2_with fail
              go_ret
              exact ⟨rfl, hcur2⟩
            | succ j =>
              have hne := hlast j rfl
              rw [show lastM p 1 m (j + 1 + 1) = wM p 1 m (j + 1) from rfl]
              clear hall hlast
              generalize wM p 1 m (j + 1) = L at hne ⊢
              have hni : ¬ (L : Int) = (E : Int) := by omega
              have j9 : ((j + 1 : Nat) : Int) ≤ 9 := by omega
              have j0 : ¬ ((j + 1 : Nat) : Int) = 0 := by omega
              have j1 : ¬ ((j + 1 + 1 : Nat) : Int) ≤ ((j + 1 : Nat) : Int) := by omega
              go_wp2_with fail
              have hne2 : ((L : Int) != (E : Int)) = true := bne_iff_ne.2 hni
              have hfin : (((j : Int) + 1 == 0 || (L : Int) != (E : Int)) && decide ((j : Int) + 1 ≤ 9)) = true := by
                rw [hne2, Bool.or_true, Bool.true_and]
                exact decide_eq_true (by omega)
              rw [hfin]
              go_ret
              exact ⟨rfl, hcur2⟩
theorem long_FnLoopTimes (w : World) (a : Option Addr) (len cap : Nat) (h : 1048576 < len) :
    Calls Tryz.prog 3 #[.slice a len cap] w fun e w' => e = .returned (.bool true) ∧ Below w.heap.size w w' := by
  have h1 : (1048576 : Int) < (len : Int) := by omega
  go_enter Tryz.func3, Tryz.ntmps3
  go_wp2
  go_ret
  exact ⟨rfl, Below.refl _ _⟩
theorem walkFnLoopTimes (a0 : Option Addr) (len0 cap0 : Nat) (z0 : List Int) (w : World) (w0 : IsRow .u8 w a0 len0 cap0 z0) {N : Nat} (hL : Laid3 N w) :
    Calls Tryz.prog 3 #[.slice a0 len0 cap0] w fun e w' => e = .returned (.bool true) ∧ Below w.heap.size w w' := by
  by_cases h : len0 ≤ 1048576
  · exact looptimes_walk w a0 len0 cap0 (Code.ofRow w0) h hL
  · exact long_FnLoopTimes w a0 len0 cap0 (by omega)
end Go.Proofs.YtngcdgnijfiocaaGreatDoor

