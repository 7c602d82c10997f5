/- Chapter 11: SimplerTop, both sides. -/
import Derived.Test.YtgkgkaapjljpcaaDoorZDy
import Derived.Test.YtgkgkaapjljpcaaDoorZI
namespace Go.Proofs.YtgkgkaapjljpcaaDoor
open Go.ChangeShapes Go.WideShapes Go.ChangeAt Go.RowKit Go.Shelf
attribute [local go_sem] Oper.semAt_some
set_option maxRecDepth 100000

/-- What is answered: a text, or none. -/
def optV (r : Option Node) : Value := match r with
  | some n => .tuple #[.string ⟨n.text.toArray⟩, .bool true]
  | none => .tuple #[.string ⟨#[]⟩, .bool false]
theorem optV_tuple (r : Option Node) : ∃ s b, optV r = .tuple #[.string s, .bool b] := by cases r <;> exact ⟨_, _, rfl⟩
def topR (p : ByteArray) : Option Node := (readP p.toList).bind topN
theorem topV_tuple (p : ByteArray) : ∃ s b, optV (topR p) = .tuple #[.string s, .bool b] := optV_tuple _

set_option maxHeartbeats 2000000 in
theorem pstop (p : ByteArray) (w : World) {N : Nat} (hL : Laid3 N w) :
    Calls Tryd.prog 27 #[.string p] w fun e w' => e = .returned (optV (topR p)) ∧ Below w.heap.size w w' := by
  have hr := pread40 p.toList w hL
  rw [bytes_eta] at hr
  unfold topR
  cases hP : readP p.toList with
  | none =>
    show Calls _ _ _ _ fun e w' => e = .returned (.tuple #[.string ⟨#[]⟩, .bool false]) ∧ _
    go_enter Tryd.func27, Tryd.ntmps27
    go_wp2_with fail
    go_at_call 50
    refine hr.mono ?_
    rintro e W1 ⟨hb1, hm⟩
    rw [hP] at hm
    obtain ⟨T, u, rfl⟩ := hm
    clear hP hr
    go_wp2_with fail
    go_ret2
    exact ⟨rfl, hb1⟩
  | some nd =>
    obtain ⟨hok, hpt, h60, _⟩ := readP_iff.1 hP
    have hlt : nd.text.length ≤ 1000 := by rw [← hpt]; omega
    have ht := fun W (h : Laid3 N W) => ptop nd hok hlt W h
    show Calls _ _ _ _ fun e w' => e = .returned (optV (topN nd)) ∧ _
    have hok2 := fun n (h : topN nd = some n) => top_ok h hok
    have hln2 := fun n (h : topN nd = some n) => top_len h
    generalize topN nd = r at ht hok2 hln2 ⊢
    cases r with
    | none =>
      show Calls _ _ _ _ fun e w' => e = .returned (.tuple #[.string ⟨#[]⟩, .bool false]) ∧ _
      go_enter Tryd.func27, Tryd.ntmps27
      go_wp2_with fail
      go_at_call 50
      refine hr.mono ?_
      rintro e W1 ⟨hb1, hm⟩
      rw [hP] at hm
      dsimp only at hm
      subst hm
      have ht1 := (ht W1 (hL.below hb1 hL.lt)).mono fun e w' h => (topIs_iff _ _ e w').1 h
      clear hP hr ht
      obtain ⟨T, x, hv⟩ := nodeV_iface nd
      rw [hv] at ht1 ⊢
      go_wp2_with fail
      go_at_call 51
      refine ht1.mono ?_
      rintro e W2 ⟨hb2, rfl⟩
      go_wp2_with fail
      go_ret2
      exact ⟨rfl, hb1.trans (hb2.mono hb1.size)⟩
    | some n =>
      have hno := hok2 n rfl
      have hnl : n.text.length ≤ 1000 := Nat.le_trans (hln2 n rfl) hlt
      show Calls _ _ _ _ fun e w' => e = .returned (.tuple #[.string ⟨n.text.toArray⟩, .bool true]) ∧ _
      have hx := ptext n hno hnl
      have hmt := meth_text n hno
      have hcf := call_text n hno
      clear hok2 hln2
      go_enter Tryd.func27, Tryd.ntmps27
      go_wp2_with fail
      go_at_call 50
      refine hr.mono ?_
      rintro e W1 ⟨hb1, hm⟩
      rw [hP] at hm
      dsimp only at hm
      subst hm
      have ht1 := (ht W1 (hL.below hb1 hL.lt)).mono fun e w' h => (topIs_iff _ _ e w').1 h
      clear hP hr ht
      obtain ⟨T, x, hv⟩ := nodeV_iface nd
      rw [hv] at ht1 ⊢
      rw [show topV (some n) = nodeV n from rfl, nodeV_eq n hno] at ht1
      go_wp2_with fail
      go_at_call 51
      refine ht1.mono ?_
      rintro e W2 ⟨hb2, rfl⟩
      have hB := hb1.trans (hb2.mono hb1.size)
      go_wp2_with (refine (hx _).mono ?_; rintro e W3 ⟨rfl, hb3⟩)
      go_ret2
      exact ⟨rfl, hB.trans (hb3.mono hB.size)⟩

set_option maxHeartbeats 4000000 in
theorem mstop (p : ByteArray) (hp : p.size ≤ 9000000) (w : World) :
    Calls Tryd.prog 26 #[.string p] w fun e w' => e = .returned (optV (topR p)) ∧ Below w.heap.size w w' := by
  have hr := read42 p hp
  unfold topR
  cases hP : readP p.toList with
  | none =>
    show Calls _ _ _ _ fun e w' => e = .returned (.tuple #[.string ⟨#[]⟩, .bool false]) ∧ _
    go_enter Tryd.func26, Tryd.ntmps26
    go_wp2_with fail
    go_at_call 42
    refine (hr _).mono ?_
    rintro e W1 ⟨hb1, hm⟩
    rw [hP] at hm
    dsimp only at hm
    subst hm
    clear hP hr
    have hB := hb1.alloc hb1.size (.cells #[.int .u8 0, .string ⟨#[]⟩, .slice none 0 0] 52)
    go_wp2_with fail
    go_at_call 49
    refine (mtop_other _ 0 ⟨#[]⟩ none 0 0 rfl rfl rfl).mono ?_
    rintro e W2 ⟨hb2, k, s, ad, n, cap, rfl, _⟩
    have hB2 := hB.trans (hb2.mono hB.size)
    clear hb2
    go_wp2_with fail
    go_ret2
    exact ⟨rfl, hB2.alloc hB2.size _⟩
  | some nd =>
    obtain ⟨hok, hpt, h60, _⟩ := readP_iff.1 hP
    have hlt : nd.text.length ≤ 1000 := by rw [← hpt]; omega
    have ht := fun W k s ad n cap (h : Nd W nd k s ad n cap) => mtop nd hok (by omega) W k s ad n cap h
    show Calls _ _ _ _ fun e w' => e = .returned (optV (topN nd)) ∧ _
    have hok2 := fun n (h : topN nd = some n) => top_ok h hok
    have hln2 := fun n (h : topN nd = some n) => top_len h
    generalize topN nd = r at ht hok2 hln2 ⊢
    cases r with
    | none =>
      show Calls _ _ _ _ fun e w' => e = .returned (.tuple #[.string ⟨#[]⟩, .bool false]) ∧ _
      go_enter Tryd.func26, Tryd.ntmps26
      go_wp2_with fail
      go_at_call 42
      refine (hr _).mono ?_
      rintro e W1 ⟨hb1, hm⟩
      rw [hP] at hm
      dsimp only at hm
      obtain ⟨k, s, ad, m, cap, rfl, hn⟩ := hm
      clear hP hr
      have hB := hb1.alloc hb1.size (.cells #[.int .u8 k, .string s, .slice ad m cap] 52)
      have hN : Nd (W1.alloc (.cells #[.int .u8 k, .string s, .slice ad m cap] 52)) nd k s ad m cap := Nd.below (NodeIs.wide (Nat.zero_le _) (Nat.le_refl _) hn) ((Below.refl _ W1).alloc (Nat.le_refl _) _)
      have ht1 := ht _ _ _ _ _ _ hN
      clear ht hn
      go_wp2_with fail
      go_at_call 49
      refine ht1.mono ?_
      rintro e W2 ⟨hb2, k, s, ad, n, cap, rfl, _⟩
      have hB2 := hB.trans (hb2.mono hB.size)
      clear hb2
      go_wp2_with fail
      go_ret2
      exact ⟨rfl, hB2.alloc hB2.size _⟩
    | some n =>
      have hno := hok2 n rfl
      have hnl : n.text.length ≤ 1048576 := Nat.le_trans (hln2 n rfl) (by omega)
      show Calls _ _ _ _ fun e w' => e = .returned (.tuple #[.string ⟨n.text.toArray⟩, .bool true]) ∧ _
      have hx := fun W k s ad m cap (h : Nd W n k s ad m cap) => text43 n W 0 W.heap.size k s ad m cap h (Nat.le_refl _) hno hnl
      clear hok2 hln2
      go_enter Tryd.func26, Tryd.ntmps26
      go_wp2_with fail
      go_at_call 42
      refine (hr _).mono ?_
      rintro e W1 ⟨hb1, hm⟩
      rw [hP] at hm
      dsimp only at hm
      obtain ⟨k, s, ad, m, cap, rfl, hn⟩ := hm
      clear hP hr
      have hB := hb1.alloc hb1.size (.cells #[.int .u8 k, .string s, .slice ad m cap] 52)
      have hN : Nd (W1.alloc (.cells #[.int .u8 k, .string s, .slice ad m cap] 52)) nd k s ad m cap := Nd.below (NodeIs.wide (Nat.zero_le _) (Nat.le_refl _) hn) ((Below.refl _ W1).alloc (Nat.le_refl _) _)
      have ht1 := ht _ _ _ _ _ _ hN
      clear ht hn
      go_wp2_with fail
      go_at_call 49
      refine ht1.mono ?_
      rintro e W2 ⟨hb2, k2, s2, ad2, m2, cap2, rfl, hn2⟩
      have hN2 : Nd (W2.alloc (.cells #[.int .u8 k2, .string s2, .slice ad2 m2 cap2] 52)) n k2 s2 ad2 m2 cap2 := (hn2 n rfl).below ((Below.refl _ W2).alloc (Nat.le_refl _) _)
      have hx2 := hx _ _ _ _ _ _ hN2
      have hB2 := hB.trans (hb2.mono hB.size)
      have hB3 := hB2.alloc hB2.size (.cells #[.int .u8 k2, .string s2, .slice ad2 m2 cap2] 52)
      clear hb2 hx hn2
      go_wp2_with (go_at_call 47; refine hx2.mono ?_; rintro e W3 ⟨rfl, hb3⟩)
      go_ret2
      exact ⟨rfl, hB3.trans (hb3.mono hB3.size)⟩
end Go.Proofs.YtgkgkaapjljpcaaDoor

