/- Chapter 11, the model: the rules on a sequence, all of them. -/
import Derived.Test.YtgkgkaapjljpcaaDoorZDn
import Derived.Test.YtgkgkaapjljpcaaDoorZDt
import Derived.Test.YtgkgkaapjljpcaaDoorZDu1
import Derived.Test.YtgkgkaapjljpcaaDoorZDu2
import Derived.Test.YtgkgkaapjljpcaaDoorZDo1
import Derived.Test.YtgkgkaapjljpcaaDoorZDo2
import Derived.Test.YtgkgkaapjljpcaaDoorZDo3
import Derived.Test.YtgkgkaapjljpcaaDoorZDo4
import Derived.Test.YtgkgkaapjljpcaaDoorZDl
namespace Go.Proofs.YtgkgkaapjljpcaaDoor
open Go.ChangeShapes Go.WideShapes Go.ChangeAt Go.RowKit Go.Shelf
attribute [local go_sem] Oper.semAt_some
set_option maxRecDepth 100000

theorem Nd.of_kind {W : World} {b : Node} (hok : b.ok) {k : Int} {s : ByteArray} {ad : Option Addr} {n cap : Nat} (h : Nd W b k s ad n cap) : (∃ y, b = .atom y) ∨ (k == 97) = false := by
  cases b with
  | atom y => exact .inl ⟨y, rfl⟩
  | loop p => obtain ⟨rfl, _⟩ := h; exact .inr rfl
  | pair k0 p q =>
    obtain ⟨rfl, _⟩ := h
    obtain ⟨rfl | rfl, _, _⟩ := hok
    · exact .inr rfl
    · exact .inr rfl
theorem over_atoms {a b : Node} (h : overN a b = true) : ∃ x y, a = .atom x ∧ b = .atom y := by
  unfold overN at h
  split at h
  · exact ⟨_, _, rfl, rfl⟩
  · cases h
theorem mseq (a b : Node) (hoa : a.ok) (hob : b.ok) (la : a.text.length ≤ 1048576) (lb : b.text.length ≤ 1048576) (s : ByteArray) (g cap : Nat) (w : World) (k1 : Int) (s1 : ByteArray) (ad1 : Option Addr) (n1 cap1 : Nat) (k2 : Int) (s2 : ByteArray) (ad2 : Option Addr) (n2 cap2 : Nat) (hD : Duo w g a b k1 s1 ad1 n1 cap1 k2 s2 ad2 n2 cap2) :
    Calls Tryd.prog 65 #[.agg #[.int .u8 59, .string s, .slice (some ⟨g, 0, none⟩) 2 cap]] w (MFits (topSeq a b) w) := by
  unfold topSeq
  cases hA1 : isA a 46 with
  | true => rw [if_pos rfl]; exact seq_a a b hoa hob s g cap w k1 s1 ad1 n1 cap1 k2 s2 ad2 n2 cap2 hD hA1
  | false =>
  rw [if_neg (by simp)]
  cases hA2 : isA b 46 with
  | true => rw [if_pos rfl]; exact seq_b a b hoa hob s g cap w k1 s1 ad1 n1 cap1 k2 s2 ad2 n2 cap2 hD hA1 hA2
  | false =>
  rw [if_neg (by simp)]
  cases hA3 : isA a 33 with
  | true => rw [if_pos rfl]; exact seq_c a b hoa hob s g cap w k1 s1 ad1 n1 cap1 k2 s2 ad2 n2 cap2 hD hA1 hA2 hA3
  | false =>
  rw [if_neg (by simp)]
  cases a with
  | loop p =>
    obtain ⟨rfl, _⟩ := id hD.na
    rw [if_neg (by rintro ⟨h, _⟩; cases h), if_neg (by intro h; cases h)]
    exact seq_n (.loop p) b hoa hob s g cap w 123 s1 ad1 n1 cap1 k2 s2 ad2 n2 cap2 hD hA1 hA2 hA3 rfl rfl
  | pair k0 p q =>
    rw [if_neg (by rintro ⟨h, _⟩; cases h), if_neg (by intro h; cases h)]
    obtain ⟨rfl | rfl, _, _⟩ := id hoa
    · exact seq_l p q b hoa hob s g cap w k1 s1 ad1 n1 cap1 k2 s2 ad2 n2 cap2 hD hA1 hA2 hA3
    · obtain ⟨rfl, _⟩ := id hD.na
      exact seq_n (.pair 124 p q) b hoa hob s g cap w 124 s1 ad1 n1 cap1 k2 s2 ad2 n2 cap2 hD hA1 hA2 hA3 rfl rfl
  | atom x =>
    cases x with
    | nil =>
      exfalso
      rcases hoa with h | h | h | ⟨t, _, h⟩
      · cases h
      · cases h
      · exact absurd h (by decide)
      · cases h
    | cons c r =>
      have ht : testN (.atom (c :: r)) = ((c.toNat : Int) == 91) := by
        show (c == 91) = _
        rw [Bool.eq_iff_iff, beq_iff_eq, beq_iff_eq]
        exact ⟨fun h => by rw [h]; rfl, fun h => UInt8.toNat_inj.1 (by have : (91 : UInt8).toNat = 91 := rfl; omega)⟩
      rw [ht]
      cases hc : ((c.toNat : Int) == 91) with
      | true =>
        cases hbe : ((c :: r) == b.text) with
        | true =>
          have e : (c :: r) = b.text := eq_of_beq hbe
          rw [if_pos ⟨rfl, e⟩]
          exact seq_t c r b hoa hob s g cap w k1 s1 ad1 n1 cap1 k2 s2 ad2 n2 cap2 hD hA1 hA2 hA3 la lb hc hbe
        | false =>
          have e : ¬ ((c :: r) = b.text) := fun h => by rw [h, beq_self_eq_true] at hbe; cases hbe
          rw [if_neg (fun h => e h.2)]
          rcases Nd.of_kind hob hD.nb with ⟨y, rfl⟩ | hk2
          · cases hq : overN (.atom (c :: r)) (.atom y) with
            | true => rw [if_pos rfl]; exact seq_o3 c r y hoa hob s g cap w k1 s1 ad1 n1 cap1 k2 s2 ad2 n2 cap2 hD hA1 hA2 hA3 la lb hc hbe hq
            | false => rw [if_neg (by simp)]; exact seq_o4 c r y hoa hob s g cap w k1 s1 ad1 n1 cap1 k2 s2 ad2 n2 cap2 hD hA1 hA2 hA3 la lb hc hbe hq
          · have hq : ¬ overN (.atom (c :: r)) b = true := by
              intro h
              obtain ⟨x, y, _, rfl⟩ := over_atoms h
              obtain ⟨rfl, _⟩ := id hD.nb
              cases hk2
            rw [if_neg hq]
            exact seq_u2 c r b hoa hob s g cap w k1 s1 ad1 n1 cap1 k2 s2 ad2 n2 cap2 hD hA1 hA2 hA3 la lb hc hbe hk2
      | false =>
        rw [if_neg (fun h => by cases h.1)]
        rcases Nd.of_kind hob hD.nb with ⟨y, rfl⟩ | hk2
        · cases hq : overN (.atom (c :: r)) (.atom y) with
          | true => rw [if_pos rfl]; exact seq_o1 c r y hoa hob s g cap w k1 s1 ad1 n1 cap1 k2 s2 ad2 n2 cap2 hD hA1 hA2 hA3 hc hq
          | false => rw [if_neg (by simp)]; exact seq_o2 c r y hoa hob s g cap w k1 s1 ad1 n1 cap1 k2 s2 ad2 n2 cap2 hD hA1 hA2 hA3 hc hq
        · have hq : ¬ overN (.atom (c :: r)) b = true := by
            intro h
            obtain ⟨x, y, _, rfl⟩ := over_atoms h
            obtain ⟨rfl, _⟩ := id hD.nb
            cases hk2
          rw [if_neg hq]
          exact seq_u1 c r b hoa hob s g cap w k1 s1 ad1 n1 cap1 k2 s2 ad2 n2 cap2 hD hA1 hA2 hA3 hc hk2
end Go.Proofs.YtgkgkaapjljpcaaDoor

