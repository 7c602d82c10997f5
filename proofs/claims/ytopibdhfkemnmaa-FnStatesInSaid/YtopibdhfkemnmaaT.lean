/- Texts of states: the two digits of a state, in the program and in the model. -/
import Derived.Test.YtopibdhfkemnmaaG
import Derived.Laws.BytesArg
import Derived.Lib.Join
namespace Go.Proofs.Ytopibdhfkemnmaa
open Go.ChangeShapes Go.WideShapes Go.ChangeAt Go.RowKit

/-- The two digits of a state. -/
def two (x : Fin 9) : List UInt8 := [UInt8.ofNat (48 + x.val / 3), UInt8.ofNat (48 + x.val % 3)]

theorem conv_two (X : World) (p q : Int) (g : Nat) (hg : g = X.heap.size) :
    (convert 22 9 (.slice (some ⟨g, 0, none⟩) 2 2)).run Try.prog (X.alloc (.cells #[.int .u8 p, .int .u8 q] 5)) = .ok (.string (strOfNums [p, q])) (X.alloc (.cells #[.int .u8 p, .int .u8 q] 5)) := by
  subst hg
  refine run_convert_bytes_arg _ 22 5 Try.underlying22 Try.underlying5 X.heap.size 0 2 2 [p, q] rfl (fun i hi => ?_) 9 Try.underlying9
  match i, hi with
  | 0, _ => simp
  | 1, _ => simp
theorem conv_one (X : World) (p : Int) (g : Nat) (hg : g = X.heap.size) :
    (convert 22 9 (.slice (some ⟨g, 0, none⟩) 1 1)).run Try.prog (X.alloc (.cells #[.int .u8 p] 5)) = .ok (.string (strOfNums [p])) (X.alloc (.cells #[.int .u8 p] 5)) := by
  subst hg
  refine run_convert_bytes_arg _ 22 5 Try.underlying22 Try.underlying5 X.heap.size 0 1 1 [p] rfl (fun i hi => ?_) 9 Try.underlying9
  match i, hi with
  | 0, _ => simp

set_option maxHeartbeats 1000000 in
theorem tx47 (w : World) (a b : Int) (a0 : 0 ≤ a) (a2 : a ≤ 2) (b0 : 0 ≤ b) (b2 : b ≤ 2) :
    Calls Try.prog 47 #[.agg #[.int .i64 a, .int .i64 b]] w fun e w' => e = .returned (.string (strOfNums [48 + a, 48 + b])) ∧ Below w.heap.size w w' := by
  have hk := conv_two (w.alloc (.cells #[.int .i64 a, .int .i64 b] 52)) (48 + a) (48 + b) (w.heap.size + 1) (by simp)
  go_enter Try.func47, Try.ntmps47
  go_wp2
  go_ret
  exact ⟨rfl, (((Below.refl _ _).alloc (Nat.le_refl _) _).alloc (by simp) _)⟩
set_option maxHeartbeats 1000000 in
theorem dec43 (w : World) (a : Int) (a0 : 0 ≤ a) (a9 : a ≤ 9) :
    Calls Try.prog 43 #[.int .i64 a] w fun e w' => e = .returned (.string (strOfNums [48 + a])) ∧ Below w.heap.size w w' := by
  go_enter Try.func43, Try.ntmps43
  go_wp2
  go_loopw [0, 3] (fun n s wr => n = .int .i64 a ∧ s = .string ⟨#[]⟩ ∧ wr = w) (fun _ _ _ => 0)
  case atStart => exact ⟨rfl, rfl, rfl⟩
  case round =>
    obtain ⟨rfl, rfl, rfl⟩ := hrel
    have hk := conv_one wr (48 + a) wr.heap.size rfl
    go_wp2
    go_ret
    exact ⟨rfl, (((Below.refl _ _).alloc (Nat.le_refl _) _))⟩

theorem two_eq (x : Fin 9) : strOfNums [48 + ((x.val : Int) / 3)] ++ strOfNums [48 + ((x.val : Int) % 3)] = ⟨(two x).toArray⟩ := by
  have : ∀ y : Fin 9, strOfNums [48 + ((y.val : Int) / 3)] ++ strOfNums [48 + ((y.val : Int) % 3)] = ⟨(two y).toArray⟩ := by decide +kernel
  exact this x
theorem two_eq' (x : Fin 9) : strOfNums [48 + ((x.val : Int) / 3), 48 + ((x.val : Int) % 3)] = ⟨(two x).toArray⟩ := by
  have : ∀ y : Fin 9, strOfNums [48 + ((y.val : Int) / 3), 48 + ((y.val : Int) % 3)] = ⟨(two y).toArray⟩ := by decide +kernel
  exact this x

/-- The text of a list of states: both digits of each, with commas between them. -/
def fmtL (l : List (Fin 9)) : List UInt8 := Lib.join (l.map two) [44]
theorem fmtL_nil : fmtL [] = [] := rfl
theorem fmtL_one (x : Fin 9) : fmtL [x] = two x := Lib.join_one _ _
theorem joinTail_append (sep : List UInt8) (r t : List (List UInt8)) : Lib.joinTail sep (r ++ t) = Lib.joinTail sep r ++ Lib.joinTail sep t := by simp [Lib.joinTail]
theorem fmtL_snoc {l : List (Fin 9)} (h : l ≠ []) (x : Fin 9) : fmtL (l ++ [x]) = fmtL l ++ 44 :: two x := by
  cases l with
  | nil => exact absurd rfl h
  | cons y r =>
    unfold fmtL
    rw [List.cons_append, List.map_cons, List.map_append, Lib.join_cons, joinTail_append, List.map_cons (l := r), Lib.join_cons]
    simp [Lib.joinTail]
theorem fmtL_ne {l : List (Fin 9)} (h : l ≠ []) : fmtL l ≠ [] := by
  cases l with
  | nil => exact absurd rfl h
  | cons y r => unfold fmtL; rw [List.map_cons, Lib.join_cons]; simp [two]
theorem fmtL_len : ∀ (l : List (Fin 9)), (fmtL l).length ≤ 3 * l.length
  | [] => by simp [fmtL_nil]
  | y :: r => by
    unfold fmtL
    rw [List.map_cons, Lib.join_cons, List.length_append]
    have : ∀ q : List (Fin 9), (Lib.joinTail [44] (q.map two)).length = 3 * q.length := by
      intro q
      induction q with
      | nil => rfl
      | cons z t ih => simp [Lib.joinTail, two] at ih ⊢; omega
    rw [this]
    simp [two]; omega

theorem text_step (o : List UInt8) (x : Fin 9) : (⟨o.toArray⟩ : ByteArray) ++ ⟨#[44]⟩ ++ strOfNums [48 + ((x.val : Int) / 3)] ++ strOfNums [48 + ((x.val : Int) % 3)] = ⟨(o ++ 44 :: two x).toArray⟩ := by
  rw [ByteArray.append_assoc, two_eq]
  apply ByteArray.ext
  simp [ByteArray.data_append]
theorem text_first (x : Fin 9) : (⟨#[]⟩ : ByteArray) ++ strOfNums [48 + ((x.val : Int) / 3)] ++ strOfNums [48 + ((x.val : Int) % 3)] = ⟨(two x).toArray⟩ := by
  rw [ByteArray.append_assoc, two_eq]
  apply ByteArray.ext
  simp [ByteArray.data_append]

/-- The text of a set, the empty text for a number that is none. -/
def setL (s : Int) : List UInt8 := if isSet s = true then (if upTo s 9 = [] then [45] else fmtL (upTo s 9)) else []

set_option maxHeartbeats 2000000 in
theorem fs26yes (s : Int) (w : World) (hs : isSet s = true) :
    Calls Try.prog 26 #[.int .i64 s] w fun e w' => e = .returned (.string ⟨(setL s).toArray⟩) ∧ Below w.heap.size w w' := by
  have HS := Lib.hid hs
  clear hs
  go_enter Try.func26, Try.ntmps26
  go_wp2_with (go_at_call 25; refine (sv25 _ _).mono ?_; have hq := HS.out; rintro e w' ⟨rfl, rfl⟩)
  go_loopw [3, 8] (fun o i wr => ∃ k : Nat, k ≤ 9 ∧ i = .int .i64 k ∧ o = .string ⟨(fmtL (upTo s k)).toArray⟩ ∧ Below w.heap.size w wr) (fun _ i _ => 9 - (intOf i).toNat)
  case atStart => exact ⟨0, by omega, rfl, rfl, Below.refl _ _⟩
  case round =>
    obtain ⟨k, hk, rfl, rfl, hB⟩ := hrel
    by_cases hlt : k < 9
    · have k8 : k ≤ 8 := by omega
      have hl := upTo_len s k
      have z1 : (strOfNums [48 + (k : Int) / 3]).size = 1 := strOfNums_size _
      have z2 : (strOfNums [48 + (k : Int) % 3]).size = 1 := strOfNums_size _
      cases hh : hasB s k with
      | false =>
        have hu := Lib.hid (upTo_miss s hh)
        go_wp2_with (go_at_call 42; refine (has42 s k _ k8).mono ?_; rintro e w' ⟨rfl, rfl⟩)
        go_roundw
        case rel => exact ⟨k + 1, by omega, by go_num, by rw [hu.out], hB⟩
        case measure => simp [intOf]; omega
      | true =>
        by_cases hnil : upTo s k = []
        · have hu := Lib.hid (upTo_hit s hlt hh)
          have hn := Lib.hid hnil
          rw [hnil, fmtL_nil]
          clear hnil
          go_wp2_with (first | (go_at_call 42; refine (has42 s k _ k8).mono ?_; rintro e w' ⟨rfl, rfl⟩) | (go_at_call 43; refine (dec43 _ _ (by omega) (by omega)).mono ?_; rintro e w' ⟨rfl, hb⟩; replace hB := hB.trans (hb.mono hB.size); clear hb))
          go_roundw
          case rel => exact ⟨k + 1, by omega, by go_num, by rw [hu.out, hn.out, List.nil_append, fmtL_one]; exact congrArg Value.string (text_first ⟨k, hlt⟩), hB⟩
          case measure => simp [intOf]; omega
        · have hu := Lib.hid ((congrArg fmtL (upTo_hit s hlt hh)).trans (fmtL_snoc hnil ⟨k, hlt⟩))
          have hn := Lib.hid (fmtL_ne hnil)
          have hfl := Lib.hid (fmtL_len (upTo s k))
          have hb1 : (fmtL (upTo s k)).length ≤ 27 := by have := hfl.out; omega
          obtain ⟨o, ho⟩ : ∃ o, o = fmtL (upTo s k) := ⟨_, rfl⟩
          rw [← ho] at hb1 ⊢
          have hn1 : (!o.isEmpty) = true := by rw [ho]; simpa using hn.out
          have hn2 : (o == []) = false := by rw [ho]; simpa using hn.out
          have hO := Lib.hid ho
          clear ho hnil
          go_wp2_with (first | (go_at_call 42; refine (has42 s k _ k8).mono ?_; rintro e w' ⟨rfl, rfl⟩) | (go_at_call 43; refine (dec43 _ _ (by omega) (by omega)).mono ?_; rintro e w' ⟨rfl, hb⟩; replace hB := hB.trans (hb.mono hB.size); clear hb))
          go_roundw
          case rel => exact ⟨k + 1, by omega, by go_num, by rw [hu.out, ← hO.out]; exact congrArg Value.string (text_step o ⟨k, hlt⟩), hB⟩
          case measure => simp [intOf]; omega
    · obtain rfl : k = 9 := by omega
      by_cases hnil : upTo s 9 = []
      · have hR := Lib.hid (show setL s = [45] by unfold setL; rw [if_pos hq, if_pos hnil])
        rw [hnil, fmtL_nil]
        clear hnil
        go_wp2
        go_ret
        exact ⟨by rw [hR.out]; rfl, hB⟩
      · have hR := Lib.hid (show setL s = fmtL (upTo s 9) by unfold setL; rw [if_pos hq, if_neg hnil])
        have hn := Lib.hid (fmtL_ne hnil)
        obtain ⟨o, ho⟩ : ∃ o, o = fmtL (upTo s 9) := ⟨_, rfl⟩
        rw [← ho]
        have hn1 : (!o.isEmpty) = true := by rw [ho]; simpa using hn.out
        have hn2 : (o == []) = false := by rw [ho]; simpa using hn.out
        have hO := Lib.hid ho
        clear ho hnil
        go_wp2
        go_ret
        exact ⟨by rw [hR.out, ← hO.out]; rfl, hB⟩
end Go.Proofs.Ytopibdhfkemnmaa
