/- Chapter 1, texts: the text of a set, in the program and in the model. -/
import Derived.Test.YtgdgbjnmibkmhaaGreatDoorCutS
import Derived.Test.YtgdgbjnmibkmhaaGreatDoorShelf
import Derived.Laws.BytesArg
import Derived.Lib.Join
namespace Go.Proofs.YtgdgbjnmibkmhaaGreatDoor
open Go.ChangeShapes Go.WideShapes Go.ChangeAt Go.RowKit Go.Shelf



set_option maxRecDepth 100000
/-- The two digits of a state. -/
def two (x : Fin 9) : List UInt8 := [UInt8.ofNat (48 + x.val / 3), UInt8.ofNat (48 + x.val % 3)]

theorem conv_two (X : World) (p q : Int) (g : Nat) (hg : g = X.heap.size) :
    (convert 115 9 (.slice (some ⟨g, 0, none⟩) 2 2)).run Tryz.prog (X.alloc (.cells #[.int .u8 p, .int .u8 q] 5)) = .ok (.string (strOfNums [p, q])) (X.alloc (.cells #[.int .u8 p, .int .u8 q] 5)) := by
  subst hg
  refine run_convert_bytes_arg _ 115 5 Tryz.underlying115 Tryz.underlying5 X.heap.size 0 2 2 [p, q] rfl (fun i hi => ?_) 9 Tryz.underlying9
  match i, hi with
  | 0, _ => simp
  | 1, _ => simp
theorem conv_oneT (X : World) (p : Int) (g : Nat) (hg : g = X.heap.size) :
    (convert 115 9 (.slice (some ⟨g, 0, none⟩) 1 1)).run Tryz.prog (X.alloc (.cells #[.int .u8 p] 5)) = .ok (.string (strOfNums [p])) (X.alloc (.cells #[.int .u8 p] 5)) := by
  subst hg
  refine run_convert_bytes_arg _ 115 5 Tryz.underlying115 Tryz.underlying5 X.heap.size 0 1 1 [p] rfl (fun i hi => ?_) 9 Tryz.underlying9
  match i, hi with
  | 0, _ => simp

set_option maxHeartbeats 1000000 in
theorem tx47 (w : World) (a b : Int) (a0 : 0 ≤ a) (a2 : a ≤ 2) (b0 : 0 ≤ b) (b2 : b ≤ 2) :
    Calls Tryz.prog 149 #[.agg #[.int .i64 a, .int .i64 b]] w fun e w' => e = .returned (.string (strOfNums [48 + a, 48 + b])) ∧ Below w.heap.size w w' := by
  have hk := conv_two (w.alloc (.cells #[.int .i64 a, .int .i64 b] 177)) (48 + a) (48 + b) (w.heap.size + 1) (by simp)
  go_enter Tryz.func149, Tryz.ntmps149
  go_wp2
  go_ret
  exact ⟨rfl, (((Below.refl _ _).alloc (Nat.le_refl _) _).alloc (by simp) _)⟩
set_option maxHeartbeats 1000000 in
theorem dec43 (w : World) (a : Int) (a0 : 0 ≤ a) (a9 : a ≤ 9) :
    Calls Tryz.prog 58 #[.int .i64 a] w fun e w' => e = .returned (.string (strOfNums [48 + a])) ∧ Below w.heap.size w w' := by
  go_enter Tryz.func58, Tryz.ntmps58
  go_wp2
  go_loopw [0, 3] (fun n s wr => n = .int .i64 a ∧ s = .string ⟨#[]⟩ ∧ wr = w) (fun _ _ _ => 0)
  case atStart => exact ⟨rfl, rfl, rfl⟩
  case round =>
    obtain ⟨rfl, rfl, rfl⟩ := hrel
    have hk := conv_oneT wr (48 + a) wr.heap.size rfl
    go_wp2
    go_ret
    exact ⟨rfl, (((Below.refl _ _).alloc (Nat.le_refl _) _))⟩

theorem two_eq (x : Fin 9) : strOfNums [48 + ((x.val : Int) / 3)] ++ strOfNums [48 + ((x.val : Int) % 3)] = ⟨(two x).toArray⟩ := by
  have : ∀ y : Fin 9, strOfNums [48 + ((y.val : Int) / 3)] ++ strOfNums [48 + ((y.val : Int) % 3)] = ⟨(two y).toArray⟩ := by decide +kernel
  exact this x
theorem two_eq' (x : Fin 9) : strOfNums [48 + ((x.val : Int) / 3), 48 + ((x.val : Int) % 3)] = ⟨(two x).toArray⟩ := by
  have : ∀ y : Fin 9, strOfNums [48 + ((y.val : Int) / 3), 48 + ((y.val : Int) % 3)] = ⟨(two y).toArray⟩ := by decide +kernel
  exact this x

/-- The text of a list of states: both digits of each, with commas between them. -/
def fmtL (l : List (Fin 9)) : List UInt8 := Lib.join (l.map two) [44]
theorem fmtL_nil : fmtL [] = [] := rfl
theorem fmtL_one (x : Fin 9) : fmtL [x] = two x := Lib.join_one _ _
theorem joinTail_append (sep : List UInt8) (r t : List (List UInt8)) : Lib.joinTail sep (r ++ t) = Lib.joinTail sep r ++ Lib.joinTail sep t := by simp [Lib.joinTail]
theorem fmtL_snoc {l : List (Fin 9)} (h : l ≠ []) (x : Fin 9) : fmtL (l ++ [x]) = fmtL l ++ 44 :: two x := by
  cases l with
  | nil => exact absurd rfl h
  | cons y r =>
    unfold fmtL
    rw [List.cons_append, List.map_cons, List.map_append, Lib.join_cons, joinTail_append, List.map_cons (l := r), Lib.join_cons]
    simp [Lib.joinTail]
theorem fmtL_ne {l : List (Fin 9)} (h : l ≠ []) : fmtL l ≠ [] := by
  cases l with
  | nil => exact absurd rfl h
  | cons y r => unfold fmtL; rw [List.map_cons, Lib.join_cons]; simp [two]
theorem fmtL_len : ∀ (l : List (Fin 9)), (fmtL l).length ≤ 3 * l.length
  | [] => by simp [fmtL_nil]
  | y :: r => by
    unfold fmtL
    rw [List.map_cons, Lib.join_cons, List.length_append]
    have : ∀ q : List (Fin 9), (Lib.joinTail [44] (q.map two)).length = 3 * q.length := by
      intro q
      induction q with
      | nil => rfl
      | cons z t ih => simp [Lib.joinTail, two] at ih ⊢; omega
    rw [this]
    simp [two]; omega

theorem text_step (o : List UInt8) (x : Fin 9) : (⟨o.toArray⟩ : ByteArray) ++ ⟨#[44]⟩ ++ strOfNums [48 + ((x.val : Int) / 3)] ++ strOfNums [48 + ((x.val : Int) % 3)] = ⟨(o ++ 44 :: two x).toArray⟩ := by
  rw [ByteArray.append_assoc, two_eq]
  apply ByteArray.ext
  simp [ByteArray.data_append]
theorem text_first (x : Fin 9) : (⟨#[]⟩ : ByteArray) ++ strOfNums [48 + ((x.val : Int) / 3)] ++ strOfNums [48 + ((x.val : Int) % 3)] = ⟨(two x).toArray⟩ := by
  rw [ByteArray.append_assoc, two_eq]
  apply ByteArray.ext
  simp [ByteArray.data_append]

/-- The text of a set, the empty text for a number that is none. -/
def setL (s : Int) : List UInt8 := if isSet s = true then (if upTo s 9 = [] then [45] else fmtL (upTo s 9)) else []

set_option maxHeartbeats 2000000 in
theorem fs26yes (s : Int) (w : World) (hs : isSet s = true) :
    Calls Tryz.prog 81 #[.int .i64 s] w fun e w' => e = .returned (.string ⟨(setL s).toArray⟩) ∧ Below w.heap.size w w' := by
  have HS := Lib.hid hs
  clear hs
  go_enter Tryz.func81, Tryz.ntmps81
  go_wp2_with (go_at_call 65; refine (sv25 _ _).mono ?_; have hq := HS.out; rintro e w' ⟨rfl, rfl⟩)
  go_loopw [3, 8] (fun o i wr => ∃ k : Nat, k ≤ 9 ∧ i = .int .i64 k ∧ o = .string ⟨(fmtL (upTo s k)).toArray⟩ ∧ Below w.heap.size w wr) (fun _ i _ => 9 - (intOf i).toNat)
  case atStart => exact ⟨0, by omega, rfl, rfl, Below.refl _ _⟩
  case round =>
    obtain ⟨k, hk, rfl, rfl, hB⟩ := hrel
    by_cases hlt : k < 9
    · have k8 : k ≤ 8 := by omega
      have hl := upTo_len s k
      have z1 : (strOfNums [48 + (k : Int) / 3]).size = 1 := strOfNums_size _
      have z2 : (strOfNums [48 + (k : Int) % 3]).size = 1 := strOfNums_size _
      cases hh : hasB s k with
      | false =>
        have hu := Lib.hid (upTo_miss s hh)
        go_wp2_with (go_at_call 114; refine (has42 s k _ k8).mono ?_; rintro e w' ⟨rfl, rfl⟩)
        go_roundw
        case rel => exact ⟨k + 1, by omega, by go_num, by rw [hu.out], hB⟩
        case measure => simp [intOf]; omega
      | true =>
        by_cases hnil : upTo s k = []
        · have hu := Lib.hid (upTo_hit s hlt hh)
          have hn := Lib.hid hnil
          rw [hnil, fmtL_nil]
          clear hnil
          go_wp2_with (first | (go_at_call 114; refine (has42 s k _ k8).mono ?_; rintro e w' ⟨rfl, rfl⟩) | (go_at_call 58; refine (dec43 _ _ (by omega) (by omega)).mono ?_; rintro e w' ⟨rfl, hb⟩; replace hB := hB.trans (hb.mono hB.size); clear hb))
          go_roundw
          case rel => exact ⟨k + 1, by omega, by go_num, by rw [hu.out, hn.out, List.nil_append, fmtL_one]; exact congrArg Value.string (text_first ⟨k, hlt⟩), hB⟩
          case measure => simp [intOf]; omega
        · have hu := Lib.hid ((congrArg fmtL (upTo_hit s hlt hh)).trans (fmtL_snoc hnil ⟨k, hlt⟩))
          have hn := Lib.hid (fmtL_ne hnil)
          have hfl := Lib.hid (fmtL_len (upTo s k))
          have hb1 : (fmtL (upTo s k)).length ≤ 27 := by have := hfl.out; omega
          obtain ⟨o, ho⟩ : ∃ o, o = fmtL (upTo s k) := ⟨_, rfl⟩
          rw [← ho] at hb1 ⊢
          have hn1 : (!o.isEmpty) = true := by rw [ho]; simpa using hn.out
          have hn2 : (o == []) = false := by rw [ho]; simpa using hn.out
          have hO := Lib.hid ho
          clear ho hnil
          go_wp2_with (first | (go_at_call 114; refine (has42 s k _ k8).mono ?_; rintro e w' ⟨rfl, rfl⟩) | (go_at_call 58; refine (dec43 _ _ (by omega) (by omega)).mono ?_; rintro e w' ⟨rfl, hb⟩; replace hB := hB.trans (hb.mono hB.size); clear hb))
          go_roundw
          case rel => exact ⟨k + 1, by omega, by go_num, by rw [hu.out, ← hO.out]; exact congrArg Value.string (text_step o ⟨k, hlt⟩), hB⟩
          case measure => simp [intOf]; omega
    · obtain rfl : k = 9 := by omega
      by_cases hnil : upTo s 9 = []
      · have hR := Lib.hid (show setL s = [45] by unfold setL; rw [if_pos hq, if_pos hnil])
        rw [hnil, fmtL_nil]
        clear hnil
        go_wp2
        go_ret
        exact ⟨by rw [hR.out]; rfl, hB⟩
      · have hR := Lib.hid (show setL s = fmtL (upTo s 9) by unfold setL; rw [if_pos hq, if_neg hnil])
        have hn := Lib.hid (fmtL_ne hnil)
        obtain ⟨o, ho⟩ : ∃ o, o = fmtL (upTo s 9) := ⟨_, rfl⟩
        rw [← ho]
        have hn1 : (!o.isEmpty) = true := by rw [ho]; simpa using hn.out
        have hn2 : (o == []) = false := by rw [ho]; simpa using hn.out
        have hO := Lib.hid ho
        clear ho hnil
        go_wp2
        go_ret
        exact ⟨by rw [hR.out, ← hO.out]; rfl, hB⟩


attribute [local go_sem] Oper.semAt_some

theorem empty_iff : ∀ n : Fin 512, (upTo (n.val : Int) 9).isEmpty = decide (n.val = 0) := by decide +kernel
theorem upTo_ne {s : Int} (hs : isSet s = true) (h0 : s ≠ 0) : upTo s 9 ≠ [] := by
  have h := of_decide_eq_true hs
  obtain ⟨n, rfl⟩ : ∃ n : Nat, s = (n : Int) := ⟨s.toNat, by omega⟩
  have := empty_iff ⟨n, by omega⟩
  intro e
  rw [e] at this
  have h1 : n = 0 := by simpa using this
  omega
theorem upTo_zero : upTo 0 9 = [] := by decide +kernel


def words (l : List (Fin 9)) : List Value := l.map fun x => .string ⟨(two x).toArray⟩
theorem words_snoc (l : List (Fin 9)) (x : Fin 9) : words (l ++ [x]) = words l ++ [.string ⟨(two x).toArray⟩] := by simp [words]

theorem boxedBelow {W W' : World} {B : Nat} {t : TypeId} {v : Value} (h : Boxed W B t v) {n : Nat} (hb : Below n W W') (hn : W.heap.size ≤ n) : Boxed W' B t v := (hb.block B (Nat.lt_of_lt_of_le h.lt hn)).trans h
theorem ownsBelow {W W' : World} {B e n : Nat} {v : Value} {k : Nat} {xs : List Value} (h : W.ownsRow B e n v k xs) (hb : Below W.heap.size W W') : W'.ownsRow B e n v k xs := by
  obtain ⟨h1, h2⟩ := h
  refine ⟨h1, ?_⟩
  rcases h2 with h2 | ⟨g, cap, cur, a, b, c, d⟩
  · exact .inl h2
  · exact .inr ⟨g, cap, cur, a, b, by rw [hb.block g (Array.getElem?_eq_some_iff.1 c).1]; exact c, d⟩

theorem keeps_of_below {W W' : World} (h : Below W.heap.size W W') : KeepsOthers W W' :=
  ⟨h.size, fun k _ hk _ => (h.block k (Array.getElem?_eq_some_iff.1 hk).1).trans hk⟩
theorem tx47f (w : World) (x : Fin 9) :
    Calls Tryz.prog 149 #[.agg #[.int .i64 ((x.val : Int) / 3), .int .i64 ((x.val : Int) % 3)]] w fun e w' => e = .returned (.string ⟨(two x).toArray⟩) ∧ Below w.heap.size w w' := by
  have := x.2
  rw [← two_eq' x]
  exact tx47 w _ _ (by omega) (by omega) (by omega) (by omega)

/-- An append that the walk leaves standing till its run is known. -/
def heldAppend (ats : Array TypeId) (ty : TypeId) (args : Array Value) : Sem Value := Builtin.append_ ats ty args
theorem builtin_held (ats : Array TypeId) (ty : TypeId) (cs : Array Bool) (args : Array Value) : builtin .append ats ty cs args = (do pure (.value (← heldAppend ats ty args))) := rfl

/-- All that the walk wants of the append, and all that is kept. -/
theorem app_step {w W w2 : World} {s : Int} {x : Fin 9} {pre : List (Fin 9)} {v : Value} {i0 : TypeInfo} (hi : Tryz.prog.info? 9 = some i0) (hz0 : i0.zero = some (.string ⟨#[]⟩)) (hz1 : i0.size = 1) (hz2 : i0.bytes = 16)
    (hv : Boxed W w.heap.size 74 v) (hrow : W.ownsRow w.heap.size 9 1 v pre.length (words pre)) (hS : Boxed W (w.heap.size + 1) 168 (.int .i64 s)) (hB : Below w.heap.size w W) (hlt : pre.length < 9) (hb : Below W.heap.size W w2) :
    ∃ g cap w3, (heldAppend #[74, 74] 74 #[v, .slice (some ⟨w2.heap.size, 0, none⟩) 1 1]).run Tryz.prog (w2.alloc (.cells #[.string ⟨(two x).toArray⟩] 9)) = .ok (.slice (some ⟨g, 0, none⟩) (pre.length + 1) cap) w3 ∧
      w3.cell? ⟨w.heap.size, 0, none⟩ = some v ∧ w3.frozen? ⟨w.heap.size, 0, none⟩ = false ∧
      (KeepsOthers W (w3.setCell ⟨w.heap.size, 0, none⟩ (.slice (some ⟨g, 0, none⟩) (pre.length + 1) cap)) ∧ KpB (w.heap.size + 1) W (w3.setCell ⟨w.heap.size, 0, none⟩ (.slice (some ⟨g, 0, none⟩) (pre.length + 1) cap)) ∧
        (∃ u, Boxed (w3.setCell ⟨w.heap.size, 0, none⟩ (.slice (some ⟨g, 0, none⟩) (pre.length + 1) cap)) w.heap.size 74 u ∧ (w3.setCell ⟨w.heap.size, 0, none⟩ (.slice (some ⟨g, 0, none⟩) (pre.length + 1) cap)).ownsRow w.heap.size 9 1 u (pre ++ [x]).length (words (pre ++ [x])) ∧ True) ∧
        Boxed (w3.setCell ⟨w.heap.size, 0, none⟩ (.slice (some ⟨g, 0, none⟩) (pre.length + 1) cap)) (w.heap.size + 1) 168 (.int .i64 s) ∧ Below w.heap.size w (w3.setCell ⟨w.heap.size, 0, none⟩ (.slice (some ⟨g, 0, none⟩) (pre.length + 1) cap))) := by
  have hB2 : Below w.heap.size w w2 := hB.trans (hb.mono hB.size)
  have hrow2 := ownsBelow hrow hb
  have hv2' := boxedBelow hv hb (Nat.le_refl _)
  have hS2' := boxedBelow hS hb (Nat.le_refl _)
  obtain ⟨v', w3, hr, hown', hgrow, _⟩ := run_append_own (P := Tryz.prog) (w2.alloc (.cells #[.string ⟨(two x).toArray⟩] 9)) w.heap.size 74 74 9 i0 (.string ⟨#[]⟩) 1 16 Tryz.underlying74 hi hz0 hz1 hz2 rfl (by decide) v pre.length (words pre) (hrow2.alloc _) ⟨w2.heap.size, 0, none⟩ 1 1 [.string ⟨(two x).toArray⟩] rfl (cell_one_new _ _ _) (by simp [Value.oneCell']) (by unfold maxLen; omega) (by omega) (by have := hB2.size; simp; omega)
  obtain ⟨g', cap', rfl⟩ := ownsRow_succ hown'
  obtain ⟨hv1, hv2, hr2, hk2, hb2⟩ := hv2'.appended (by decide) hrow2 hB2.size (Nat.le_refl _) hown' hgrow
  have hS1 := (hS2'.alloc (.cells #[.string ⟨(two x).toArray⟩] 9)).kept hgrow (hS2'.not_row (by decide) hrow2)
  have hS2 := hS1.other (B' := w.heap.size) (by omega) (.slice (some ⟨g', 0, none⟩) (pre.length + 1) cap')
  exact ⟨g', cap', w3, hr, hv1.cell, hv1.frozen, (keeps_of_below hb).trans hk2, Eq.trans (show _ = _ from hS2) (Eq.symm (show _ = _ from hS)), ⟨_, hv2, by rw [words_snoc, List.length_append]; exact hr2, trivial⟩, hS2, hB2.trans hb2⟩

def wordsB (l : List (Fin 9)) : List ByteArray := l.map fun x => ⟨(two x).toArray⟩
theorem wordsB_join (l : List (Fin 9)) : Lib.join ((wordsB l).map (·.data.toList)) (⟨#[44]⟩ : ByteArray).data.toList = fmtL l := by
  unfold fmtL wordsB
  rw [List.map_map]
  congr 1
theorem words_at {W : World} {B : Nat} {v : Value} {l : List (Fin 9)} (h : W.ownsRow B 9 1 v l.length (words l)) (hne : l ≠ []) :
    ∃ g cap, v = .slice (some ⟨g, 0, none⟩) l.length cap ∧ g < W.heap.size ∧ (∀ (j : Nat) x, (wordsB l)[j]? = some x → W.cell? ⟨g, 0 + j, none⟩ = some (.string x)) ∧ l.length ≤ cap := by
  have h' := h
  rcases h.2 with ⟨_, h0⟩ | ⟨g, cap, cur, rfl, hb, hg, hn, hm, _⟩
  · exact absurd (List.length_eq_zero_iff.1 h0) hne
  · refine ⟨g, cap, rfl, (Array.getElem?_eq_some_iff.1 hg).1, fun j x hx => ?_, hn⟩
    have hj : j < l.length := by
      have := (List.getElem?_eq_some_iff.1 hx).1
      simpa [wordsB] using this
    rw [Nat.zero_add, World.ownsRow.cellAt h' j (by omega)]
    simp only [wordsB, List.getElem?_map, Option.map_eq_some_iff] at hx
    obtain ⟨y, hy, rfl⟩ := hx
    simp [words, hy]

attribute [local go_sem ↓ 10000] builtin_held

set_option maxRecDepth 100000 in
set_option maxHeartbeats 4000000 in
theorem tx44_in (n : Nat) (hn : 3 ≤ n) (s : Int) (w : World) (hs : isSet s = true) (h0 : s ≠ 0) :
    CallsIn Fence.wide n Tryz.prog 138 #[.int .i64 s] w fun e W' => e = .returned (.string ⟨(fmtL (upTo s 9)).toArray⟩) ∧ Below w.heap.size w W' := by
  have h1 : 1 ≤ n := by omega
  have hz : (s == 0) = false := by simpa using h0
  have hmx : Tryz.prog.follows .mixedOrders = true := by kernel_rfl
  obtain ⟨i0, hi, hz0, hz1, hz2⟩ := info_parts Tryz.info9
  refine callsIn_of_wp_marks Tryz.func138 rfl trivial ?_ rfl
  simp only [Tryz.ntmps138, List.size_toArray, List.length_cons, List.length_nil, Nat.reduceAdd, Nat.reduceSub, Array.replicate_succ, Array.replicate_zero, List.push_toArray, List.append_toArray, List.nil_append, List.cons_append]
  gi_wp2_with (refine ⟨trivial, ?_⟩; gi_at_call 147; refine (maker_in (n - 1) s _).mono ?_; rintro e w' ⟨rfl, rfl⟩)
  have bO := Boxed.new w 74 (.slice none 0 0)
  have bN := Boxed.new (w.alloc (.cells #[.slice none 0 0] 74)) 168 (.int .i64 s)
  rw [World.size_alloc] at bN
  have hB0 : Below w.heap.size w ((w.alloc (.cells #[.slice none 0 0] 74)).alloc (.cells #[.int .i64 s] 168)) := ((Below.refl _ w).alloc (Nat.le_refl _) _).alloc (by simp) _
  refine wpIn_rangeFunc_ownF rfl h1 (gf := 163) (lb := #[.pointer (some ⟨w.heap.size + 1, 0, none⟩)]) rfl trivial (enters_of Tryz.func163 (by kernel_rfl) rfl)
    (states_stops (n - 1) (by omega) (w.heap.size + 1) s _ (by simp) bN.cell) kpB_t (kpB_b (by simp)) (Below.refl _ _) (fun _ => rfl)
    (fun pre W => (∃ v, Boxed W w.heap.size 74 v ∧ W.ownsRow w.heap.size 9 1 v pre.length (words pre) ∧ True) ∧ Boxed W (w.heap.size + 1) 168 (.int .i64 s) ∧ Below w.heap.size w W)
    (fun _ _ _ => False)
    (OwnFrom.and (Own.from (holdsRow_own w.heap.size w.heap.size 74 9 1 (fun pre => pre.length) (fun pre => words pre) (fun pre v => True)) _) (OwnFrom.and (Own.from (boxed_own (w.heap.size + 1) 168 (fun _ => .int .i64 s)) _) (ownFrom_below (Nat.le_refl _) (by simp; omega))))
    (fun _ _ _ _ _ hs _ _ => hs)
    ⟨⟨_, bO.alloc _, World.ownsRow_nil _ _ _ _, trivial⟩, bN, hB0⟩
    (fun x => { tmps := #[.int .i64 s, undef, .string ⟨#[]⟩, .pointer (some ⟨w.heap.size, 0, none⟩), .int .i64 (x.val : Int), .int .i64 s, .bool false, .int .i64 s, .func (.func 163) #[] #[.pointer (some ⟨w.heap.size + 1, 0, none⟩)], .int .i64 (x.val : Int), undef, undef, undef, undef, undef, undef, undef, undef], defers := [] }) ?assign ?body ?done ?stop
  case assign =>
    intro l x W K hK
    simp only [encs]
    gi_wp2
    exact hK
  case body =>
    rintro l pre x W ⟨⟨v, hv, hrow, _⟩, hS, hB⟩ hlt
    have hc := hv.cell
    have x0 : (0 : Int) ≤ (x.val : Int) := by omega
    have x8 : (x.val : Int) ≤ 8 := by have := x.2; omega
    have hd : 1 ≤ n - 1 - 1 := by omega
    gi_wp2_with fail
    gi_region_with_o (refine ⟨trivial, ?_⟩; first | (gi_at_call 148; refine (CallsIn.inRound l (callsIn_wide.2 (vi41 _ _ x0 x8))).mono ?_; rintro e w1 ⟨rfl, hb1⟩; have hc1 : w1.cell? ⟨w.heap.size, 0, none⟩ = some v := (Below.cell hb1 (p := ⟨w.heap.size, 0, none⟩) hv.lt).trans hc) | (gi_at_call 149; refine (CallsIn.inRound l (callsIn_wide.2 (tx47f _ x))).mono ?_; rintro e w2 ⟨rfl, hb2⟩; have hb : Below W.heap.size W w2 := ((Below.refl W.heap.size W).drew.trans hb1).trans (hb2.mono hb1.size); have hc2 := (hb.cell (p := ⟨w.heap.size, 0, none⟩) hv.lt).trans hc; have hc2' := cellAlloc (.cells #[.string ⟨(two x).toArray⟩] 9) hc2; obtain ⟨g, cap, w3, hr, hc3, hf3, hall⟩ := app_step (x := x) hi hz0 hz1 hz2 hv hrow hS hB hlt hb; have HA := Lib.hid hall; clear hall))
    all_goals gi_wp2
    all_goals exact HA.out
  case done =>
    rintro D ys W hD rfl ⟨⟨v, hv, hrow, _⟩, hS, hB⟩ hK
    have hc := hv.cell
    have hne := upTo_ne hs h0
    obtain ⟨g, cap, rfl, hg, hcells, hcap⟩ := words_at hrow hne
    have hjoin : Lib.join ((wordsB (upTo s 9)).map (·.data.toList)) (⟨#[44]⟩ : ByteArray).data.toList = fmtL (upTo s 9) := wordsB_join _
    have hl := upTo_len s 9
    have hfl := fmtL_len (upTo s 9)
    have hwl : (wordsB (upTo s 9)).length = (upTo s 9).length := by simp [wordsB]
    have C := Tryz.strings_Join g 0 cap (wordsB (upTo s 9)) ⟨#[44]⟩ W hcells hg (by omega) (by omega) (by rw [hjoin]; omega)
    rw [hwl, hjoin] at C
    have HC := Lib.hid C
    have HJ := Lib.hid hjoin
    have HL := Lib.hid hwl
    clear C hjoin hwl hcells
    gi_wp2_with (refine ⟨trivial, ?_⟩; gi_at_call 60; refine (callsIn_wide.2 HC.out).mono ?_; rintro e W2 ⟨rfl, hb2⟩)
    have hK2 : W2.heap[D]? = some (.deferred (some [])) := (hb2.block D (Array.getElem?_eq_some_iff.1 hK).1).trans hK
    refine ⟨by simp, .inl ⟨_, _, rfl, run_takeDeferred hK2, ?_⟩⟩
    have hB2 : Below w.heap.size w W2 := hB.trans (hb2.mono hB.size)
    exact ⟨_, results_tmp rfl _ _ _, rfl, hB2.trans (belowK_b (w := w) (Nat.le_refl _) W2 D _ _ (by simp at hD; omega) hK2 rfl rfl)⟩
  case stop =>
    rintro D c pre W _ _ h _
    exact h.elim
theorem setL_none {s : Int} (hs : isSet s = false) : setL s = [] := by unfold setL; rw [if_neg (by simp [hs])]
theorem setL_zero : setL 0 = [45] := by unfold setL; rw [if_pos (by decide), if_pos upTo_zero]
theorem setL_some {s : Int} (hs : isSet s = true) (h0 : s ≠ 0) : setL s = fmtL (upTo s 9) := by unfold setL; rw [if_pos hs, if_neg (upTo_ne hs h0)]
theorem setL_len (s : Int) : (setL s).length ≤ 27 := by
  unfold setL
  split
  · split
    · simp
    · have := fmtL_len (upTo s 9); have := upTo_len s 9; omega
  · simp

theorem tx44 (s : Int) (w : World) (hs : isSet s = true) :
    Calls Tryz.prog 138 #[.int .i64 s] w fun e w' => e = .returned (.string ⟨(setL s).toArray⟩) ∧ Below w.heap.size w w' := by
  by_cases h0 : s = 0
  · subst h0
    rw [setL_zero]
    clear hs
    go_enter Tryz.func138, Tryz.ntmps138
    go_wp2
    go_ret
    exact ⟨rfl, Below.refl _ _⟩
  · rw [setL_some hs h0]
    exact callsIn_wide.1 (tx44_in 3 (Nat.le_refl _) s w hs h0)

theorem fs27 (s : Int) (w : World) :
    Calls Tryz.prog 118 #[.int .i64 s] w fun e w' => e = .returned (.string ⟨(setL s).toArray⟩) ∧ Below w.heap.size w w' := by
  cases hs : isSet s with
  | false =>
    rw [setL_none hs]
    go_enter Tryz.func118, Tryz.ntmps118
    go_wp2_with (go_at_call 107; refine (sv24 _ _).mono ?_; rintro e w' ⟨rfl, rfl⟩)
    go_ret
    exact ⟨rfl, Below.refl _ _⟩
  | true =>
    go_enter Tryz.func118, Tryz.ntmps118
    go_wp2_with (first | (go_at_call 107; refine (sv24 _ _).mono ?_; rintro e w' ⟨rfl, rfl⟩) | (go_at_call 138; refine (tx44 _ _ hs).mono ?_; rintro e w' ⟨rfl, hb⟩))
    go_ret
    exact ⟨rfl, hb⟩
theorem fs26 (s : Int) (w : World) :
    Calls Tryz.prog 81 #[.int .i64 s] w fun e w' => e = .returned (.string ⟨(setL s).toArray⟩) ∧ Below w.heap.size w w' := by
  cases hs : isSet s with
  | false =>
    rw [setL_none hs]
    go_enter Tryz.func81, Tryz.ntmps81
    go_wp2_with (go_at_call 65; refine (sv25 _ _).mono ?_; rintro e w' ⟨rfl, rfl⟩)
    go_ret
    exact ⟨rfl, Below.refl _ _⟩
  | true => exact fs26yes s w hs


end Go.Proofs.YtgdgbjnmibkmhaaGreatDoor

