/- Contracts of the small functions of chapter 1 and of their models: what each answers at every number. -/
import Derived.Test.YtkffgojnicjkmaaRows
import Derived.WalkKit
import Derived.ProofKit
import Derived.OpenShut
import Derived.IntWalk
import Derived.Deep.QuietTactic
import Derived.BigQuiet
import Derived.Lib.Hide
import Derived.WalkSmall
import Derived.Deep.RegionWith
import Derived.Deep.RegionHeld3
import Derived.LoopTactic
namespace Go.Proofs.Ytkffgojnicjkmaa
open Go.ChangeShapes Go.WideShapes Go.ChangeAt Go.RowKit

theorem in40 (n lo hi : Int) (b : Bool) (h : b = decide (lo ≤ n ∧ n ≤ hi)) (w : World) :
    Calls Try.prog 29 #[.int .i64 n, .int .i64 lo, .int .i64 hi] w fun e w' => e = .returned (.bool b) ∧ w = w' := by
  by_cases h1 : lo ≤ n
  · by_cases h2 : n ≤ hi
    · obtain rfl : b = true := by rw [h]; exact decide_eq_true ⟨h1, h2⟩
      clear h
      go_enter Try.func29, Try.ntmps29
      go_wp2
      go_ret
      exact ⟨rfl, rfl⟩
    · obtain rfl : b = false := by rw [h]; exact decide_eq_false (fun h => h2 h.2)
      clear h
      go_enter Try.func29, Try.ntmps29
      go_wp2
      go_ret
      exact ⟨rfl, rfl⟩
  · obtain rfl : b = false := by rw [h]; exact decide_eq_false (fun h => h1 h.1)
    clear h
    go_enter Try.func29, Try.ntmps29
    go_wp2
    go_ret
    exact ⟨rfl, rfl⟩

/-- A number lies between two others. -/
def inB (n lo hi : Int) : Bool := decide (lo ≤ n ∧ n ≤ hi)
theorem inB_yes {n lo hi : Int} (h : lo ≤ n ∧ n ≤ hi) : inB n lo hi = true := decide_eq_true h
theorem inB_no {n lo hi : Int} (h : ¬ (lo ≤ n ∧ n ≤ hi)) : inB n lo hi = false := decide_eq_false h
theorem inB40 (n lo hi : Int) (w : World) :
    Calls Try.prog 29 #[.int .i64 n, .int .i64 lo, .int .i64 hi] w fun e w' => e = .returned (.bool (inB n lo hi)) ∧ w = w' := in40 n lo hi _ rfl w

def isSet (n : Int) : Bool := decide (0 ≤ n ∧ n ≤ 511)

theorem sv25 (n : Int) (w : World) :
    Calls Try.prog 23 #[.int .i64 n] w fun e w' => e = .returned (.bool (isSet n)) ∧ w = w' := by
  go_enter Try.func23, Try.ntmps23
  go_wp2_with (go_at_call 29; refine (in40 _ _ _ (isSet n) rfl _).mono ?_; rintro e w' ⟨rfl, rfl⟩)
  go_ret
  exact ⟨rfl, rfl⟩

theorem sv24 (n : Int) (w : World) :
    Calls Try.prog 18 #[.int .i64 n] w fun e w' => e = .returned (.bool (isSet n)) ∧ w = w' := by
  by_cases h1 : 0 ≤ n
  · by_cases h2 : n < 512
    · have h : isSet n = true := decide_eq_true ⟨h1, by omega⟩
      rw [h]
      clear h
      go_enter Try.func18, Try.ntmps18
      go_wp2
      go_ret
      exact ⟨rfl, rfl⟩
    · have h : isSet n = false := decide_eq_false (fun h => h2 (by omega))
      rw [h]
      clear h
      go_enter Try.func18, Try.ntmps18
      go_wp2
      go_ret
      exact ⟨rfl, rfl⟩
  · have h : isSet n = false := decide_eq_false (fun h => h1 h.1)
    rw [h]
    clear h
    go_enter Try.func18, Try.ntmps18
    go_wp2
    go_ret
    exact ⟨rfl, rfl⟩



/-- Both are sets, and the first has no states but those of the second: the answer of both IsWithin. -/
def within (a b : Int) : Bool := isSet a && isSet b && (bits .andNot .i64 a b == 0)

theorem wi22 (a b : Int) (w : World) :
    Calls Try.prog 16 #[.int .i64 a, .int .i64 b] w fun e w' => e = .returned (.bool (within a b)) ∧ w = w' := by
  by_cases h1 : isSet a = true
  · by_cases h2 : isSet b = true
    · by_cases h3 : (bits .andNot .i64 a b == 0) = true
      · have h : within a b = true := by simp [within, h1, h2, h3]
        rw [h]; clear h
        go_enter Try.func16, Try.ntmps16
        go_wp2_with (go_at_call 23; refine (sv25 _ _).mono ?_; rintro e w' ⟨rfl, rfl⟩)
        go_ret
        exact ⟨rfl, rfl⟩
      · have h : within a b = false := by simp [within, h1, h2, h3]
        rw [h]; clear h
        go_enter Try.func16, Try.ntmps16
        go_wp2_with (go_at_call 23; refine (sv25 _ _).mono ?_; rintro e w' ⟨rfl, rfl⟩)
        go_ret
        exact ⟨rfl, rfl⟩
    · have h : within a b = false := by simp [within, h2]
      rw [h]; clear h
      go_enter Try.func16, Try.ntmps16
      go_wp2_with (go_at_call 23; refine (sv25 _ _).mono ?_; rintro e w' ⟨rfl, rfl⟩)
      go_ret
      exact ⟨rfl, rfl⟩
  · have h : within a b = false := by simp [within, h1]
    rw [h]; clear h
    go_enter Try.func16, Try.ntmps16
    go_wp2_with (go_at_call 23; refine (sv25 _ _).mono ?_; rintro e w' ⟨rfl, rfl⟩)
    go_ret
    exact ⟨rfl, rfl⟩

theorem wi21 (a b : Int) (w : World) :
    Calls Try.prog 15 #[.int .i64 a, .int .i64 b] w fun e w' => e = .returned (.bool (within a b)) ∧ w = w' := by
  by_cases h1 : isSet a = true
  · by_cases h2 : isSet b = true
    · by_cases h3 : (bits .andNot .i64 a b == 0) = true
      · have h : within a b = true := by simp [within, h1, h2, h3]
        rw [h]; clear h
        go_enter Try.func15, Try.ntmps15
        go_wp2_with (go_at_call 18; refine (sv24 _ _).mono ?_; rintro e w' ⟨rfl, rfl⟩)
        go_ret
        exact ⟨rfl, rfl⟩
      · have h : within a b = false := by simp [within, h1, h2, h3]
        rw [h]; clear h
        go_enter Try.func15, Try.ntmps15
        go_wp2_with (go_at_call 18; refine (sv24 _ _).mono ?_; rintro e w' ⟨rfl, rfl⟩)
        go_ret
        exact ⟨rfl, rfl⟩
    · have h : within a b = false := by simp [within, h2]
      rw [h]; clear h
      go_enter Try.func15, Try.ntmps15
      go_wp2_with (go_at_call 18; refine (sv24 _ _).mono ?_; rintro e w' ⟨rfl, rfl⟩)
      go_ret
      exact ⟨rfl, rfl⟩
  · have h : within a b = false := by simp [within, h1]
    rw [h]; clear h
    go_enter Try.func15, Try.ntmps15
    go_wp2_with (go_at_call 18; refine (sv24 _ _).mono ?_; rintro e w' ⟨rfl, rfl⟩)
    go_ret
    exact ⟨rfl, rfl⟩


/-! ### ValuesOf -/
theorem vo28no (n : Int) (w : World) (h : inB n 0 8 = false) :
    Calls Try.prog 19 #[.int .i64 n] w fun e w' => e = .returned (.tuple #[.int .i64 0, .int .i64 0, .bool false]) ∧ w = w' := by
  go_enter Try.func19, Try.ntmps19
  go_wp2_with (go_at_call 29; refine (inB40 _ _ _ _).mono ?_; rintro e w' ⟨rfl, rfl⟩)
  go_ret3
  exact ⟨rfl, rfl⟩

theorem vo28yes (n : Int) (w : World) (h : inB n 0 8 = true) (h0 : 0 ≤ n) (h8 : n ≤ 8) :
    Calls Try.prog 19 #[.int .i64 n] w fun e w' => e = .returned (.tuple #[.int .i64 (n / 3), .int .i64 (n % 3), .bool true]) ∧ w = w' := by
  go_enter Try.func19, Try.ntmps19
  go_wp2_with (go_at_call 29; refine (inB40 _ _ _ _).mono ?_; rintro e w' ⟨rfl, rfl⟩)
  go_ret3
  exact ⟨rfl, rfl⟩

/-- 'impl.valuesIn': the two values, in memory of its own. -/
theorem vi41 (n : Int) (w : World) (h0 : 0 ≤ n) (h8 : n ≤ 8) :
    Calls Try.prog 31 #[.int .i64 n] w fun e w' => e = .returned (.agg #[.int .i64 (n / 3), .int .i64 (n % 3)]) ∧ Below w.heap.size w w' := by
  go_enter Try.func31, Try.ntmps31
  go_wp2
  exact bodyPost_ret (v := .agg #[.int .i64 (n / 3), .int .i64 (n % 3)]) (by simp [results, Try.results31, go_sem]) rfl ⟨rfl, (Below.refl _ _).alloc (Nat.le_refl _) _⟩

/-- 'impl.isState'. -/
theorem isS30 (n : Int) (w : World) :
    Calls Try.prog 30 #[.int .i64 n] w fun e w' => e = .returned (.bool (inB n 0 8)) ∧ w = w' := by
  by_cases h1 : 0 ≤ n
  · by_cases h2 : n < 9
    · have h : inB n 0 8 = true := decide_eq_true ⟨h1, by omega⟩
      rw [h]
      clear h
      go_enter Try.func30, Try.ntmps30
      go_wp2
      go_ret
      exact ⟨rfl, rfl⟩
    · have h : inB n 0 8 = false := decide_eq_false (fun h => h2 (by omega))
      rw [h]
      clear h
      go_enter Try.func30, Try.ntmps30
      go_wp2
      go_ret
      exact ⟨rfl, rfl⟩
  · have h : inB n 0 8 = false := decide_eq_false (fun h => h1 h.1)
    rw [h]
    clear h
    go_enter Try.func30, Try.ntmps30
    go_wp2
    go_ret
    exact ⟨rfl, rfl⟩

theorem vo23no (n : Int) (w : World) (h : ¬ (0 ≤ n ∧ n ≤ 8)) :
    Calls Try.prog 17 #[.int .i64 n] w fun e w' => e = .returned (.tuple #[.int .i64 0, .int .i64 0, .bool false]) ∧ Below w.heap.size w w' := by
  have hb : inB n 0 8 = false := inB_no h
  clear h
  go_enter Try.func17, Try.ntmps17
  go_wp2_with (go_at_call 30; refine (isS30 n _).mono ?_; rintro e w' ⟨rfl, rfl⟩)
  go_ret3
  exact ⟨rfl, Below.refl _ _⟩

theorem vo23yes (n : Int) (w : World) (h0 : 0 ≤ n) (h8 : n ≤ 8) :
    Calls Try.prog 17 #[.int .i64 n] w fun e w' => e = .returned (.tuple #[.int .i64 (n / 3), .int .i64 (n % 3), .bool true]) ∧ Below w.heap.size w w' := by
  have hi : inB n 0 8 = true := inB_yes ⟨h0, h8⟩
  go_enter Try.func17, Try.ntmps17
  go_wp2_with (first | (go_at_call 30; refine (isS30 n _).mono ?_; rintro e w' ⟨rfl, rfl⟩) | (go_at_call 31; refine (vi41 n _ h0 h8).mono ?_; rintro e w' ⟨rfl, hb⟩))
  go_quiet (fail)
  go_wp2
  go_ret3
  exact ⟨rfl, below_drewN (hb.alloc hb.size _) _⟩
end Go.Proofs.Ytkffgojnicjkmaa

