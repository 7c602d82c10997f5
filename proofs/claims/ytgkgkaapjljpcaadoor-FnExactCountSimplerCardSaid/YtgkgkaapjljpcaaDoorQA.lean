/- The model's reader of programs: taking bytes, the atoms of two bytes. The model's reader of programs: one program, by its first byte. The model's reader of programs: no byte left, another byte, an assignment. The model's reader of programs: a test. The model's reader of programs: a loop, by the contract of what is read within it. The model's reader of programs: a part, and two programs with a sign between them. -/
import Derived.Test.YtgkgkaapjljpcaaDoorTree
import Derived.Test.YtgkgkaapjljpcaaDoorA2
namespace Go.Proofs.YtgkgkaapjljpcaaDoor
open Go.ChangeShapes Go.WideShapes Go.ChangeAt Go.RowKit Go.Shelf
attribute [local go_sem] Oper.semAt_some
set_option maxRecDepth 100000

/-- Block rb is a reader of the text t, at byte i; b: something was wrong. -/
def Rdr (W : World) (rb : Nat) (t : ByteArray) (i : Nat) (b : Bool) : Prop := W.heap[rb]? = some (.cells #[.string t, .int .i64 (i : Int), .bool b] 93 (0, 0))
theorem Rdr.lt {W : World} {rb : Nat} {t : ByteArray} {i : Nat} {b : Bool} (h : Rdr W rb t i b) : rb < W.heap.size := (Array.getElem?_eq_some_iff.1 h).1
theorem Rdr.cells {W : World} {rb : Nat} {t : ByteArray} {i : Nat} {b : Bool} (h : Rdr W rb t i b) :
    W.cell? ⟨rb, 0, none⟩ = some (.string t) ∧ W.cell? ⟨rb, 1, none⟩ = some (.int .i64 (i : Int)) ∧ W.cell? ⟨rb, 2, none⟩ = some (.bool b) ∧ W.frozen? ⟨rb, 1, none⟩ = false ∧ W.frozen? ⟨rb, 2, none⟩ = false := by
  unfold Rdr at h
  exact ⟨by simp [World.cell?, h], by simp [World.cell?, h], by simp [World.cell?, h], by simp [World.frozen?, h], by simp [World.frozen?, h]⟩
theorem Rdr.at {W : World} {rb : Nat} {t : ByteArray} {i : Nat} {b : Bool} (h : Rdr W rb t i b) (j : Nat) :
    Rdr (W.setCell ⟨rb, 1, none⟩ (.int .i64 (j : Int))) rb t j b ∧ W.grownBy (W.setCell ⟨rb, 1, none⟩ (.int .i64 (j : Int))) (some rb) := by
  refine ⟨?_, ⟨rfl, rfl, rfl, by simp, fun k _ hk => heap_setCell_other W ⟨rb, 1, none⟩ k _ (fun e => hk (by simp [e]))⟩⟩
  unfold Rdr at *
  rw [heap_setCell_same W rb 1 _ 93 _ h]
  rfl
theorem Rdr.bad {W : World} {rb : Nat} {t : ByteArray} {i : Nat} {b : Bool} (h : Rdr W rb t i b) (c : Bool) :
    Rdr (W.setCell ⟨rb, 2, none⟩ (.bool c)) rb t i c ∧ W.grownBy (W.setCell ⟨rb, 2, none⟩ (.bool c)) (some rb) := by
  refine ⟨?_, ⟨rfl, rfl, rfl, by simp, fun k _ hk => heap_setCell_other W ⟨rb, 2, none⟩ k _ (fun e => hk (by simp [e]))⟩⟩
  unfold Rdr at *
  rw [heap_setCell_same W rb 2 _ 93 _ h]
  rfl
theorem Rdr.drew {W : World} {rb : Nat} {t : ByteArray} {i : Nat} {b : Bool} (h : Rdr W rb t i b) : Rdr W.drew rb t i b := h
theorem Rdr.step {W : World} {rb : Nat} {t : ByteArray} {i n : Nat} {b : Bool} (h : Rdr W rb t i b) :
    Rdr (W.setCell ⟨rb, 1, none⟩ (.int .i64 ((i : Int) + (n : Int)))) rb t (i + n) b ∧ W.grownBy (W.setCell ⟨rb, 1, none⟩ (.int .i64 ((i : Int) + (n : Int)))) (some rb) := by
  have := h.at (i + n)
  rw [Int.natCast_add] at this
  exact this
theorem drewN_grown (n : Nat) (W : World) (row : Option Nat) : W.grownBy (W.drewN n) row := ⟨rfl, rfl, rfl, Nat.le_refl _, fun _ _ _ => rfl⟩

set_option maxHeartbeats 1000000 in
theorem take_ok (t : ByteArray) (ht : t.size ≤ 9000000) (rb i n : Nat) (b : Bool) (hn : n ≤ 3) (hi : i + n ≤ t.size) (W : World) (h : Rdr W rb t i b) :
    Calls Tryd.prog 115 #[.pointer (some ⟨rb, 0, none⟩), .int .i64 (n : Int)] W fun e W' => e = .returned (.string (t.extract i (i + n))) ∧ Rdr W' rb t (i + n) b ∧ W.grownBy W' (some rb) := by
  obtain ⟨c0, c1, c2, f1, f2⟩ := h.cells
  have i1 : (i : Int) + (n : Int) ≤ (t.size : Int) := by omega
  have i2 : (t.size : Int) ≤ 9000000 := by omega
  have i0 : (0 : Int) ≤ (i : Int) := by omega
  have n0 : (0 : Int) ≤ (n : Int) := by omega
  have HR := Lib.hid h
  go_enter Tryd.func115, Tryd.ntmps115
  go_wp2_with fail
  go_quiet (fail)
  have HS := Lib.hid (Rdr.step (W := W.drewN nq) (n := n) (show Rdr (W.drewN nq) rb t i b from HR.out))
  go_wp2_with fail
  obtain ⟨U, hU⟩ : ∃ U, U = (W.drewN nq).setCell ⟨rb, 1, none⟩ (.int .i64 ((i : Int) + (n : Int))) := ⟨_, rfl⟩
  have HS1 := HS.out.1
  have HS2 := Lib.hid (grown_trans (drewN_grown nq W (some rb)) HS.out.2)
  rw [← hU] at HS1 HS2 ⊢
  clear HS hU c0 c1 c2 f1 f2
  obtain ⟨d0, d1, d2, g1, g2⟩ := HS1.cells
  rw [Int.natCast_add] at d1
  have i3 : (i : Int) ≤ (i : Int) + (n : Int) := by omega
  have i4 : (0 : Int) ≤ (i : Int) + (n : Int) := by omega
  have tn : ((i : Int) + (n : Int)).toNat = i + n := by omega
  have wi : IntKind.i64.wrap (i : Int) = (i : Int) := IntWalk.i64_in _ (by omega)
  have HS3 := Lib.hid HS1
  clear HS1
  go_quiet (fail)
  go_wp2
  go_ret
  exact ⟨rfl, HS3.out, grown_trans HS2.out (drewN_grown _ _ _)⟩

set_option maxHeartbeats 1000000 in
theorem take_bad (t : ByteArray) (ht : t.size ≤ 9000000) (rb i n : Nat) (b : Bool) (hn : n ≤ 3) (hle : i ≤ t.size) (hi : t.size < i + n) (W : World) (h : Rdr W rb t i b) :
    Calls Tryd.prog 115 #[.pointer (some ⟨rb, 0, none⟩), .int .i64 (n : Int)] W fun e W' => e = .returned (.string ⟨#[]⟩) ∧ Rdr W' rb t i true ∧ W.grownBy W' (some rb) := by
  obtain ⟨c0, c1, c2, f1, f2⟩ := h.cells
  have i1 : (t.size : Int) < (i : Int) + (n : Int) := by omega
  have i2 : (t.size : Int) ≤ 9000000 := by omega
  have i5 : (i : Int) ≤ (t.size : Int) := by omega
  have i0 : (0 : Int) ≤ (i : Int) := by omega
  have n0 : (0 : Int) ≤ (n : Int) := by omega
  have n3 : (n : Int) ≤ 3 := by omega
  have HR := Lib.hid h
  clear h
  go_enter Tryd.func115, Tryd.ntmps115
  go_wp2_with fail
  go_quiet (fail)
  have HS := Lib.hid (Rdr.bad (W := W.drewN nq) (show Rdr (W.drewN nq) rb t i b from HR.out) true)
  go_wp2
  go_ret
  exact ⟨rfl, HS.out.1, grown_trans (drewN_grown nq W (some rb)) HS.out.2⟩

def twosText : ByteArray := ⟨([120, 48, 32, 120, 49, 32, 120, 50, 32, 120, 121, 32, 120, 43, 32, 120, 63, 32, 121, 48, 32, 121, 49, 32, 121, 50, 32, 121, 120, 32, 121, 43, 32, 121, 63] : List UInt8).toArray⟩
theorem cut_twos : cutL twosText.data.toList = twos := by decide +kernel
theorem twos_len : twos.length = 12 := by decide
theorem twos_some (k : Nat) (hk : k < 12) : ∃ p, twos[k]? = some p := ⟨_, List.getElem?_eq_getElem (by rw [twos_len]; exact hk)⟩

set_option maxHeartbeats 1000000 in
theorem two79 (t : ByteArray) (w : World) :
    Calls Tryd.prog 116 #[.string t] w fun e w' => e = .returned (.bool (decide (t.toList ∈ twos))) ∧ Below w.heap.size w w' := by
  go_enter Tryd.func116, Tryd.ntmps116
  go_wp2_with (go_at_call 81; refine (cut23 twosText (by decide) _).mono ?_; rintro e W1 ⟨v, rfl, hown, hb⟩; rw [cut_twos] at hown; obtain ⟨g, cap, rfl, hgl, hcells⟩ := texts_at hown (by decide); have HC := Lib.hid hcells; clear hcells; rw [show twos.length = 12 from rfl])
  go_loopw [7] (fun i wr => ∃ k : Nat, k ≤ 12 ∧ i = .int .i64 k ∧ (∀ j p, j < k → twos[j]? = some p → p ≠ t.toList) ∧ wr = W1) (fun i _ => 12 - (intOf i).toNat)
  case atStart => exact ⟨0, by omega, rfl, fun j p hj => by omega, rfl⟩
  case round =>
    obtain ⟨k, hk, rfl, hno, rfl⟩ := hrel
    have HN := Lib.hid hno
    clear hno
    by_cases hlt : k < 12
    · obtain ⟨p, hp⟩ := twos_some k hlt
      have c1 := HC.out k p hp
      have HP := Lib.hid hp
      clear hp
      by_cases hq : p = t.toList
      · have he : (p == t.toList) = true := by simpa using hq
        have HQ := Lib.hid hq
        clear hq
        go_wp2
        go_ret
        exact ⟨by rw [show decide (t.toList ∈ twos) = true from decide_eq_true (by rw [← HQ.out]; exact List.mem_of_getElem? HP.out)]; rfl, hb⟩
      · have he : (p == t.toList) = false := by simpa using hq
        have HQ := Lib.hid hq
        clear hq
        go_wp2
        go_roundw
        case rel =>
          exact ⟨k + 1, by omega, by go_num, fun j q hj hjq => by
            by_cases e : j = k
            · subst e; rw [HP.out] at hjq; cases hjq; exact HQ.out
            · exact HN.out j q (by omega) hjq, trivial⟩
        case measure => simp [intOf]; omega
    · obtain rfl : k = 12 := by omega
      go_wp2
      go_ret
      exact ⟨by rw [show decide (t.toList ∈ twos) = false from decide_eq_false (fun hm => by
        obtain ⟨j, hj, e⟩ := List.getElem_of_mem hm
        exact HN.out j _ hj (by rw [List.getElem?_eq_getElem hj]) e)]; rfl, hb⟩
end Go.Proofs.YtgkgkaapjljpcaaDoor

namespace Go.Proofs.YtgkgkaapjljpcaaDoor
open Go.ChangeShapes Go.WideShapes Go.ChangeAt Go.RowKit Go.Shelf
attribute [local go_sem] Oper.semAt_some
set_option maxRecDepth 100000

theorem ext_cons {t : ByteArray} {i : Nat} {c : UInt8} {r : List UInt8} (h : t.toList.drop i = c :: r) : t.extract i (i + 1) = ⟨#[c]⟩ ∧ i + 1 ≤ t.size ∧ t.toList.drop (i + 1) = r := by
  have hl : t.toList.length = t.size := by rw [Lib.toList_data, Array.length_toList]; rfl
  have h1 : i < t.toList.length := by
    rcases Nat.lt_or_ge i t.toList.length with h1 | h1
    · exact h1
    · rw [List.drop_eq_nil_iff.2 h1] at h; cases h
  have h2 : (t.extract i (i + 1)).data.toList = [c] := by
    rw [Lib.extract_data, ← Lib.toList_data, h]; simp
  refine ⟨?_, by omega, by rw [← List.drop_drop, h]; rfl⟩
  generalize t.extract i (i + 1) = x at h2
  obtain ⟨⟨l⟩⟩ := x
  simp at h2
  subst h2
  rfl
theorem ext_nil {t : ByteArray} {i : Nat} (hi : i ≤ t.size) (h : t.toList.drop i = []) : t.size < i + 1 := by
  have hl : t.toList.length = t.size := by rw [Lib.toList_data, Array.length_toList]; rfl
  have := List.drop_eq_nil_iff.1 h
  omega

/-- The blocks from lo up to hi are the same in both worlds. -/
def Same (lo hi : Nat) (W W' : World) : Prop := ∀ i, lo ≤ i → i < hi → W'.heap[i]? = W.heap[i]?
/-- The fields of a value are those of a program, laid in blocks from lo up to hi. -/
def NodeIs (W : World) (lo hi : Nat) : Node → Int → ByteArray → Option Addr → Nat → Nat → Prop
  | .atom a, k, s, _, n, _ => k = 97 ∧ s = ⟨a.toArray⟩ ∧ n = 0
  | .loop p, k, s, ad, n, _ => k = 123 ∧ s = ⟨#[]⟩ ∧ n = 1 ∧ ∃ g, ad = some ⟨g, 0, none⟩ ∧ lo ≤ g ∧ g < hi ∧ ∃ k1 s1 ad1 n1 cap1,
      W.cell? ⟨g, 0, none⟩ = some (.int .u8 k1) ∧ W.cell? ⟨g, 1, none⟩ = some (.string s1) ∧ W.cell? ⟨g, 2, none⟩ = some (.slice ad1 n1 cap1) ∧ NodeIs W lo hi p k1 s1 ad1 n1 cap1
  | .pair k0 p q, k, s, ad, n, _ => k = (k0.toNat : Int) ∧ s = ⟨#[]⟩ ∧ n = 2 ∧ ∃ g, ad = some ⟨g, 0, none⟩ ∧ lo ≤ g ∧ g < hi ∧ ∃ k1 s1 ad1 n1 cap1 k2 s2 ad2 n2 cap2,
      (W.cell? ⟨g, 0, none⟩ = some (.int .u8 k1) ∧ W.cell? ⟨g, 1, none⟩ = some (.string s1) ∧ W.cell? ⟨g, 2, none⟩ = some (.slice ad1 n1 cap1)) ∧
      (W.cell? ⟨g, 3, none⟩ = some (.int .u8 k2) ∧ W.cell? ⟨g, 4, none⟩ = some (.string s2) ∧ W.cell? ⟨g, 5, none⟩ = some (.slice ad2 n2 cap2)) ∧
      NodeIs W lo hi p k1 s1 ad1 n1 cap1 ∧ NodeIs W lo hi q k2 s2 ad2 n2 cap2
theorem cell_same {W W' : World} {lo hi g : Nat} (h : Same lo hi W W') (h1 : lo ≤ g) (h2 : g < hi) (o : Nat) : W'.cell? ⟨g, o, none⟩ = W.cell? ⟨g, o, none⟩ :=
  World.cell?_of_block (w := W) (w' := W') (a := ⟨g, o, none⟩) (h g h1 h2)
theorem NodeIs.same {W W' : World} {lo hi : Nat} (hs : Same lo hi W W') : ∀ {nd : Node} {k : Int} {s : ByteArray} {ad : Option Addr} {n cap : Nat}, NodeIs W lo hi nd k s ad n cap → NodeIs W' lo hi nd k s ad n cap
  | .atom _, _, _, _, _, _, h => h
  | .loop p, _, _, _, _, _, h => by
    obtain ⟨h1, h2, h3, g, h4, h5, h6, k1, s1, ad1, n1, cap1, c0, c1, c2, hp⟩ := h
    exact ⟨h1, h2, h3, g, h4, h5, h6, k1, s1, ad1, n1, cap1, (cell_same hs h5 h6 0).trans c0, (cell_same hs h5 h6 1).trans c1, (cell_same hs h5 h6 2).trans c2, NodeIs.same hs hp⟩
  | .pair _ p q, _, _, _, _, _, h => by
    obtain ⟨h1, h2, h3, g, h4, h5, h6, k1, s1, ad1, n1, cap1, k2, s2, ad2, n2, cap2, ⟨c0, c1, c2⟩, ⟨c3, c4, c5⟩, hp, hq⟩ := h
    exact ⟨h1, h2, h3, g, h4, h5, h6, k1, s1, ad1, n1, cap1, k2, s2, ad2, n2, cap2, ⟨(cell_same hs h5 h6 0).trans c0, (cell_same hs h5 h6 1).trans c1, (cell_same hs h5 h6 2).trans c2⟩,
      ⟨(cell_same hs h5 h6 3).trans c3, (cell_same hs h5 h6 4).trans c4, (cell_same hs h5 h6 5).trans c5⟩, NodeIs.same hs hp, NodeIs.same hs hq⟩
theorem NodeIs.wide {W : World} {lo hi lo' hi' : Nat} (h1 : lo' ≤ lo) (h2 : hi ≤ hi') : ∀ {nd : Node} {k : Int} {s : ByteArray} {ad : Option Addr} {n cap : Nat}, NodeIs W lo hi nd k s ad n cap → NodeIs W lo' hi' nd k s ad n cap
  | .atom _, _, _, _, _, _, h => h
  | .loop p, _, _, _, _, _, h => by
    obtain ⟨a1, a2, a3, g, a4, a5, a6, k1, s1, ad1, n1, cap1, c0, c1, c2, hp⟩ := h
    exact ⟨a1, a2, a3, g, a4, Nat.le_trans h1 a5, Nat.lt_of_lt_of_le a6 h2, k1, s1, ad1, n1, cap1, c0, c1, c2, NodeIs.wide h1 h2 hp⟩
  | .pair _ p q, _, _, _, _, _, h => by
    obtain ⟨a1, a2, a3, g, a4, a5, a6, k1, s1, ad1, n1, cap1, k2, s2, ad2, n2, cap2, c, d, hp, hq⟩ := h
    exact ⟨a1, a2, a3, g, a4, Nat.le_trans h1 a5, Nat.lt_of_lt_of_le a6 h2, k1, s1, ad1, n1, cap1, k2, s2, ad2, n2, cap2, c, d, NodeIs.wide h1 h2 hp, NodeIs.wide h1 h2 hq⟩

/-- What reading one program leaves (n: a bound on what is left to be read). -/
def ReadTo (t : ByteArray) (rb n i : Nat) (W : World) (e : Ending) (W' : World) : Prop :=
  ∃ k s ad m cap, e = .returned (.agg #[.int .u8 k, .string s, .slice ad m cap]) ∧ W.grownBy W' (some rb) ∧
    (match rd n (t.toList.drop i) with
      | some (nd, r) => ∃ j, j ≤ t.size ∧ t.toList.drop j = r ∧ Rdr W' rb t j false ∧ NodeIs W' W.heap.size W'.heap.size nd k s ad m cap
      | none => ∃ j, j ≤ t.size ∧ Rdr W' rb t j true)

theorem Rdr.grown {W W' : World} {rb : Nat} {t : ByteArray} {i : Nat} {b : Bool} {row : Option Nat} (h : Rdr W rb t i b) (hg : W.grownBy W' row) (hne : some rb ≠ row) : Rdr W' rb t i b := by
  unfold Rdr at *
  rw [hg.block rb (Array.getElem?_eq_some_iff.1 h).1 hne]
  exact h
theorem take1 {t : ByteArray} (ht : t.size ≤ 9000000) {rb i : Nat} {b : Bool} {c : UInt8} {r : List UInt8} (hl : t.toList.drop i = c :: r) {W : World} (h : Rdr W rb t i b) :
    Calls Tryd.prog 115 #[.pointer (some ⟨rb, 0, none⟩), .int .i64 1] W fun e W' => e = .returned (.string ⟨#[c]⟩) ∧ Rdr W' rb t (i + 1) b ∧ W.grownBy W' (some rb) := by
  obtain ⟨hx, hi, _⟩ := ext_cons hl
  have := take_ok t ht rb i 1 b (by omega) hi W h
  rw [hx] at this
  exact this
theorem take1_nil {t : ByteArray} (ht : t.size ≤ 9000000) {rb i : Nat} {b : Bool} (hi : i ≤ t.size) (hl : t.toList.drop i = []) {W : World} (h : Rdr W rb t i b) :
    Calls Tryd.prog 115 #[.pointer (some ⟨rb, 0, none⟩), .int .i64 1] W fun e W' => e = .returned (.string ⟨#[]⟩) ∧ Rdr W' rb t i true ∧ W.grownBy W' (some rb) :=
  take_bad t ht rb i 1 b (by omega) hi (ext_nil hi hl) W h

/-- A program's variable at block g: its three cells. -/
def Var (W : World) (g : Nat) (k : Int) (s : ByteArray) (ad : Option Addr) (m cap : Nat) : Prop := W.heap[g]? = some (.cells #[.int .u8 k, .string s, .slice ad m cap] 52 (0, 0))
theorem Var.cells {W : World} {g : Nat} {k : Int} {s : ByteArray} {ad : Option Addr} {m cap : Nat} (h : Var W g k s ad m cap) :
    W.cell? ⟨g, 0, none⟩ = some (.int .u8 k) ∧ W.cell? ⟨g, 1, none⟩ = some (.string s) ∧ W.cell? ⟨g, 2, none⟩ = some (.slice ad m cap) ∧ W.frozen? ⟨g, 0, none⟩ = false ∧ W.frozen? ⟨g, 1, none⟩ = false ∧ W.frozen? ⟨g, 2, none⟩ = false := by
  unfold Var at h
  exact ⟨by simp [World.cell?, h], by simp [World.cell?, h], by simp [World.cell?, h], by simp [World.frozen?, h], by simp [World.frozen?, h], by simp [World.frozen?, h]⟩
theorem Var.grown {W W' : World} {g : Nat} {k : Int} {s : ByteArray} {ad : Option Addr} {m cap : Nat} {row : Option Nat} (h : Var W g k s ad m cap) (hg : W.grownBy W' row) (hne : some g ≠ row) : Var W' g k s ad m cap := by
  unfold Var at *
  rw [hg.block g (Array.getElem?_eq_some_iff.1 h).1 hne]
  exact h
theorem Var.new (W : World) (k : Int) (s : ByteArray) (ad : Option Addr) (m cap : Nat) : Var (W.alloc (.cells #[.int .u8 k, .string s, .slice ad m cap] 52)) W.heap.size k s ad m cap := heap_alloc_new W _

/-- The three stores by which a program's variable is written. -/
def set3 (U : World) (g : Nat) (k : Int) (s : ByteArray) (ad : Option Addr) (m cap : Nat) : World :=
  ((U.setCell ⟨g, 0, none⟩ (.int .u8 k)).setCell ⟨g, 1, none⟩ (.string s)).setCell ⟨g, 2, none⟩ (.slice ad m cap)
theorem set3_var {U : World} {g : Nat} {k0 : Int} {s0 : ByteArray} {ad0 : Option Addr} {m0 cap0 : Nat} (h : Var U g k0 s0 ad0 m0 cap0) (k : Int) (s : ByteArray) (ad : Option Addr) (m cap : Nat) : Var (set3 U g k s ad m cap) g k s ad m cap := by
  unfold Var set3 at *
  have h1 := heap_setCell_same U g 0 _ 52 (.int .u8 k) h
  have h2 := heap_setCell_same _ g 1 _ 52 (.string s) h1
  have h3 := heap_setCell_same _ g 2 _ 52 (.slice ad m cap) h2
  rw [h3]
  rfl
theorem set3_grown {W U : World} {g : Nat} {row : Option Nat} (hW : W.grownBy U row) (hg : W.heap.size ≤ g) (k : Int) (s : ByteArray) (ad : Option Addr) (m cap : Nat) : W.grownBy (set3 U g k s ad m cap) row := by
  unfold set3
  refine ⟨hW.os, hW.tape, hW.output, ?_, fun b hb hr => ?_⟩
  · simp; exact hW.size
  · rw [heap_setCell_other _ _ b _ (by simp; omega), heap_setCell_other _ _ b _ (by simp; omega), heap_setCell_other _ _ b _ (by simp; omega)]
    exact hW.block b hb hr
theorem set3_block {U : World} {g b : Nat} (hb : b ≠ g) (k : Int) (s : ByteArray) (ad : Option Addr) (m cap : Nat) : (set3 U g k s ad m cap).heap[b]? = U.heap[b]? := by
  unfold set3
  rw [heap_setCell_other _ _ b _ (by simpa using hb), heap_setCell_other _ _ b _ (by simpa using hb), heap_setCell_other _ _ b _ (by simpa using hb)]
theorem set3_size (U : World) (g : Nat) (k : Int) (s : ByteArray) (ad : Option Addr) (m cap : Nat) : (set3 U g k s ad m cap).heap.size = U.heap.size := by unfold set3; simp
theorem set3_rdr {U : World} {g rb i : Nat} {t : ByteArray} {b : Bool} (h : Rdr U rb t i b) (hb : rb ≠ g) (k : Int) (s : ByteArray) (ad : Option Addr) (m cap : Nat) : Rdr (set3 U g k s ad m cap) rb t i b := by
  unfold Rdr at *
  rw [set3_block hb]
  exact h

theorem grown_alloc {W U : World} {row : Option Nat} (h : W.grownBy U row) (o : Obj) : W.grownBy (U.alloc o) row := by
  have := World.grownBy_alloc U o none
  exact ⟨this.os.trans h.os, this.tape.trans h.tape, this.output.trans h.output, Nat.le_trans h.size this.size, fun b hb hr => (this.block b (Nat.lt_of_lt_of_le hb h.size) (by simp)).trans (h.block b hb hr)⟩

theorem ret_node {Z : World} {a : Act} {k : Int} {s : ByteArray} {ad : Option Addr} {m cap g : Nat} {R : Ending → World → Prop} (hv : Var Z g k s ad m cap) (ha : a.tmps[2]?.getD undef = .pointer (some ⟨g, 0, none⟩)) (hdf : a.defers = [])
    (h : R (.returned (.agg #[.int .u8 k, .string s, .slice ad m cap])) Z) : bodyPost Tryd.prog Tryd.f91 R Exit.ret a Z := by
  obtain ⟨c0, c1, c2, _⟩ := hv.cells
  refine bodyPost_ret (v := .agg #[.int .u8 k, .string s, .slice ad m cap]) ?_ hdf h
  simp [results, Tryd.results91, go_sem, ha, c0, c1, c2]

set_option maxHeartbeats 1000000 in
theorem node_dot (t : ByteArray) (ht : t.size ≤ 9000000) (rb n i : Nat) (W : World) (hr : Rdr W rb t i false) {c : UInt8} {r : List UInt8} (hl : t.toList.drop i = c :: r) (hc : c = 46 ∨ c = 33) :
    Calls Tryd.prog 91 #[.pointer (some ⟨rb, 0, none⟩)] W (ReadTo t rb (n + 1) i W) := by
  obtain ⟨hx, hi, hd⟩ := ext_cons hl
  have hlt := hr.lt
  have hrd : rd (n + 1) (t.toList.drop i) = some (.atom [c], r) := by rw [hl, rd.eq_def]; dsimp only; rw [if_pos hc]
  have HRD := Lib.hid hrd
  clear hrd
  rcases hc with rfl | rfl <;>
  · go_enter Tryd.func91, Tryd.ntmps91
    go_wp2_with fail
    go_at_call 115
    refine (take1 ht hl (hr.grown (World.grownBy_alloc W _ none) (by simp))).mono ?_
    rintro e W1 ⟨rfl, hr1, hg1⟩
    have hv := (Var.new W 0 ⟨#[]⟩ none 0 0).grown hg1 (by simp; omega)
    obtain ⟨c0, c1, c2, f1, f2⟩ := hr1.cells
    have hva := hv.grown (World.grownBy_alloc W1 (.cells #[] 52) none) (by simp)
    obtain ⟨x0, x1, x2, y0, y1, y2⟩ := hva.cells
    have hG := grown_alloc (grown_trans (World.grownBy_alloc W _ (some rb)) hg1) (.cells #[] 52)
    have hR := hr1.grown (World.grownBy_alloc W1 (.cells #[] 52) none) (by simp)
    go_wp2_with fail
    refine ret_node (set3_var hva _ _ _ _ _) rfl rfl ?_
    refine ⟨_, _, _, _, _, rfl, set3_grown hG (Nat.le_refl _) _ _ _ _ _, ?_⟩
    rw [HRD.out]
    exact ⟨i + 1, hi, hd, set3_rdr hR (by omega) _ _ _ _ _, rfl, rfl, rfl⟩
end Go.Proofs.YtgkgkaapjljpcaaDoor

namespace Go.Proofs.YtgkgkaapjljpcaaDoor
open Go.ChangeShapes Go.WideShapes Go.ChangeAt Go.RowKit Go.Shelf
attribute [local go_sem] Oper.semAt_some
set_option maxRecDepth 100000

theorem setCell_grown {W U : World} {g o : Nat} {row : Option Nat} (hW : W.grownBy U row) (hg : some g = row ∨ W.heap.size ≤ g) (v : Value) : W.grownBy (U.setCell ⟨g, o, none⟩ v) row := by
  refine ⟨hW.os, hW.tape, hW.output, by simp; exact hW.size, fun b hb hr => ?_⟩
  rw [heap_setCell_other U ⟨g, o, none⟩ b _ (by
    rcases hg with h | h
    · intro e; subst e; exact hr h
    · simp; omega)]
  exact hW.block b hb hr

theorem below_grown {W W' : World} (h : Below W.heap.size W W') (row : Option Nat) : W.grownBy W' row := ⟨h.os, h.tape, h.output, h.size, fun i hi _ => h.block i hi⟩
theorem grown_trans2 {A B C : World} {row : Option Nat} (h : A.grownBy B row) (k : B.grownBy C row) : A.grownBy C row :=
  ⟨k.os.trans h.os, k.tape.trans h.tape, k.output.trans h.output, Nat.le_trans h.size k.size, fun i hi hr => (k.block i (Nat.lt_of_lt_of_le hi h.size) hr).trans (h.block i hi hr)⟩

set_option maxHeartbeats 1000000 in
theorem node_nil (t : ByteArray) (ht : t.size ≤ 9000000) (rb n i : Nat) (W : World) (hi : i ≤ t.size) (hr : Rdr W rb t i false) (hl : t.toList.drop i = []) :
    Calls Tryd.prog 91 #[.pointer (some ⟨rb, 0, none⟩)] W (ReadTo t rb n i W) := by
  have hlt := hr.lt
  have hrd : rd n (t.toList.drop i) = none := by rw [hl]; cases n <;> rfl
  have HRD := Lib.hid hrd
  clear hrd
  go_enter Tryd.func91, Tryd.ntmps91
  go_wp2_with fail
  go_at_call 115
  refine (take1_nil ht hi hl (hr.grown (World.grownBy_alloc W _ none) (by simp))).mono ?_
  rintro e W1 ⟨rfl, hr1, hg1⟩
  have hv := (Var.new W 0 ⟨#[]⟩ none 0 0).grown hg1 (by simp; omega)
  obtain ⟨c0, c1, c2, f1, f2⟩ := hr1.cells
  obtain ⟨x0, x1, x2, y0, y1, y2⟩ := hv.cells
  have hG := grown_trans (World.grownBy_alloc W _ (some rb)) hg1
  go_wp2_with fail
  refine ret_node (set3_var hv _ _ _ _ _) rfl rfl ?_
  refine ⟨_, _, _, _, _, rfl, set3_grown hG (Nat.le_refl _) _ _ _ _ _, ?_⟩
  rw [HRD.out]
  exact ⟨i, hi, set3_rdr hr1 (by omega) _ _ _ _ _⟩

set_option maxHeartbeats 1000000 in
theorem node_other (t : ByteArray) (ht : t.size ≤ 9000000) (rb n i : Nat) (W : World) (hr : Rdr W rb t i false) {c : UInt8} {r : List UInt8} (hl : t.toList.drop i = c :: r)
    (h1 : ¬ (c = 46 ∨ c = 33)) (h2 : ¬ (c = 120 ∨ c = 121)) (h3 : ¬ c = 91) (h4 : ¬ c = 123) (h5 : ¬ c = 40) :
    Calls Tryd.prog 91 #[.pointer (some ⟨rb, 0, none⟩)] W (ReadTo t rb (n + 1) i W) := by
  obtain ⟨hx, hi, hd⟩ := ext_cons hl
  have hlt := hr.lt
  have hrd : rd (n + 1) (t.toList.drop i) = none := by rw [hl, rd.eq_def]; dsimp only; rw [if_neg h1, if_neg h2, if_neg h3, if_neg h4, if_neg h5]
  have HRD := Lib.hid hrd
  have hA : ∀ h : 0 < (⟨#[c]⟩ : ByteArray).size, (⟨#[c]⟩ : ByteArray)[0]'h = c := fun _ => rfl
  have ne : ∀ d : UInt8, ¬ c = d → ((c.toNat : Int) == (d.toNat : Int)) = false := fun d h => by
    have : c.toNat ≠ d.toNat := fun e => h (UInt8.toNat_inj.1 e)
    simp; omega
  have b1 : ((c.toNat : Int) == 46) = false := ne 46 (fun e => h1 (.inl e))
  have b2 : ((c.toNat : Int) == 33) = false := ne 33 (fun e => h1 (.inr e))
  have b3 : ((c.toNat : Int) == 120) = false := ne 120 (fun e => h2 (.inl e))
  have b4 : ((c.toNat : Int) == 121) = false := ne 121 (fun e => h2 (.inr e))
  have b5 : ((c.toNat : Int) == 91) = false := ne 91 h3
  have b6 : ((c.toNat : Int) == 123) = false := ne 123 h4
  have b7 : ((c.toNat : Int) == 40) = false := ne 40 h5
  clear hrd ne h1 h2 h3 h4 h5
  go_enter Tryd.func91, Tryd.ntmps91
  go_wp2_with fail
  go_at_call 115
  refine (take1 ht hl (hr.grown (World.grownBy_alloc W _ none) (by simp))).mono ?_
  rintro e W1 ⟨rfl, hr1, hg1⟩
  have hv := (Var.new W 0 ⟨#[]⟩ none 0 0).grown hg1 (by simp; omega)
  obtain ⟨c0, c1, c2, f1, f2⟩ := hr1.cells
  have hG := grown_trans (World.grownBy_alloc W _ (some rb)) hg1
  have hR2 := hr1.bad true
  have hv2 := hv.grown hR2.2 (by simp; omega)
  obtain ⟨x0, x1, x2, y0, y1, y2⟩ := hv2.cells
  have hG2 := setCell_grown (o := 2) hG (.inl rfl) (.bool true)
  go_wp2_with fail
  refine ret_node (set3_var hv2 _ _ _ _ _) rfl rfl ?_
  refine ⟨_, _, _, _, _, rfl, set3_grown hG2 (Nat.le_refl _) _ _ _ _ _, ?_⟩
  rw [HRD.out]
  exact ⟨i + 1, hi, set3_rdr hR2.1 (by omega) _ _ _ _ _⟩

theorem cat_two (c : UInt8) (p : List UInt8) : (⟨#[c]⟩ : ByteArray) ++ ⟨p.toArray⟩ = ⟨(c :: p).toArray⟩ := by
  apply ByteArray.ext
  rw [ByteArray.data_append]
  simp

set_option maxHeartbeats 2000000 in
theorem node_xy (t : ByteArray) (ht : t.size ≤ 9000000) (rb n i : Nat) (W : World) (hr : Rdr W rb t i false) {c : UInt8} {r : List UInt8} (hl : t.toList.drop i = c :: r) (hc : c = 120 ∨ c = 121) :
    Calls Tryd.prog 91 #[.pointer (some ⟨rb, 0, none⟩)] W (ReadTo t rb (n + 1) i W) := by
  obtain ⟨hx, hi, hd⟩ := ext_cons hl
  have hlt := hr.lt
  have hc0 : ¬ (c = 46 ∨ c = 33) := by rcases hc with rfl | rfl <;> decide
  cases r with
  | nil =>
    have hl2 := hd
    have hrd : rd (n + 1) (t.toList.drop i) = none := by rw [hl, rd.eq_def]; dsimp only; rw [if_neg hc0, if_pos hc]
    have HRD := Lib.hid hrd
    clear hrd hc0
    rcases hc with rfl | rfl <;>
    · go_enter Tryd.func91, Tryd.ntmps91
      go_wp2_with fail
      go_at_call 115
      refine (take1 ht hl (hr.grown (World.grownBy_alloc W _ none) (by simp))).mono ?_
      rintro e W1 ⟨rfl, hr1, hg1⟩
      have hv := (Var.new W 0 ⟨#[]⟩ none 0 0).grown hg1 (by simp; omega)
      obtain ⟨c0, c1, c2, f1, f2⟩ := hr1.cells
      have hG := grown_trans (World.grownBy_alloc W _ (some rb)) hg1
      go_wp2_with fail
      go_at_call 115
      refine (take1_nil ht hi hl2 hr1).mono ?_
      rintro e W2 ⟨rfl, hr2, hg2⟩
      have hv2 := hv.grown hg2 (by simp; omega)
      have hG2 := grown_trans2 hG hg2
      obtain ⟨d0, d1, d2, k1, k2⟩ := hr2.cells
      have hR3 := hr2.bad true
      have hv3 := hv2.grown hR3.2 (by simp; omega)
      have hG3 := setCell_grown (o := 2) hG2 (.inl rfl) (.bool true)
      have hva := hv3.grown (World.grownBy_alloc _ (.cells #[] 52) none) (by simp)
      obtain ⟨x0, x1, x2, y0, y1, y2⟩ := hva.cells
      have hGa := grown_alloc hG3 (.cells #[] 52)
      have hRa := hR3.1.grown (World.grownBy_alloc _ (.cells #[] 52) none) (by simp)
      go_wp2_with fail
      refine ret_node (set3_var hva _ _ _ _ _) rfl rfl ?_
      refine ⟨_, _, _, _, _, rfl, set3_grown hGa (Nat.le_refl _) _ _ _ _ _, ?_⟩
      rw [HRD.out]
      exact ⟨i + 1, hi, set3_rdr hRa (by omega) _ _ _ _ _⟩
  | cons d r' =>
    obtain ⟨_, hi2, hd2⟩ := ext_cons hd
    obtain ⟨tw, htw⟩ : ∃ tw, decide ([c, d] ∈ twos) = tw := ⟨_, rfl⟩
    have hrd : rd (n + 1) (t.toList.drop i) = if tw = true then some (.atom [c, d], r') else none := by
      rw [hl, rd.eq_def]
      dsimp only
      rw [if_neg hc0, if_pos hc]
      by_cases h : [c, d] ∈ twos
      · rw [if_pos h, if_pos (by rw [← htw]; exact decide_eq_true h)]
      · rw [if_neg h, if_neg (by rw [← htw]; simpa using h)]
    have HRD := Lib.hid hrd
    have hcat : (⟨#[c]⟩ : ByteArray) ++ ⟨#[d]⟩ = ⟨#[c, d]⟩ := cat_two c [d]
    have htl : (⟨#[c, d]⟩ : ByteArray).toList = [c, d] := by rw [Lib.toList_data]
    have HT := Lib.hid htw
    clear hrd hc0 htw
    rcases hc with rfl | rfl <;>
    · go_enter Tryd.func91, Tryd.ntmps91
      go_wp2_with fail
      go_at_call 115
      refine (take1 ht hl (hr.grown (World.grownBy_alloc W _ none) (by simp))).mono ?_
      rintro e W1 ⟨rfl, hr1, hg1⟩
      have hv := (Var.new W 0 ⟨#[]⟩ none 0 0).grown hg1 (by simp; omega)
      obtain ⟨c0, c1, c2, f1, f2⟩ := hr1.cells
      have hG := grown_trans (World.grownBy_alloc W _ (some rb)) hg1
      go_wp2_with fail
      go_at_call 115
      refine (take1 ht hd hr1).mono ?_
      rintro e W2 ⟨rfl, hr2, hg2⟩
      have hv2 := hv.grown hg2 (by simp; omega)
      have hG2 := grown_trans2 hG hg2
      obtain ⟨d0, d1, d2, k1, k2⟩ := hr2.cells
      go_wp2_with fail
      go_at_call 116
      refine (two79 _ _).mono ?_
      rintro e W3 ⟨rfl, hb3⟩
      rw [htl, HT.out]
      have hr3 := hr2.grown (below_grown hb3 none) (by simp)
      have hv3 := hv2.grown (below_grown hb3 none) (by simp)
      have hG3 := grown_trans2 hG2 (below_grown hb3 (some rb))
      obtain ⟨d0, d1, d2, k1, k2⟩ := hr3.cells
      have hR4 := hr3.bad (!tw)
      have hv4 := hv3.grown hR4.2 (by simp; omega)
      have hG4 := setCell_grown (o := 2) hG3 (.inl rfl) (.bool (!tw))
      have hva := hv4.grown (World.grownBy_alloc _ (.cells #[] 52) none) (by simp)
      obtain ⟨x0, x1, x2, y0, y1, y2⟩ := hva.cells
      have hGa := grown_alloc hG4 (.cells #[] 52)
      have hRa := hR4.1.grown (World.grownBy_alloc _ (.cells #[] 52) none) (by simp)
      go_wp2_with fail
      refine ret_node (set3_var hva _ _ _ _ _) rfl rfl ?_
      refine ⟨_, _, _, _, _, rfl, set3_grown hGa (Nat.le_refl _) _ _ _ _ _, ?_⟩
      rw [HRD.out]
      cases tw
      · exact ⟨i + 1 + 1, hi2, set3_rdr hRa (by omega) _ _ _ _ _⟩
      · exact ⟨i + 1 + 1, hi2, hd2, set3_rdr hRa (by omega) _ _ _ _ _, rfl, rfl, rfl⟩
end Go.Proofs.YtgkgkaapjljpcaaDoor

namespace Go.Proofs.YtgkgkaapjljpcaaDoor
open Go.ChangeShapes Go.WideShapes Go.ChangeAt Go.RowKit Go.Shelf
attribute [local go_sem] Oper.semAt_some
set_option maxRecDepth 100000

theorem ext3 {t : ByteArray} {i : Nat} {a b d : UInt8} {r : List UInt8} (h : t.toList.drop i = a :: b :: d :: r) : t.extract i (i + 3) = ⟨#[a, b, d]⟩ ∧ i + 3 ≤ t.size ∧ t.toList.drop (i + 3) = r := by
  have hl : t.toList.length = t.size := by rw [Lib.toList_data, Array.length_toList]; rfl
  have h1 : i + 3 ≤ t.toList.length := by
    have := congrArg List.length h
    simp at this
    omega
  have h2 : (t.extract i (i + 3)).data.toList = [a, b, d] := by
    rw [Lib.extract_data, ← Lib.toList_data, h]; simp
  refine ⟨?_, by omega, by rw [← List.drop_drop, h]; rfl⟩
  generalize t.extract i (i + 3) = x at h2
  obtain ⟨⟨l⟩⟩ := x
  simp at h2
  subst h2
  rfl
theorem take3 {t : ByteArray} (ht : t.size ≤ 9000000) {rb i : Nat} {b : Bool} {x y z : UInt8} {r : List UInt8} (hl : t.toList.drop i = x :: y :: z :: r) {W : World} (h : Rdr W rb t i b) :
    Calls Tryd.prog 115 #[.pointer (some ⟨rb, 0, none⟩), .int .i64 3] W fun e W' => e = .returned (.string ⟨#[x, y, z]⟩) ∧ Rdr W' rb t (i + 3) b ∧ W.grownBy W' (some rb) := by
  obtain ⟨hx, hi, _⟩ := ext3 hl
  have := take_ok t ht rb i 3 b (by omega) hi W h
  rw [hx] at this
  exact this
theorem take3_bad {t : ByteArray} (ht : t.size ≤ 9000000) {rb i : Nat} {b : Bool} (hi : i ≤ t.size) (hl : (t.toList.drop i).length < 3) {W : World} (h : Rdr W rb t i b) :
    Calls Tryd.prog 115 #[.pointer (some ⟨rb, 0, none⟩), .int .i64 3] W fun e W' => e = .returned (.string ⟨#[]⟩) ∧ Rdr W' rb t i true ∧ W.grownBy W' (some rb) := by
  have hn : t.toList.length = t.size := by rw [Lib.toList_data, Array.length_toList]; rfl
  exact take_bad t ht rb i 3 b (by omega) hi (by rw [List.length_drop] at hl; omega) W h

set_option maxHeartbeats 4000000 in
theorem node_test (t : ByteArray) (ht : t.size ≤ 9000000) (rb n i : Nat) (W : World) (hr : Rdr W rb t i false) {a b d e : UInt8} {r : List UInt8} (hl : t.toList.drop i = 91 :: a :: b :: d :: e :: r) :
    Calls Tryd.prog 91 #[.pointer (some ⟨rb, 0, none⟩)] W (ReadTo t rb (n + 1) i W) := by
  obtain ⟨hx, hi, hd⟩ := ext_cons hl
  obtain ⟨_, hi2, hd2⟩ := ext3 hd
  obtain ⟨_, hi3, hd3⟩ := ext_cons hd2
  have hlt := hr.lt
  obtain ⟨tv, htv⟩ : ∃ tv, isTest ⟨#[a, b, d]⟩ = tv := ⟨_, rfl⟩
  have htl : (⟨#[a, b, d]⟩ : ByteArray).toList = [a, b, d] := by rw [Lib.toList_data]
  have hrd : rd (n + 1) (t.toList.drop i) = if e = 93 ∧ tv = true then some (.atom [91, a, b, d, 93], r) else none := by
    rw [hl, rd.eq_def]
    dsimp only
    rw [if_neg (by decide), if_neg (by decide), if_pos rfl]
    have hq : tv = true ↔ [a, b, d] ∈ tests := by rw [← htv]; unfold isTest; rw [htl]; simp
    by_cases h : e = 93 ∧ [a, b, d] ∈ tests
    · rw [if_pos h, if_pos ⟨h.1, hq.2 h.2⟩]
    · rw [if_neg h, if_neg (fun h' => h ⟨h'.1, hq.1 h'.2⟩)]
  have HRD := Lib.hid hrd
  have HT := Lib.hid htv
  have cat1 : (⟨#[91]⟩ : ByteArray) ++ ⟨#[a, b, d]⟩ = ⟨#[91, a, b, d]⟩ := cat_two 91 [a, b, d]
  have cat2 : (⟨#[91, a, b, d]⟩ : ByteArray) ++ ⟨#[93]⟩ = ⟨#[91, a, b, d, 93]⟩ := by
    apply ByteArray.ext
    rw [ByteArray.data_append]
    simp
  clear hrd htv
  by_cases he : e = 93
  · subst he
    go_enter Tryd.func91, Tryd.ntmps91
    go_wp2_with fail
    go_at_call 115
    refine (take1 ht hl (hr.grown (World.grownBy_alloc W _ none) (by simp))).mono ?_
    rintro e W1 ⟨rfl, hr1, hg1⟩
    have hv := (Var.new W 0 ⟨#[]⟩ none 0 0).grown hg1 (by simp; omega)
    obtain ⟨c0, c1, c2, f1, f2⟩ := hr1.cells
    have hG := grown_trans (World.grownBy_alloc W _ (some rb)) hg1
    go_wp2_with fail
    go_at_call 115
    refine (take3 ht hd hr1).mono ?_
    rintro e W2 ⟨rfl, hr2, hg2⟩
    have hv2 := hv.grown hg2 (by simp; omega)
    have hG2 := grown_trans2 hG hg2
    go_wp2_with fail
    go_at_call 115
    refine (take1 ht hd2 hr2).mono ?_
    rintro e W3 ⟨rfl, hr3, hg3⟩
    have hv3 := hv2.grown hg3 (by simp; omega)
    have hG3 := grown_trans2 hG2 hg3
    obtain ⟨d0, d1, d2, k1, k2⟩ := hr3.cells
    go_wp2_with fail
    go_at_call 117
    refine (valid16 _ _).mono ?_
    rintro e W4 ⟨rfl, hb4⟩
    rw [HT.out]
    have hr4 := hr3.grown (below_grown hb4 none) (by simp)
    have hv4 := hv3.grown (below_grown hb4 none) (by simp)
    have hG4 := grown_trans2 hG3 (below_grown hb4 (some rb))
    obtain ⟨d0, d1, d2, k1, k2⟩ := hr4.cells
    have hR5 := hr4.bad (!tv)
    have hv5 := hv4.grown hR5.2 (by simp; omega)
    have hG5 := setCell_grown (o := 2) hG4 (.inl rfl) (.bool (!tv))
    have hva := hv5.grown (World.grownBy_alloc _ (.cells #[] 52) none) (by simp)
    obtain ⟨x0, x1, x2, y0, y1, y2⟩ := hva.cells
    have hGa := grown_alloc hG5 (.cells #[] 52)
    have hRa := hR5.1.grown (World.grownBy_alloc _ (.cells #[] 52) none) (by simp)
    go_wp2_with fail
    refine ret_node (set3_var hva _ _ _ _ _) rfl rfl ?_
    refine ⟨_, _, _, _, _, rfl, set3_grown hGa (Nat.le_refl _) _ _ _ _ _, ?_⟩
    rw [HRD.out]
    cases tv
    · exact ⟨i + 1 + 3 + 1, hi3, set3_rdr hRa (by omega) _ _ _ _ _⟩
    · exact ⟨i + 1 + 3 + 1, hi3, hd3, set3_rdr hRa (by omega) _ _ _ _ _, rfl, rfl, rfl⟩
  · have hne1 : (e == 93) = false := by simpa using he
    have hne2 : (e != 93) = true := by simpa using he
    have HE := Lib.hid he
    go_enter Tryd.func91, Tryd.ntmps91
    go_wp2_with fail
    go_at_call 115
    refine (take1 ht hl (hr.grown (World.grownBy_alloc W _ none) (by simp))).mono ?_
    rintro e W1 ⟨rfl, hr1, hg1⟩
    have hv := (Var.new W 0 ⟨#[]⟩ none 0 0).grown hg1 (by simp; omega)
    obtain ⟨c0, c1, c2, f1, f2⟩ := hr1.cells
    have hG := grown_trans (World.grownBy_alloc W _ (some rb)) hg1
    go_wp2_with fail
    go_at_call 115
    refine (take3 ht hd hr1).mono ?_
    rintro e W2 ⟨rfl, hr2, hg2⟩
    have hv2 := hv.grown hg2 (by simp; omega)
    have hG2 := grown_trans2 hG hg2
    go_wp2_with fail
    go_at_call 115
    refine (take1 ht hd2 hr2).mono ?_
    rintro e W3 ⟨rfl, hr3, hg3⟩
    have hv3 := hv2.grown hg3 (by simp; omega)
    have hG3 := grown_trans2 hG2 hg3
    obtain ⟨d0, d1, d2, k1, k2⟩ := hr3.cells
    have hR5 := hr3.bad true
    have hv5 := hv3.grown hR5.2 (by simp; omega)
    have hG5 := setCell_grown (o := 2) hG3 (.inl rfl) (.bool true)
    have hva := hv5.grown (World.grownBy_alloc _ (.cells #[] 52) none) (by simp)
    obtain ⟨x0, x1, x2, y0, y1, y2⟩ := hva.cells
    have hGa := grown_alloc hG5 (.cells #[] 52)
    have hRa := hR5.1.grown (World.grownBy_alloc _ (.cells #[] 52) none) (by simp)
    go_wp2_with fail
    refine ret_node (set3_var hva _ _ _ _ _) rfl rfl ?_
    refine ⟨_, _, _, _, _, rfl, set3_grown hGa (Nat.le_refl _) _ _ _ _ _, ?_⟩
    rw [HRD.out, if_neg (fun h => HE.out h.1)]
    exact ⟨i + 1 + 3 + 1, hi3, set3_rdr hRa (by omega) _ _ _ _ _⟩

set_option maxHeartbeats 4000000 in
theorem node_short (t : ByteArray) (ht : t.size ≤ 9000000) (rb n i : Nat) (W : World) (hr : Rdr W rb t i false) {r : List UInt8} (hl : t.toList.drop i = 91 :: r) (hs : r.length ≤ 3) :
    Calls Tryd.prog 91 #[.pointer (some ⟨rb, 0, none⟩)] W (ReadTo t rb (n + 1) i W) := by
  obtain ⟨hx, hi, hd⟩ := ext_cons hl
  have hlt := hr.lt
  have hrd : rd (n + 1) (t.toList.drop i) = none := by
    rw [hl, rd.eq_def]
    dsimp only
    rw [if_neg (by decide), if_neg (by decide), if_pos rfl]
    match r, hs with
    | [], _ => rfl
    | [_], _ => rfl
    | [_, _], _ => rfl
    | [_, _, _], _ => rfl
    | _ :: _ :: _ :: _ :: _, h => simp at h
  have HRD := Lib.hid hrd
  clear hrd
  by_cases h3 : r.length = 3
  · obtain ⟨a, b, d, rfl⟩ : ∃ a b d, r = [a, b, d] := by
      match r, h3 with
      | [a, b, d], _ => exact ⟨a, b, d, rfl⟩
    obtain ⟨_, hi2, hd2⟩ := ext3 hd
    have cat1 : (⟨#[91]⟩ : ByteArray) ++ ⟨#[a, b, d]⟩ = ⟨#[91, a, b, d]⟩ := cat_two 91 [a, b, d]
    have cat2 : (⟨#[91, a, b, d]⟩ : ByteArray) ++ ⟨#[93]⟩ = ⟨#[91, a, b, d, 93]⟩ := by
      apply ByteArray.ext
      rw [ByteArray.data_append]
      simp
    go_enter Tryd.func91, Tryd.ntmps91
    go_wp2_with fail
    go_at_call 115
    refine (take1 ht hl (hr.grown (World.grownBy_alloc W _ none) (by simp))).mono ?_
    rintro e W1 ⟨rfl, hr1, hg1⟩
    have hv := (Var.new W 0 ⟨#[]⟩ none 0 0).grown hg1 (by simp; omega)
    obtain ⟨c0, c1, c2, f1, f2⟩ := hr1.cells
    have hG := grown_trans (World.grownBy_alloc W _ (some rb)) hg1
    go_wp2_with fail
    go_at_call 115
    refine (take3 ht hd hr1).mono ?_
    rintro e W2 ⟨rfl, hr2, hg2⟩
    have hv2 := hv.grown hg2 (by simp; omega)
    have hG2 := grown_trans2 hG hg2
    go_wp2_with fail
    go_at_call 115
    refine (take1_nil ht hi2 hd2 hr2).mono ?_
    rintro e W3 ⟨rfl, hr3, hg3⟩
    have hv3 := hv2.grown hg3 (by simp; omega)
    have hG3 := grown_trans2 hG2 hg3
    obtain ⟨d0, d1, d2, k1, k2⟩ := hr3.cells
    have hR5 := hr3.bad true
    have hv5 := hv3.grown hR5.2 (by simp; omega)
    have hG5 := setCell_grown (o := 2) hG3 (.inl rfl) (.bool true)
    have hva := hv5.grown (World.grownBy_alloc _ (.cells #[] 52) none) (by simp)
    obtain ⟨x0, x1, x2, y0, y1, y2⟩ := hva.cells
    have hGa := grown_alloc hG5 (.cells #[] 52)
    have hRa := hR5.1.grown (World.grownBy_alloc _ (.cells #[] 52) none) (by simp)
    go_wp2_with fail
    refine ret_node (set3_var hva _ _ _ _ _) rfl rfl ?_
    refine ⟨_, _, _, _, _, rfl, set3_grown hGa (Nat.le_refl _) _ _ _ _ _, ?_⟩
    rw [HRD.out]
    exact ⟨i + 1 + 3, hi2, set3_rdr hRa (by omega) _ _ _ _ _⟩
  · have h2 : (t.toList.drop (i + 1)).length < 3 := by rw [hd]; omega
    cases r with
    | nil =>
      go_enter Tryd.func91, Tryd.ntmps91
      go_wp2_with fail
      go_at_call 115
      refine (take1 ht hl (hr.grown (World.grownBy_alloc W _ none) (by simp))).mono ?_
      rintro e W1 ⟨rfl, hr1, hg1⟩
      have hv := (Var.new W 0 ⟨#[]⟩ none 0 0).grown hg1 (by simp; omega)
      obtain ⟨c0, c1, c2, f1, f2⟩ := hr1.cells
      have hG := grown_trans (World.grownBy_alloc W _ (some rb)) hg1
      go_wp2_with fail
      go_at_call 115
      refine (take3_bad ht hi h2 hr1).mono ?_
      rintro e W2 ⟨rfl, hr2, hg2⟩
      have hv2 := hv.grown hg2 (by simp; omega)
      have hG2 := grown_trans2 hG hg2
      go_wp2_with fail
      go_at_call 115
      refine (take1_nil ht hi hd hr2).mono ?_
      rintro e W3 ⟨rfl, hr3, hg3⟩
      have hv3 := hv2.grown hg3 (by simp; omega)
      have hG3 := grown_trans2 hG2 hg3
      obtain ⟨d0, d1, d2, k1, k2⟩ := hr3.cells
      have hR5 := hr3.bad true
      have hv5 := hv3.grown hR5.2 (by simp; omega)
      have hG5 := setCell_grown (o := 2) hG3 (.inl rfl) (.bool true)
      have hva := hv5.grown (World.grownBy_alloc _ (.cells #[] 52) none) (by simp)
      obtain ⟨x0, x1, x2, y0, y1, y2⟩ := hva.cells
      have hGa := grown_alloc hG5 (.cells #[] 52)
      have hRa := hR5.1.grown (World.grownBy_alloc _ (.cells #[] 52) none) (by simp)
      go_wp2_with fail
      refine ret_node (set3_var hva _ _ _ _ _) rfl rfl ?_
      refine ⟨_, _, _, _, _, rfl, set3_grown hGa (Nat.le_refl _) _ _ _ _ _, ?_⟩
      rw [HRD.out]
      exact ⟨i + 1, hi, set3_rdr hRa (by omega) _ _ _ _ _⟩
    | cons e r2 =>
      obtain ⟨_, hi2, _⟩ := ext_cons hd
      by_cases he : e = 93
      · subst he
        go_enter Tryd.func91, Tryd.ntmps91
        go_wp2_with fail
        go_at_call 115
        refine (take1 ht hl (hr.grown (World.grownBy_alloc W _ none) (by simp))).mono ?_
        rintro e W1 ⟨rfl, hr1, hg1⟩
        have hv := (Var.new W 0 ⟨#[]⟩ none 0 0).grown hg1 (by simp; omega)
        obtain ⟨c0, c1, c2, f1, f2⟩ := hr1.cells
        have hG := grown_trans (World.grownBy_alloc W _ (some rb)) hg1
        go_wp2_with fail
        go_at_call 115
        refine (take3_bad ht hi h2 hr1).mono ?_
        rintro e W2 ⟨rfl, hr2, hg2⟩
        have hv2 := hv.grown hg2 (by simp; omega)
        have hG2 := grown_trans2 hG hg2
        go_wp2_with fail
        go_at_call 115
        refine (take1 ht hd hr2).mono ?_
        rintro e W3 ⟨rfl, hr3, hg3⟩
        have hv3 := hv2.grown hg3 (by simp; omega)
        have hG3 := grown_trans2 hG2 hg3
        obtain ⟨d0, d1, d2, k1, k2⟩ := hr3.cells
        have hR5 := hr3.bad true
        have hv5 := hv3.grown hR5.2 (by simp; omega)
        have hG5 := setCell_grown (o := 2) hG3 (.inl rfl) (.bool true)
        have hva := hv5.grown (World.grownBy_alloc _ (.cells #[] 52) none) (by simp)
        obtain ⟨x0, x1, x2, y0, y1, y2⟩ := hva.cells
        have hGa := grown_alloc hG5 (.cells #[] 52)
        have hRa := hR5.1.grown (World.grownBy_alloc _ (.cells #[] 52) none) (by simp)
        go_wp2_with fail
        refine ret_node (set3_var hva _ _ _ _ _) rfl rfl ?_
        refine ⟨_, _, _, _, _, rfl, set3_grown hGa (Nat.le_refl _) _ _ _ _ _, ?_⟩
        rw [HRD.out]
        exact ⟨i + 1 + 1, hi2, set3_rdr hRa (by omega) _ _ _ _ _⟩
      · have hne1 : (e == 93) = false := by simpa using he
        have hne2 : (e != 93) = true := by simpa using he
        go_enter Tryd.func91, Tryd.ntmps91
        go_wp2_with fail
        go_at_call 115
        refine (take1 ht hl (hr.grown (World.grownBy_alloc W _ none) (by simp))).mono ?_
        rintro e W1 ⟨rfl, hr1, hg1⟩
        have hv := (Var.new W 0 ⟨#[]⟩ none 0 0).grown hg1 (by simp; omega)
        obtain ⟨c0, c1, c2, f1, f2⟩ := hr1.cells
        have hG := grown_trans (World.grownBy_alloc W _ (some rb)) hg1
        go_wp2_with fail
        go_at_call 115
        refine (take3_bad ht hi h2 hr1).mono ?_
        rintro e W2 ⟨rfl, hr2, hg2⟩
        have hv2 := hv.grown hg2 (by simp; omega)
        have hG2 := grown_trans2 hG hg2
        go_wp2_with fail
        go_at_call 115
        refine (take1 ht hd hr2).mono ?_
        rintro e W3 ⟨rfl, hr3, hg3⟩
        have hv3 := hv2.grown hg3 (by simp; omega)
        have hG3 := grown_trans2 hG2 hg3
        obtain ⟨d0, d1, d2, k1, k2⟩ := hr3.cells
        have hR5 := hr3.bad true
        have hv5 := hv3.grown hR5.2 (by simp; omega)
        have hG5 := setCell_grown (o := 2) hG3 (.inl rfl) (.bool true)
        have hva := hv5.grown (World.grownBy_alloc _ (.cells #[] 52) none) (by simp)
        obtain ⟨x0, x1, x2, y0, y1, y2⟩ := hva.cells
        have hGa := grown_alloc hG5 (.cells #[] 52)
        have hRa := hR5.1.grown (World.grownBy_alloc _ (.cells #[] 52) none) (by simp)
        go_wp2_with fail
        refine ret_node (set3_var hva _ _ _ _ _) rfl rfl ?_
        refine ⟨_, _, _, _, _, rfl, set3_grown hGa (Nat.le_refl _) _ _ _ _ _, ?_⟩
        rw [HRD.out]
        exact ⟨i + 1 + 1, hi2, set3_rdr hRa (by omega) _ _ _ _ _⟩
end Go.Proofs.YtgkgkaapjljpcaaDoor

namespace Go.Proofs.YtgkgkaapjljpcaaDoor
open Go.ChangeShapes Go.WideShapes Go.ChangeAt Go.RowKit Go.Shelf
attribute [local go_sem] Oper.semAt_some
set_option maxRecDepth 100000

/-- Reading one program where at most n bytes are left. -/
def Reads (t : ByteArray) (rb n : Nat) : Prop := ∀ (i : Nat) (W : World), i ≤ t.size → (t.toList.drop i).length ≤ n → Rdr W rb t i false →
  Calls Tryd.prog 91 #[.pointer (some ⟨rb, 0, none⟩)] W (ReadTo t rb n i W)

theorem rd_loop (n : Nat) (r : List UInt8) : rd (n + 1) (123 :: r) = match rd n r with
      | some (p, e :: r') => if e = 125 then some (.loop p, r') else none
      | _ => none := by
  rw [rd.eq_def]
  dsimp only
  rw [if_neg (by decide), if_neg (by decide), if_neg (by decide), if_pos rfl]
  rfl
theorem same_of {W2 Y : World} {rb g lo : Nat} (h : W2.grownBy Y (some rb)) (h1 : rb < lo) (h2 : g < lo) (k : Int) (s : ByteArray) (ad : Option Addr) (m cap : Nat) : Same lo W2.heap.size W2 (set3 Y g k s ad m cap) := by
  intro b hb1 hb2
  rw [set3_block (by omega)]
  exact h.block b hb2 (by simp; omega)

set_option maxHeartbeats 4000000 in
theorem node_loop (t : ByteArray) (ht : t.size ≤ 9000000) (rb n i : Nat) (IH : Reads t rb n) (W : World) (hr : Rdr W rb t i false) {r : List UInt8} (hl : t.toList.drop i = 123 :: r) (hn : r.length ≤ n) :
    Calls Tryd.prog 91 #[.pointer (some ⟨rb, 0, none⟩)] W (ReadTo t rb (n + 1) i W) := by
  obtain ⟨hx, hi, hd⟩ := ext_cons hl
  have hlt := hr.lt
  have HRD := Lib.hid (rd_loop n r)
  rw [← hl] at HRD
  go_enter Tryd.func91, Tryd.ntmps91
  go_wp2_with fail
  go_at_call 115
  refine (take1 ht hl (hr.grown (World.grownBy_alloc W _ none) (by simp))).mono ?_
  rintro e W1 ⟨rfl, hr1, hg1⟩
  have hv := (Var.new W 0 ⟨#[]⟩ none 0 0).grown hg1 (by simp; omega)
  obtain ⟨c0, c1, c2, f1, f2⟩ := hr1.cells
  have hG := grown_trans (World.grownBy_alloc W _ (some rb)) hg1
  have hrb1 := hr1.lt
  go_wp2_with fail
  go_at_call 91
  refine (IH (i + 1) W1 hi (by rw [hd]; exact hn) hr1).mono ?_
  rintro e W2 ⟨k, s, ad, m, cap, rfl, hg2, hm⟩
  rw [hd] at hm
  have hv2 := hv.grown hg2 (by simp; omega)
  have hG2 := grown_trans2 hG hg2
  have s12 := hg2.size
  have s01 : W.heap.size + 1 ≤ W1.heap.size := by have := hg1.size; simp at this; exact this
  have hX1 := Var.new W2 k s ad m cap
  have hA := World.grownBy_alloc (W2.alloc (.cells #[.int .u8 k, .string s, .slice ad m cap] 52)) (.cells #[.int .u8 123, .string ⟨#[]⟩, .slice (some ⟨W2.heap.size, 0, none⟩) 1 1] 52) none
  have hy4 := Var.new (W2.alloc (.cells #[.int .u8 k, .string s, .slice ad m cap] 52)) 123 ⟨#[]⟩ (some ⟨W2.heap.size, 0, none⟩) 1 1
  rw [World.size_alloc] at hy4
  have hx4 := hX1.grown hA (by simp)
  have hA0 := World.grownBy_alloc W2 (.cells #[.int .u8 k, .string s, .slice ad m cap] 52) none
  have hv4 := (hv2.grown hA0 (by simp)).grown hA (by simp)
  have hA := grown_trans2 hA0 hA
  have hAr : W2.grownBy ((W2.alloc (.cells #[.int .u8 k, .string s, .slice ad m cap] 52)).alloc (.cells #[.int .u8 123, .string ⟨#[]⟩, .slice (some ⟨W2.heap.size, 0, none⟩) 1 1] 52)) (some rb) := grown_alloc (World.grownBy_alloc W2 _ (some rb)) _
  cases hrn : rd n r with
  | none =>
    rw [hrn] at hm HRD
    dsimp only at hm HRD
    obtain ⟨j, hj, hr2⟩ := hm
    have hr4 := hr2.grown hA (by simp)
    obtain ⟨d0, d1, d2, k1, k2⟩ := hr4.cells
    have hR5 := hr4.bad true
    have hv5 := hv4.grown hR5.2 (by simp; omega)
    have hx5 := hx4.grown hR5.2 (by simp; omega)
    have hy5 := hy4.grown hR5.2 (by simp; omega)
    have hK := setCell_grown (o := 2) hAr (.inl rfl) (.bool true)
    obtain ⟨x0, x1, x2, y0, y1, y2⟩ := hv5.cells
    obtain ⟨p0, p1, p2, _⟩ := hy5.cells
    go_wp2_with fail
    refine ret_node (set3_var hv5 _ _ _ _ _) rfl rfl ?_
    refine ⟨_, _, _, _, _, rfl, set3_grown (grown_trans2 hG2 hK) (Nat.le_refl _) _ _ _ _ _, ?_⟩
    rw [HRD.out]
    exact ⟨j, hj, set3_rdr hR5.1 (by omega) _ _ _ _ _⟩
  | some x =>
    obtain ⟨p, r1⟩ := x
    rw [hrn] at hm HRD
    dsimp only at hm HRD
    obtain ⟨j, hj, hjd, hr2, hnd⟩ := hm
    cases r1 with
    | nil =>
      dsimp only at HRD
      have hr4 := hr2.grown hA (by simp)
      obtain ⟨d0, d1, d2, k1, k2⟩ := hr4.cells
      go_wp2_with fail
      go_at_call 115
      refine (take1_nil ht hj hjd hr4).mono ?_
      rintro e W3 ⟨rfl, hr3, hg3⟩
      have hv3 := hv4.grown hg3 (by simp; omega)
      have hx3 := hx4.grown hg3 (by simp; omega)
      have hy3 := hy4.grown hg3 (by simp; omega)
      have hK3 := grown_trans2 hAr hg3
      obtain ⟨d0, d1, d2, k1, k2⟩ := hr3.cells
      have hR5 := hr3.bad true
      have hv5 := hv3.grown hR5.2 (by simp; omega)
      have hx5 := hx3.grown hR5.2 (by simp; omega)
      have hy5 := hy3.grown hR5.2 (by simp; omega)
      have hK := setCell_grown (o := 2) hK3 (.inl rfl) (.bool true)
      obtain ⟨x0, x1, x2, y0, y1, y2⟩ := hv5.cells
      obtain ⟨p0, p1, p2, _⟩ := hy5.cells
      go_wp2_with fail
      refine ret_node (set3_var hv5 _ _ _ _ _) rfl rfl ?_
      refine ⟨_, _, _, _, _, rfl, set3_grown (grown_trans2 hG2 hK) (Nat.le_refl _) _ _ _ _ _, ?_⟩
      rw [HRD.out]
      exact ⟨j, hj, set3_rdr hR5.1 (by omega) _ _ _ _ _⟩
    | cons e r2 =>
      dsimp only at HRD
      obtain ⟨_, hj2, hjd2⟩ := ext_cons hjd
      by_cases he : e = 125
      · subst he
        rw [if_pos rfl] at HRD
        have hr4 := hr2.grown hA (by simp)
        obtain ⟨d0, d1, d2, k1, k2⟩ := hr4.cells
        go_wp2_with fail
        go_at_call 115
        refine (take1 ht hjd hr4).mono ?_
        rintro e W3 ⟨rfl, hr3, hg3⟩
        have hv3 := hv4.grown hg3 (by simp; omega)
        have hx3 := hx4.grown hg3 (by simp; omega)
        have hy3 := hy4.grown hg3 (by simp; omega)
        have hK3 := grown_trans2 hAr hg3
        obtain ⟨d0, d1, d2, k1, k2⟩ := hr3.cells
        have hR5 := hr3.bad false
        have hv5 := hv3.grown hR5.2 (by simp; omega)
        have hx5 := hx3.grown hR5.2 (by simp; omega)
        have hy5 := hy3.grown hR5.2 (by simp; omega)
        have hK := setCell_grown (o := 2) hK3 (.inl rfl) (.bool false)
        obtain ⟨x0, x1, x2, y0, y1, y2⟩ := hv5.cells
        obtain ⟨p0, p1, p2, _⟩ := hy5.cells
        go_wp2_with fail
        refine ret_node (set3_var hv5 _ _ _ _ _) rfl rfl ?_
        refine ⟨_, _, _, _, _, rfl, set3_grown (grown_trans2 hG2 hK) (Nat.le_refl _) _ _ _ _ _, ?_⟩
        rw [HRD.out]
        have hsz := set3_size (W3.setCell ⟨rb, 2, none⟩ (.bool false)) W.heap.size 123 ⟨#[]⟩ (some ⟨W2.heap.size, 0, none⟩) 1 1
        unfold set3 at hsz
        have hsz2 : W2.heap.size < (W3.setCell ⟨rb, 2, none⟩ (.bool false)).heap.size := (Array.getElem?_eq_some_iff.1 hx5).1
        obtain ⟨z0, z1, z2, _⟩ := (show Var (set3 (W3.setCell ⟨rb, 2, none⟩ (.bool false)) W.heap.size 123 ⟨#[]⟩ (some ⟨W2.heap.size, 0, none⟩) 1 1) W2.heap.size k s ad m cap from by unfold Var at *; rw [set3_block (by omega)]; exact hx5).cells
        exact ⟨j + 1, hj2, hjd2, set3_rdr hR5.1 (by omega) _ _ _ _ _, rfl, rfl, rfl, _, rfl, by omega, by omega, k, s, ad, m, cap, z0, z1, z2, (hnd.same (same_of hK hrb1 (by omega) _ _ _ _ _)).wide (by omega) (by omega)⟩
      · rw [if_neg he] at HRD
        have hne1 : (e == 125) = false := by simpa using he
        have hne2 : (e != 125) = true := by simpa using he
        have hr4 := hr2.grown hA (by simp)
        obtain ⟨d0, d1, d2, k1, k2⟩ := hr4.cells
        go_wp2_with fail
        go_at_call 115
        refine (take1 ht hjd hr4).mono ?_
        rintro e W3 ⟨rfl, hr3, hg3⟩
        have hv3 := hv4.grown hg3 (by simp; omega)
        have hx3 := hx4.grown hg3 (by simp; omega)
        have hy3 := hy4.grown hg3 (by simp; omega)
        have hK3 := grown_trans2 hAr hg3
        obtain ⟨d0, d1, d2, k1, k2⟩ := hr3.cells
        have hR5 := hr3.bad true
        have hv5 := hv3.grown hR5.2 (by simp; omega)
        have hx5 := hx3.grown hR5.2 (by simp; omega)
        have hy5 := hy3.grown hR5.2 (by simp; omega)
        have hK := setCell_grown (o := 2) hK3 (.inl rfl) (.bool true)
        obtain ⟨x0, x1, x2, y0, y1, y2⟩ := hv5.cells
        obtain ⟨p0, p1, p2, _⟩ := hy5.cells
        go_wp2_with fail
        refine ret_node (set3_var hv5 _ _ _ _ _) rfl rfl ?_
        refine ⟨_, _, _, _, _, rfl, set3_grown (grown_trans2 hG2 hK) (Nat.le_refl _) _ _ _ _ _, ?_⟩
        rw [HRD.out]
        exact ⟨j + 1, hj2, set3_rdr hR5.1 (by omega) _ _ _ _ _⟩
end Go.Proofs.YtgkgkaapjljpcaaDoor

namespace Go.Proofs.YtgkgkaapjljpcaaDoor
open Go.ChangeShapes Go.WideShapes Go.ChangeAt Go.RowKit Go.Shelf
attribute [local go_sem] Oper.semAt_some
set_option maxRecDepth 100000

theorem ret_part {Z : World} {a : Act} {k : Int} {s : ByteArray} {ad : Option Addr} {m cap g : Nat} {R : Ending → World → Prop} (hv : Var Z g k s ad m cap) (ha : a.tmps[2]?.getD undef = .pointer (some ⟨g, 0, none⟩)) (hdf : a.defers = [])
    (h : R (.returned (.agg #[.int .u8 k, .string s, .slice ad m cap])) Z) : bodyPost Tryd.prog Tryd.f60 R Exit.ret a Z := by
  obtain ⟨c0, c1, c2, _⟩ := hv.cells
  refine bodyPost_ret (v := .agg #[.int .u8 k, .string s, .slice ad m cap]) ?_ hdf h
  simp [results, Tryd.results60, go_sem, ha, c0, c1, c2]

set_option maxHeartbeats 1000000 in
theorem part_bad (t : ByteArray) (rb i : Nat) (W : World) (hr : Rdr W rb t i true) :
    Calls Tryd.prog 60 #[.pointer (some ⟨rb, 0, none⟩)] W fun e W' => (∃ k s ad m cap, e = .returned (.agg #[.int .u8 k, .string s, .slice ad m cap])) ∧ Rdr W' rb t i true ∧ W.grownBy W' (some rb) := by
  have hlt := hr.lt
  have hA := World.grownBy_alloc W (.cells #[.int .u8 0, .string ⟨#[]⟩, .slice none 0 0] 52) none
  have hra := hr.grown hA (by simp)
  have hva := Var.new W 0 ⟨#[]⟩ none 0 0
  obtain ⟨c0, c1, c2, f1, f2⟩ := hra.cells
  obtain ⟨x0, x1, x2, y0, y1, y2⟩ := hva.cells
  go_enter Tryd.func60, Tryd.ntmps60
  go_wp2_with fail
  refine ret_part hva rfl rfl ?_
  exact ⟨⟨_, _, _, _, _, rfl⟩, hra, World.grownBy_alloc W _ _⟩

set_option maxHeartbeats 1000000 in
theorem part_read (t : ByteArray) (rb n i : Nat) (IH : Reads t rb n) (W : World) (hi : i ≤ t.size) (hn : (t.toList.drop i).length ≤ n) (hr : Rdr W rb t i false) :
    Calls Tryd.prog 60 #[.pointer (some ⟨rb, 0, none⟩)] W (ReadTo t rb n i W) := by
  have hlt := hr.lt
  have hA := World.grownBy_alloc W (.cells #[.int .u8 0, .string ⟨#[]⟩, .slice none 0 0] 52) none
  have hra := hr.grown hA (by simp)
  obtain ⟨c0, c1, c2, f1, f2⟩ := hra.cells
  go_enter Tryd.func60, Tryd.ntmps60
  go_wp2_with fail
  go_at_call 91
  refine (IH i _ hi hn hra).mono ?_
  rintro e W1 ⟨k, s, ad, m, cap, rfl, hg1, hm⟩
  have hva := (Var.new W 0 ⟨#[]⟩ none 0 0).grown hg1 (by simp; omega)
  obtain ⟨x0, x1, x2, y0, y1, y2⟩ := hva.cells
  have hG := grown_trans2 (World.grownBy_alloc W _ (some rb)) hg1
  have s1 := hg1.size
  have sa : (W.alloc (.cells #[.int .u8 0, .string ⟨#[]⟩, .slice none 0 0] 52)).heap.size = W.heap.size + 1 := by simp
  go_wp2_with fail
  refine ret_part (set3_var hva _ _ _ _ _) rfl rfl ?_
  refine ⟨_, _, _, _, _, rfl, set3_grown hG (Nat.le_refl _) _ _ _ _ _, ?_⟩
  cases hrn : rd n (t.toList.drop i) with
  | none =>
    rw [hrn] at hm
    obtain ⟨j, hj, h2⟩ := hm
    exact ⟨j, hj, set3_rdr h2 (by omega) _ _ _ _ _⟩
  | some x =>
    rw [hrn] at hm
    obtain ⟨j, hj, hjd, h2, hnd⟩ := hm
    have hsz := set3_size W1 W.heap.size k s ad m cap
    unfold set3 at hsz
    exact ⟨j, hj, hjd, set3_rdr h2 (by omega) _ _ _ _ _, (hnd.same (same_of (grown_refl W1 (some rb)) (by omega) (by omega) _ _ _ _ _)).wide (by omega) (by omega)⟩
end Go.Proofs.YtgkgkaapjljpcaaDoor

