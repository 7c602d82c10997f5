/- Triples and lines that lie in slices: where they stand, and an argument opened. -/
import Derived.Test.YtgdgbjnmibkmhaaGreatDoorL5
import Derived.Test.YtgdgbjnmibkmhaaGreatDoorLA
import Derived.Deep.Slices
import Derived.ChangeSame
namespace Go.Proofs.YtgdgbjnmibkmhaaGreatDoor
open Go.ChangeShapes Go.WideShapes Go.ChangeAt Go.RowKit Go.Deep
set_option maxRecDepth 100000

instance : Inhabited Trip := ⟨zeroT⟩
instance : Inhabited LineD := ⟨⟨zeroT, ⟨#[]⟩, []⟩⟩
section
variable {H : Type} {enc : TypeId × Value → H} {W : World} {base : Nat} {sp : Nat → Bool} {held : Bool}
theorem trip_of {n : Nat} {cs : List Value} {x : DataW H × List MemPlace} (h : DataW.trod enc Tryz.prog W base sp held n 23 cs = some x) :
    ∃ T : Trip, cs = [.int .i64 T.b, .string T.p, .int .i64 T.x, .int .i64 T.r] ∧ T.p.size ≤ maxLen := by
  obtain ⟨ys, m, _, _, hlen, _, hg⟩ := DataW.trod_struct Tryz.underlying23 h
  rw [show Tryz.prog.cellsOf 23 = 4 by kernel_rfl] at hlen
  match cs, hlen with
  | [c0, c1, c2, c3], _ =>
    have ci : Tryz.prog.cellsOf 3 = 1 := by kernel_rfl
    have cs : Tryz.prog.cellsOf 9 = 1 := by kernel_rfl
    have h0 := hg 0 _ rfl
    have h1 := hg 1 _ rfl
    have h2 := hg 2 _ rfl
    have h3 := hg 3 _ rfl
    simp [ci, cs] at h0 h1 h2 h3
    have g : ∀ i, i < 4 → ∃ y, ys[i]? = some y := fun i hi => ⟨ys[i]'(by simp_all), List.getElem?_eq_getElem _⟩
    obtain ⟨y0, e0⟩ := g 0 (by omega)
    obtain ⟨y1, e1⟩ := g 1 (by omega)
    obtain ⟨y2, e2⟩ := g 2 (by omega)
    obtain ⟨y3, e3⟩ := g 3 (by omega)
    rw [e0] at h0
    rw [e1] at h1
    rw [e2] at h2
    rw [e3] at h3
    obtain ⟨b, e0, _, _⟩ := DataW.trod_int Tryz.underlying3 h0
    obtain ⟨t, e1, _, w1⟩ := DataW.trod_string Tryz.underlying9 h1
    obtain ⟨x, e2, _, _⟩ := DataW.trod_int Tryz.underlying3 h2
    obtain ⟨r, e3, _, _⟩ := DataW.trod_int Tryz.underlying3 h3
    refine ⟨⟨b, t, x, r⟩, ?_, w1⟩
    simp_all
end

/-! ### Opened -/
section
variable {H : Type} {enc : TypeId × Value → H} {W : World} {base : Nat} {held : Bool}
theorem ints_of {n : Nat} {cs : List Value} {x : DataW H × List MemPlace} (h : DataW.trod enc Tryz.prog W base (fun _ => true) held n 24 cs = some x) : ∃ v zs, cs = [v] ∧ IntsAt W v zs := by
  rcases open_ints Tryz.underlying24 Tryz.underlying3 (by kernel_rfl) h with ⟨hcs, _⟩ | ⟨a, l, c, zs, hcs, _, hl, hm, hz, _, hcell, _⟩
  · exact ⟨_, [], hcs, none, 0, rfl, Nat.le_refl _, Nat.zero_le _, .inl rfl⟩
  · have hz' : zs.length = c := by simpa using hz
    refine ⟨_, zs.take l, hcs, some a, c, by rw [List.length_take, Nat.min_eq_left (by omega)], by rw [List.length_take]; omega, hm, ?_⟩
    by_cases h0 : zs.take l = []
    · exact .inl h0
    · have hp : 0 < zs.length := by
        cases zs with
        | nil => simp at h0
        | cons _ _ => simp
      obtain ⟨b, off, rfl, hc⟩ := ints_at hcell hp
      refine .inr ⟨b, off, rfl, fun j z hj => ?_⟩
      have hjl : j < (zs.take l).length := (List.getElem?_eq_some_iff.1 hj).1
      rw [List.length_take] at hjl
      rw [hc j (by omega)]
      rw [List.getElem?_take] at hj
      split at hj
      · rw [List.getD_eq_getElem?_getD, hj]; rfl
      · cases hj
theorem line_of {n : Nat} {cs : List Value} {x : DataW H × List MemPlace} (h : DataW.trod enc Tryz.prog W base (fun _ => true) held n 26 cs = some x) :
    ∃ (l : LineD) (v : Value), cs = [.int .i64 l.t.b, .string l.t.p, .int .i64 l.t.x, .int .i64 l.t.r, .string l.rule, v] ∧ IntsAt W v l.refs ∧ l.t.p.size ≤ maxLen ∧ l.rule.size ≤ maxLen := by
  obtain ⟨ys, m, _, _, hlen, _, hg⟩ := DataW.trod_struct Tryz.underlying26 h
  rw [show Tryz.prog.cellsOf 26 = 6 by kernel_rfl] at hlen
  match cs, hlen with
  | [c0, c1, c2, c3, c4, c5], _ =>
    have ct : Tryz.prog.cellsOf 23 = 4 := by kernel_rfl
    have ci : Tryz.prog.cellsOf 24 = 1 := by kernel_rfl
    have cs : Tryz.prog.cellsOf 9 = 1 := by kernel_rfl
    have h0 := hg 0 _ rfl
    have h1 := hg 1 _ rfl
    have h2 := hg 2 _ rfl
    simp [ct, ci, cs] at h0 h1 h2
    have g : ∀ i, i < 3 → ∃ y, ys[i]? = some y := fun i hi => ⟨ys[i]'(by simp_all), List.getElem?_eq_getElem _⟩
    obtain ⟨y0, e0⟩ := g 0 (by omega)
    obtain ⟨y1, e1⟩ := g 1 (by omega)
    obtain ⟨y2, e2⟩ := g 2 (by omega)
    rw [e0] at h0
    rw [e1] at h1
    rw [e2] at h2
    obtain ⟨T, e0, w0⟩ := trip_of h0
    obtain ⟨t, e1, _, w1⟩ := DataW.trod_string Tryz.underlying9 h1
    obtain ⟨v, zs, e2, hI⟩ := ints_of h2
    refine ⟨⟨T, t, zs⟩, v, ?_, hI, w0, w1⟩
    simp_all
theorem add_two (b off i j : Nat) : ((⟨b, off, none⟩ : Addr).add i).add j = ⟨b, off + i + j, none⟩ := by
  rw [Go.WideShapes.add_plain, Go.WideShapes.add_plain]
theorem open_trips {rr : Reach} {b0 : Nat} {v : Value} {d : DataW H} {q : List MemPlace} (hv : Value.okWide Tryz.prog W rr b0 27 v) (h : DataW.Trod enc Tryz.prog W base (fun _ => true) held 27 v d q) :
    ∃ ts, TripsAt W v ts ∧ ∀ T ∈ ts, T.p.size ≤ maxLen := by
  obtain ⟨a0, len0, cap0, rfl⟩ := okWide_slice Tryz.underlying27 hv
  obtain ⟨fuel, hf⟩ := h
  have hc4 : Tryz.prog.cellsOf 23 = 4 := by kernel_rfl
  rcases open_slice Tryz.underlying27 hf with ⟨hcs, _⟩ | ⟨a, len, cap, m, n, D, Pl, hcs, _, hl, hm, hmm, _, hi⟩
  · simp [Value.cells] at hcs
    obtain ⟨rfl, rfl, rfl⟩ := hcs
    exact ⟨[], ⟨none, 0, rfl, Nat.le_refl _, Nat.zero_le _, .inl rfl⟩, by simp⟩
  · simp [Value.cells] at hcs
    obtain ⟨rfl, rfl, rfl⟩ := hcs
    simp only [if_true] at hmm
    subst hmm
    rw [hc4] at hi
    have each : ∀ i, i < len0 → ∃ T : Trip, W.cells? base (a.add (i * 4)) 4 = some [.int .i64 T.b, .string T.p, .int .i64 T.x, .int .i64 T.r] ∧ T.p.size ≤ maxLen := fun i hil => by
      obtain ⟨cs', h1, h2⟩ := hi i (by omega)
      obtain ⟨T, rfl, hT⟩ := trip_of h2
      exact ⟨T, h1, hT⟩
    obtain ⟨F, hF⟩ := choose_lt each
    refine ⟨(List.range len0).map F, ⟨some a, m, by simp, by simpa using hl, hm, ?_⟩, fun T hT => ?_⟩
    · by_cases h0 : len0 = 0
      · exact .inl (by rw [h0]; rfl)
      · obtain ⟨b, off, spot⟩ := a
        have hs : spot = none := by
          obtain ⟨_, _, hat⟩ := World.cells?_some (hF 0 (by omega)).1
          have := hat 0 (by omega)
          simpa [Addr.add] using World.cell?_spot (this.trans rfl)
        subst hs
        refine .inr ⟨b, off, rfl, fun j T hT => ?_⟩
        rw [List.getElem?_map] at hT
        have hj : j < len0 := by
          by_cases hj : j < len0
          · exact hj
          · rw [List.getElem?_eq_none (by simpa using hj)] at hT; cases hT
        rw [List.getElem?_range hj] at hT
        cases hT
        obtain ⟨_, _, hat⟩ := World.cells?_some (hF j hj).1
        have g := fun i (hi : i < 4) => (add_two b off (j * 4) i) ▸ hat i hi
        exact ⟨g 0 (by omega), g 1 (by omega), g 2 (by omega), g 3 (by omega)⟩
    · obtain ⟨i, hi2, rfl⟩ := List.mem_map.1 hT
      exact (hF i (List.mem_range.1 hi2)).2
theorem open_line {rr : Reach} {b0 : Nat} {v : Value} {d : DataW H} {q : List MemPlace} (hv : Value.okWide Tryz.prog W rr b0 26 v) (h : DataW.Trod enc Tryz.prog W base (fun _ => true) held 26 v d q) :
    ∃ (l : LineD) (u : Value), v = .agg #[.int .i64 l.t.b, .string l.t.p, .int .i64 l.t.x, .int .i64 l.t.r, .string l.rule, u] ∧ IntsAt W u l.refs ∧ l.t.p.size ≤ maxLen ∧ l.rule.size ≤ maxLen := by
  obtain ⟨cs, rfl, _⟩ := okWide_struct Tryz.underlying26 hv
  obtain ⟨fuel, hf⟩ := h
  obtain ⟨l, u, hcs, h1, h2, h3⟩ := line_of hf
  refine ⟨l, u, ?_, h1, h2, h3⟩
  have e : cs.toList = _ := hcs
  rw [← Array.toArray_toList (xs := cs), e]
theorem open_lines {rr : Reach} {b0 : Nat} {v : Value} {d : DataW H} {q : List MemPlace} (hv : Value.okWide Tryz.prog W rr b0 40 v) (h : DataW.Trod enc Tryz.prog W base (fun _ => true) held 40 v d q) :
    ∃ ls, LinesAt W v ls ∧ ∀ l ∈ ls, l.t.p.size ≤ maxLen ∧ l.rule.size ≤ maxLen := by
  obtain ⟨a0, len0, cap0, rfl⟩ := okWide_slice Tryz.underlying40 hv
  obtain ⟨fuel, hf⟩ := h
  have hc4 : Tryz.prog.cellsOf 26 = 6 := by kernel_rfl
  rcases open_slice Tryz.underlying40 hf with ⟨hcs, _⟩ | ⟨a, len, cap, m, n, D, Pl, hcs, _, hl, hm, hmm, _, hi⟩
  · simp [Value.cells] at hcs
    obtain ⟨rfl, rfl, rfl⟩ := hcs
    exact ⟨[], ⟨none, 0, rfl, Nat.le_refl _, Nat.zero_le _, .inl rfl⟩, by simp⟩
  · simp [Value.cells] at hcs
    obtain ⟨rfl, rfl, rfl⟩ := hcs
    simp only [if_true] at hmm
    subst hmm
    rw [hc4] at hi
    have each : ∀ i, i < len0 → ∃ lv : LineD × Value, W.cells? base (a.add (i * 6)) 6 = some [.int .i64 lv.1.t.b, .string lv.1.t.p, .int .i64 lv.1.t.x, .int .i64 lv.1.t.r, .string lv.1.rule, lv.2] ∧ IntsAt W lv.2 lv.1.refs ∧ lv.1.t.p.size ≤ maxLen ∧ lv.1.rule.size ≤ maxLen := fun i hil => by
      obtain ⟨cs', h1, h2⟩ := hi i (by omega)
      obtain ⟨l, v, rfl, h3, h4, h5⟩ := line_of h2
      exact ⟨(l, v), h1, h3, h4, h5⟩
    obtain ⟨F, hF⟩ := choose_lt each
    refine ⟨(List.range len0).map fun i => (F i).1, ⟨some a, m, by simp, by simpa using hl, hm, ?_⟩, fun l hT => ?_⟩
    · by_cases h0 : len0 = 0
      · exact .inl (by rw [h0]; rfl)
      · obtain ⟨b, off, spot⟩ := a
        have hs : spot = none := by
          obtain ⟨_, _, hat⟩ := World.cells?_some (hF 0 (by omega)).1
          have := hat 0 (by omega)
          simpa [Addr.add] using World.cell?_spot (this.trans rfl)
        subst hs
        refine .inr ⟨b, off, rfl, fun j T hT => ?_⟩
        rw [List.getElem?_map] at hT
        have hj : j < len0 := by
          by_cases hj : j < len0
          · exact hj
          · rw [List.getElem?_eq_none (by simpa using hj)] at hT; cases hT
        rw [List.getElem?_range hj] at hT
        cases hT
        obtain ⟨hc, hI, _, _⟩ := hF j hj
        obtain ⟨_, _, hat⟩ := World.cells?_some hc
        have g := fun i (hi : i < 6) => (add_two b off (j * 6) i) ▸ hat i hi
        exact ⟨⟨g 0 (by omega), g 1 (by omega), g 2 (by omega), g 3 (by omega)⟩, g 4 (by omega), (F j).2, g 5 (by omega), hI⟩
    · obtain ⟨i, hi2, rfl⟩ := List.mem_map.1 hT
      exact (hF i (List.mem_range.1 hi2)).2.2
end
end Go.Proofs.YtgdgbjnmibkmhaaGreatDoor
