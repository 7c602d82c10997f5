/- Proved: at every input the law FnReachedIn of the program returns true and writes nothing that was there; the package's three tables and its error are as the program's text lays them, which the card ties. -/
import Derived.Test.YtnejphdbnfdbhaaGreatDoorYg
import Derived.Test.YtnejphdbnfdbhaaGreatDoorL3
import Derived.Test.YtnejphdbnfdbhaaGreatDoorTie
import Derived.Test.YtnejphdbnfdbhaaGreatDoorCards
import Derived.ProofKit
import Derived.LaidMore
import Derived.OpenShut
import Derived.ShutString
import Derived.Stop.Joined
import Derived.Stop.LaidErr
import Derived.Lay
import Derived.LaidOnce
import Derived.SevenTiedAt
namespace Go.Proofs.YtnejphdbnfdbhaaGreatDoor
namespace fnReachedIn
open Go.ChangeShapes Go.WideShapes Go.ChangeAt Go.RowKit
open Go.ChangeMaps (open_string shut_string)

set_option maxRecDepth 100000 in
theorem lifted (os : Os) (started : os.Started) (H : Type) (enc : TypeId × Value → H) :
    ReturnsInHanded {} Tryz.checked os 3 .any (fun w args => (Rows.fnReachedInSpec.pre enc Tryz.prog Tryz.f3 [] false w args ∧ laidMetH Tryz.prog laidV w) ∧ sizedMet enc Tryz.prog Tryz.f3 (OpenSpec.ofChange Rows.fnReachedInSpec) false w args)
      (Rows.fnReachedInSpec.post enc Tryz.prog Tryz.f3 false true false false) := by
  refine returnsInHanded_of_change_and (C := Tryz.checked) (X := fun w _ => laidMetH Tryz.prog laidV w) (fun _ _ _ hh h => h.of_heap hh) own started (by kernel_rfl) Tryz.func3
    (ChangeSpec.witness_shaped (enc := enc) (C := Tryz.checked) (os := os) (X := fun w _ => laidMetH Tryz.prog laidV w) false (World.laidAll Tryz.prog os laidV) #[.slice none 0 0] 8 (World.laidAll_os _ _ _)
      (World.shaped_of_ZipB (by kernel_rfl) (by kernel_rfl)) (by kernel_rfl) (by kernel_rfl) (by kernel_rfl)
      (by rw [MakeChecks.laidMetH_plain _ _ _ (by kernel_rfl)]; exact laidMet_laidAll _ (by kernel_rfl) (by kernel_rfl))) ?_
  intro W base args ds gs before hval0 hW _ _ hL _
  have hval : ∀ (j : Nat) t v, Tryz.f3.params[j]? = some t → args[j]? = some v → Value.okWide Tryz.prog W .any base t v := hval0
  have hW' := hW
  obtain ⟨p, q, hA0, hV0, rfl, _, _⟩ := hW
  have hA : DataW.TrodAll enc Tryz.prog W 0 (fun _ => true) true Tryz.f3.params.toList args.toList ds p := hA0
  have hV : DataW.TrodVars enc Tryz.prog W (fun _ => true) ["loop.example/surelywrong/impl.errNoProgram", "loop.example/surelywrong/impl.assignments", "loop.example/surelywrong/impl.comparedVariables", "loop.example/surelywrong/impl.comparedWithNumbers"] gs q := hV0
  rw [Tryz.params3] at hA hval
  obtain ⟨v0, d0, rfl, rfl, h0⟩ := trodAll_one hA
  obtain ⟨a0, len0, cap0, rfl⟩ := okWide_slice Tryz.underlying22 (hval 0 22 v0 rfl rfl)
  have k0 := h0
  have lt0 : ∀ x ∈ p, x.block < W.heap.size := by obtain ⟨m, hm⟩ := k0; exact DataW.trod_lt m _ _ _ hm
  obtain ⟨z0, w0⟩ : ∃ zs, IsRow .u8 W a0 len0 cap0 zs := by
    obtain ⟨fuel, hf⟩ := h0
    rcases open_ints Tryz.underlying22 Tryz.underlying5 (by kernel_rfl) hf with ⟨hcs, _⟩ | ⟨x, l, c, zs, hcs, _, hl, hm, hz, _, hcell, hwz⟩
    · simp [Value.cells] at hcs
      obtain ⟨rfl, rfl, rfl⟩ := hcs
      exact ⟨[], .inl ⟨rfl, rfl, rfl, rfl⟩⟩
    · simp [Value.cells] at hcs
      obtain ⟨rfl, rfl, rfl⟩ := hcs
      exact ⟨zs, .inr ⟨_, rfl, hl, hm, by simpa using hz, hcell, hwz⟩⟩
  rw [MakeChecks.laidMetH_plain _ _ _ (by kernel_rfl)] at hL
  have hLd := of_laid hL
  obtain ⟨g0, g1, g2, g3, rfl⟩ := trodVars_len4 hV
  clear hA0 hval0 hV0
  refine (walkFnReachedIn a0 len0 cap0 z0 W w0 hLd).mono fun e W' ⟨he, bel⟩ => ?_
  subst he
  exact ⟨_, rfl, _, _, _, [], _, _, hW', trodAll_mk1 (shut_bool Tryz.underlying4 _), trodAll_mk1 (Below.trod laidOut (by kernel_rfl) (of_decide_eq_true (by kernel_rfl)) k0 bel lt0),
    Below.trodVars laidOut bel (by kernel_rfl) hV, bel.frame _, fun h => by cases h⟩

theorem piece0 : (Rows.fnReachedInRow.wf (OpenSpec.ofChange Rows.fnReachedInSpec)) = true := by kernel_rfl
theorem piece1 : (laidOutB Tryz.pinned.checked.prog) = true := by kernel_rfl
theorem piece2 : (mapsRowed Tryz.pinned.checked.prog) = true := by kernel_rfl
theorem piece3 : (Tryz.f3.params.all (Tryz.pinned.checked.prog.readableRec ·)) = true := by kernel_rfl
theorem piece4 : (namedTie Tryz.pinned.checked.prog Rows.fnReachedInRow.named Rows.fnReachedInSpec.vars) = true := by kernel_rfl
theorem piece5 : ((Rows.fnReachedInRow.stops == [])) = true := by kernel_rfl
theorem piece6 : ((Tryz.pinned.checked.prog.stops == [])) = true := by kernel_rfl
theorem piece7 : ((Rows.fnReachedInRow.knobs == [])) = true := by kernel_rfl
theorem piece8 : ((Tryz.pinned.checked.prog.stopKnobs == [])) = true := by kernel_rfl
theorem piece9 : ((Rows.fnReachedInRow.inPlace == Tryz.pinned.checked.prog.inPlace 3)) = true := by kernel_rfl
theorem piece10 : ((Rows.fnReachedInRow.unfollowed == Tryz.pinned.checked.prog.unfollowed 3)) = true := by kernel_rfl
theorem piece11 : ((Rows.fnReachedInRow.recurses == Tryz.pinned.checked.prog.recurses 3)) = true := by kernel_rfl
theorem piece12 : ((Rows.fnReachedInRow.named == Tryz.pinned.checked.prog.varsNamed 3)) = true := by kernel_rfl
theorem piece13 : ((Rows.fnReachedInRow.maps == (Tryz.f3.params.toList ++ Rows.fnReachedInSpec.plain.varTypes Tryz.pinned.checked.prog).any (Tryz.pinned.checked.prog.mapsRec ·))) = true := by kernel_rfl
theorem piece14 : ((Rows.fnReachedInRow.ifaces == (Tryz.f3.params.toList ++ Rows.fnReachedInSpec.plain.varTypes Tryz.pinned.checked.prog).any (Tryz.pinned.checked.prog.ifacesRec ·))) = true := by kernel_rfl
theorem piece15 : ((Rows.fnReachedInRow.mapsOut == Tryz.pinned.checked.prog.mapsAmong Tryz.f3.resultTypes.toList)) = true := by kernel_rfl
theorem piece16 : ((Rows.fnReachedInRow.loops == (Tryz.f3.params.toList ++ Rows.fnReachedInSpec.plain.varTypes Tryz.pinned.checked.prog).any (Tryz.pinned.checked.prog.loopsFrom ·))) = true := by kernel_rfl
theorem piece17 : ((Rows.fnReachedInRow.wideKeys == (Tryz.f3.params.toList ++ Rows.fnReachedInSpec.plain.varTypes Tryz.pinned.checked.prog ++ Tryz.f3.resultTypes.toList).any (Tryz.pinned.checked.prog.wideKeysFrom ·))) = true := by kernel_rfl
theorem piece18 : (Rows.fnReachedInSpec.vars.all (Tryz.pinned.checked.prog.varReadable ·)) = true := by kernel_rfl
theorem piece19 : (Tryz.f3.resultTypes.all (fun t => Tryz.pinned.checked.prog.readableRec t && decide (t < Tryz.pinned.checked.prog.types.size))) = true := by kernel_rfl
theorem piece20 : ((Rows.fnReachedInRow.ifacesOut == Tryz.f3.resultTypes.toList.any (Tryz.pinned.checked.prog.ifacesRec ·))) = true := by kernel_rfl
theorem piece21 : ((Rows.fnReachedInRow.loopsOut == Tryz.f3.resultTypes.toList.any (Tryz.pinned.checked.prog.loopsFrom ·))) = true := by kernel_rfl
theorem piece22 : ((Rows.fnReachedInRow.plainKeys == Tryz.pinned.checked.prog.plainKeys)) = true := by kernel_rfl
theorem piece23 : (Rows.fnReachedInRow.shortTexts.isNone) = true := by kernel_rfl
theorem piece24 : (Tryz.pinned.checked.prog.stopsHeard) = true := by kernel_rfl
theorem piece25 : (Tryz.pinned.checked.prog.mayEnter) = true := by kernel_rfl
theorem piece26 : ((Rows.fnReachedInRow.lifted == Tryz.pinned.checked.prog.liftsFinal)) = true := by kernel_rfl
theorem piece27 : ((Tryz.pinned.checked.prog.make == some Rows.fnReachedInRow.make)) = true := by kernel_rfl
theorem piece28 : ((Rows.fnReachedInRow.kinds == (if Rows.fnReachedInRow.domain.isEmpty then [] else Tryz.f3.params.toList.map fun t => match Tryz.pinned.checked.prog.underlying t with | some (.int k) => some k | _ => none))) = true := by kernel_rfl
theorem piece29 : ((Rows.fnReachedInRow.pinned == Rows.fnReachedInRow.pinnedBy)) = true := by kernel_rfl
theorem piece30 : ((Rows.fnReachedInRow.veiled == (Tryz.f3.params.toList ++ Rows.fnReachedInSpec.plain.varTypes Tryz.pinned.checked.prog ++ Tryz.f3.resultTypes.toList).any (Tryz.pinned.checked.prog.veiledRec ·))) = true := by kernel_rfl
theorem piece31 : (Rows.fnReachedInRow.veiledFits Tryz.pinned.checked.prog Tryz.f3.params.toList (Tryz.f3.params.toList ++ Rows.fnReachedInSpec.plain.varTypes Tryz.pinned.checked.prog ++ Tryz.f3.resultTypes.toList)) = true := by kernel_rfl
set_option maxRecDepth 100000 in
theorem joined : joinedFacts Tryz.pinned.checked.prog 3 Tryz.f3 Rows.fnReachedInSpec Rows.fnReachedInRow = true :=
  Bool.and_eq_true_iff.2 ⟨Bool.and_eq_true_iff.2 ⟨Bool.and_eq_true_iff.2 ⟨Bool.and_eq_true_iff.2 ⟨Bool.and_eq_true_iff.2 ⟨Bool.and_eq_true_iff.2 ⟨Bool.and_eq_true_iff.2 ⟨Bool.and_eq_true_iff.2 ⟨Bool.and_eq_true_iff.2 ⟨Bool.and_eq_true_iff.2 ⟨Bool.and_eq_true_iff.2 ⟨Bool.and_eq_true_iff.2 ⟨Bool.and_eq_true_iff.2 ⟨Bool.and_eq_true_iff.2 ⟨Bool.and_eq_true_iff.2 ⟨Bool.and_eq_true_iff.2 ⟨Bool.and_eq_true_iff.2 ⟨Bool.and_eq_true_iff.2 ⟨Bool.and_eq_true_iff.2 ⟨Bool.and_eq_true_iff.2 ⟨Bool.and_eq_true_iff.2 ⟨Bool.and_eq_true_iff.2 ⟨Bool.and_eq_true_iff.2 ⟨Bool.and_eq_true_iff.2 ⟨Bool.and_eq_true_iff.2 ⟨Bool.and_eq_true_iff.2 ⟨Bool.and_eq_true_iff.2 ⟨Bool.and_eq_true_iff.2 ⟨Bool.and_eq_true_iff.2 ⟨Bool.and_eq_true_iff.2 ⟨Bool.and_eq_true_iff.2 ⟨piece0, piece1⟩, piece2⟩, piece3⟩, piece4⟩, piece5⟩, piece6⟩, piece7⟩, piece8⟩, piece9⟩, piece10⟩, piece11⟩, piece12⟩, piece13⟩, piece14⟩, piece15⟩, piece16⟩, piece17⟩, piece18⟩, piece19⟩, piece20⟩, piece21⟩, piece22⟩, piece23⟩, piece24⟩, piece25⟩, piece26⟩, piece27⟩, piece28⟩, piece29⟩, piece30⟩, piece31⟩
theorem named : Tryz.pinned.checked.prog.funcNamed Rows.fnReachedInRow.func = some 3 := by kernel_rfl
theorem fact1 : OpenClaim.wfByText (OpenSpec.ofChange Rows.fnReachedInSpec) Rows.fnReachedInRow = true := by kernel_rfl
theorem fact2 : Tryz.pinned.checked.prog.mainIs = some (true, "3b59d618f81917da5647bb8ac49256e04bb42719d9d9f6cfa35c889b60035755".toList) := by kernel_rfl
theorem fact3 : true = Tryz.pinned.checked.prog.looks [] := by kernel_rfl
theorem fact4 : Tryz.prog.funcNamed "loop.example/surelywrong/laws.FnReachedIn" = some 3 := by kernel_rfl
theorem fact5 : (([22] : List TypeId).all fun u => !Tryz.prog.wantsStandIn u) = true := by kernel_rfl
theorem fact6 : true = OpenClaim.goesBy Rows.fnReachedInRow Tryz.pinned.checked.prog := by kernel_rfl

theorem over : Rows.FnReachedInSaid :=
  OpenClaim.holds_of_wide_leaving 3 Tryz.f3 rfl rfl rfl rfl rfl rfl rfl ⟨rfl, rfl, rfl, rfl, rfl⟩ rfl rfl rfl rfl rfl named Tryz.func3 joined
    (of_decide_eq_true (by kernel_rfl)) (by unfold Func.isWrapper; first | (rw [if_pos (by decide +kernel)]; kernel_rfl) | (rw [if_neg (by decide +kernel)]; exact ⟨rfl, rfl⟩))
    (fun os started H enc _ => leaving_of_alone (lifted os started H enc))
end fnReachedIn

/-- The statement. -/
theorem fnReachedInHolds : Rows.FnReachedInCardSaid :=
  tied_goes [.data, .widerDeep, .sentinel, .widerDeep] "3b59d618f81917da5647bb8ac49256e04bb42719d9d9f6cfa35c889b60035755" true fnReachedIn.over fnReachedIn.fact1 fnReachedIn_row_tie rfl ⟨rfl, rfl⟩ fnReachedIn.fact2
    (fun f fn hf hfn => by
      obtain rfl : f = 3 := Option.some.inj (fnReachedIn.fact4.symm.trans hf) |>.symm
      obtain rfl : fn = Tryz.f3 := (Option.some.inj (Tryz.func3.symm.trans hfn)).symm
      exact ⟨fnReachedIn.fact3, fun j t ht => by
        rw [Tryz.params3] at ht
        have hm : t ∈ ([22] : List TypeId) := by simpa using Array.mem_of_getElem? ht
        have hall : (([22] : List TypeId).all fun u => !Tryz.prog.wantsStandIn u) = true := fnReachedIn.fact5
        exact (show Tryz.prog.wantsStandIn t = false by simpa using List.all_eq_true.1 hall t hm)⟩)
    fnReachedIn.fact6
end Go.Proofs.YtnejphdbnfdbhaaGreatDoor
