/- Proved: at every input the law FnUnroll of the program returns true and writes nothing that was there; the package's three tables and its error are as the program's text lays them, which the card ties. -/
import Derived.Test.YtnejphdbnfdbhaaGreatDoorYq
import Derived.Test.YtnejphdbnfdbhaaGreatDoorL3
import Derived.Test.YtnejphdbnfdbhaaGreatDoorTie
import Derived.Test.YtnejphdbnfdbhaaGreatDoorCards
import Derived.ProofKit
import Derived.LaidMore
import Derived.OpenShut
import Derived.ShutString
import Derived.Stop.Joined
import Derived.Stop.LaidErr
import Derived.Lay
import Derived.LaidOnce
import Derived.SevenTiedAt
namespace Go.Proofs.YtnejphdbnfdbhaaGreatDoor
namespace fnUnroll
open Go.ChangeShapes Go.WideShapes Go.ChangeAt Go.RowKit
open Go.ChangeMaps (open_string shut_string)

set_option maxRecDepth 100000 in
theorem lifted (os : Os) (started : os.Started) (H : Type) (enc : TypeId × Value → H) :
    ReturnsInHanded {} Tryz.checked os 4 .any (fun w args => (Rows.fnUnrollSpec.pre enc Tryz.prog Tryz.f4 [] false w args ∧ laidMetH Tryz.prog laidV w) ∧ sizedMet enc Tryz.prog Tryz.f4 (OpenSpec.ofChange Rows.fnUnrollSpec) false w args)
      (Rows.fnUnrollSpec.post enc Tryz.prog Tryz.f4 false true false false) := by
  refine returnsInHanded_of_change_and (C := Tryz.checked) (X := fun w _ => laidMetH Tryz.prog laidV w) (fun _ _ _ hh h => h.of_heap hh) own started (by kernel_rfl) Tryz.func4
    (ChangeSpec.witness_shaped (enc := enc) (C := Tryz.checked) (os := os) (X := fun w _ => laidMetH Tryz.prog laidV w) false (World.laidAll Tryz.prog os laidV) #[.slice none 0 0] 8 (World.laidAll_os _ _ _)
      (World.shaped_of_ZipB (by kernel_rfl) (by kernel_rfl)) (by kernel_rfl) (by kernel_rfl) (by kernel_rfl)
      (by rw [MakeChecks.laidMetH_plain _ _ _ (by kernel_rfl)]; exact laidMet_laidAll _ (by kernel_rfl) (by kernel_rfl))) ?_
  intro W base args ds gs before hval0 hW _ _ hL _
  have hval : ∀ (j : Nat) t v, Tryz.f4.params[j]? = some t → args[j]? = some v → Value.okWide Tryz.prog W .any base t v := hval0
  have hW' := hW
  obtain ⟨p, q, hA0, hV0, rfl, _, _⟩ := hW
  have hA : DataW.TrodAll enc Tryz.prog W 0 (fun _ => true) true Tryz.f4.params.toList args.toList ds p := hA0
  have hV : DataW.TrodVars enc Tryz.prog W (fun _ => true) ["loop.example/surelywrong/impl.errNoProgram", "loop.example/surelywrong/impl.assignments", "loop.example/surelywrong/impl.comparedVariables", "loop.example/surelywrong/impl.comparedWithNumbers"] gs q := hV0
  rw [Tryz.params4] at hA hval
  obtain ⟨v0, d0, rfl, rfl, h0⟩ := trodAll_one hA
  obtain ⟨a0, len0, cap0, rfl⟩ := okWide_slice Tryz.underlying22 (hval 0 22 v0 rfl rfl)
  have k0 := h0
  have lt0 : ∀ x ∈ p, x.block < W.heap.size := by obtain ⟨m, hm⟩ := k0; exact DataW.trod_lt m _ _ _ hm
  obtain ⟨z0, w0⟩ : ∃ zs, IsRow .u8 W a0 len0 cap0 zs := by
    obtain ⟨fuel, hf⟩ := h0
    rcases open_ints Tryz.underlying22 Tryz.underlying5 (by kernel_rfl) hf with ⟨hcs, _⟩ | ⟨x, l, c, zs, hcs, _, hl, hm, hz, _, hcell, hwz⟩
    · simp [Value.cells] at hcs
      obtain ⟨rfl, rfl, rfl⟩ := hcs
      exact ⟨[], .inl ⟨rfl, rfl, rfl, rfl⟩⟩
    · simp [Value.cells] at hcs
      obtain ⟨rfl, rfl, rfl⟩ := hcs
      exact ⟨zs, .inr ⟨_, rfl, hl, hm, by simpa using hz, hcell, hwz⟩⟩
  rw [MakeChecks.laidMetH_plain _ _ _ (by kernel_rfl)] at hL
  have hLd := of_laid hL
  obtain ⟨g0, g1, g2, g3, rfl⟩ := trodVars_len4 hV
  clear hA0 hval0 hV0
  refine (walkFnUnroll a0 len0 cap0 z0 W w0 hLd).mono fun e W' ⟨he, bel⟩ => ?_
  subst he
  exact ⟨_, rfl, _, _, _, [], _, _, hW', trodAll_mk1 (shut_bool Tryz.underlying4 _), trodAll_mk1 (Below.trod laidOut (by kernel_rfl) (of_decide_eq_true (by kernel_rfl)) k0 bel lt0),
    Below.trodVars laidOut bel (by kernel_rfl) hV, bel.frame _, fun h => by cases h⟩

theorem piece0 : (Rows.fnUnrollRow.wf (OpenSpec.ofChange Rows.fnUnrollSpec)) = true := by kernel_rfl
theorem piece1 : (laidOutB Tryz.pinned.checked.prog) = true := by kernel_rfl
theorem piece2 : (mapsRowed Tryz.pinned.checked.prog) = true := by kernel_rfl
theorem piece3 : (Tryz.f4.params.all (Tryz.pinned.checked.prog.readableRec ·)) = true := by kernel_rfl
theorem piece4 : (namedTie Tryz.pinned.checked.prog Rows.fnUnrollRow.named Rows.fnUnrollSpec.vars) = true := by kernel_rfl
theorem piece5 : ((Rows.fnUnrollRow.stops == [])) = true := by kernel_rfl
theorem piece6 : ((Tryz.pinned.checked.prog.stops == [])) = true := by kernel_rfl
theorem piece7 : ((Rows.fnUnrollRow.knobs == [])) = true := by kernel_rfl
theorem piece8 : ((Tryz.pinned.checked.prog.stopKnobs == [])) = true := by kernel_rfl
theorem piece9 : ((Rows.fnUnrollRow.inPlace == Tryz.pinned.checked.prog.inPlace 4)) = true := by kernel_rfl
theorem piece10 : ((Rows.fnUnrollRow.unfollowed == Tryz.pinned.checked.prog.unfollowed 4)) = true := by kernel_rfl
theorem piece11 : ((Rows.fnUnrollRow.recurses == Tryz.pinned.checked.prog.recurses 4)) = true := by kernel_rfl
theorem piece12 : ((Rows.fnUnrollRow.named == Tryz.pinned.checked.prog.varsNamed 4)) = true := by kernel_rfl
theorem piece13 : ((Rows.fnUnrollRow.maps == (Tryz.f4.params.toList ++ Rows.fnUnrollSpec.plain.varTypes Tryz.pinned.checked.prog).any (Tryz.pinned.checked.prog.mapsRec ·))) = true := by kernel_rfl
theorem piece14 : ((Rows.fnUnrollRow.ifaces == (Tryz.f4.params.toList ++ Rows.fnUnrollSpec.plain.varTypes Tryz.pinned.checked.prog).any (Tryz.pinned.checked.prog.ifacesRec ·))) = true := by kernel_rfl
theorem piece15 : ((Rows.fnUnrollRow.mapsOut == Tryz.pinned.checked.prog.mapsAmong Tryz.f4.resultTypes.toList)) = true := by kernel_rfl
theorem piece16 : ((Rows.fnUnrollRow.loops == (Tryz.f4.params.toList ++ Rows.fnUnrollSpec.plain.varTypes Tryz.pinned.checked.prog).any (Tryz.pinned.checked.prog.loopsFrom ·))) = true := by kernel_rfl
theorem piece17 : ((Rows.fnUnrollRow.wideKeys == (Tryz.f4.params.toList ++ Rows.fnUnrollSpec.plain.varTypes Tryz.pinned.checked.prog ++ Tryz.f4.resultTypes.toList).any (Tryz.pinned.checked.prog.wideKeysFrom ·))) = true := by kernel_rfl
theorem piece18 : (Rows.fnUnrollSpec.vars.all (Tryz.pinned.checked.prog.varReadable ·)) = true := by kernel_rfl
theorem piece19 : (Tryz.f4.resultTypes.all (fun t => Tryz.pinned.checked.prog.readableRec t && decide (t < Tryz.pinned.checked.prog.types.size))) = true := by kernel_rfl
theorem piece20 : ((Rows.fnUnrollRow.ifacesOut == Tryz.f4.resultTypes.toList.any (Tryz.pinned.checked.prog.ifacesRec ·))) = true := by kernel_rfl
theorem piece21 : ((Rows.fnUnrollRow.loopsOut == Tryz.f4.resultTypes.toList.any (Tryz.pinned.checked.prog.loopsFrom ·))) = true := by kernel_rfl
theorem piece22 : ((Rows.fnUnrollRow.plainKeys == Tryz.pinned.checked.prog.plainKeys)) = true := by kernel_rfl
theorem piece23 : (Rows.fnUnrollRow.shortTexts.isNone) = true := by kernel_rfl
theorem piece24 : (Tryz.pinned.checked.prog.stopsHeard) = true := by kernel_rfl
theorem piece25 : (Tryz.pinned.checked.prog.mayEnter) = true := by kernel_rfl
theorem piece26 : ((Rows.fnUnrollRow.lifted == Tryz.pinned.checked.prog.liftsFinal)) = true := by kernel_rfl
theorem piece27 : ((Tryz.pinned.checked.prog.make == some Rows.fnUnrollRow.make)) = true := by kernel_rfl
theorem piece28 : ((Rows.fnUnrollRow.kinds == (if Rows.fnUnrollRow.domain.isEmpty then [] else Tryz.f4.params.toList.map fun t => match Tryz.pinned.checked.prog.underlying t with | some (.int k) => some k | _ => none))) = true := by kernel_rfl
theorem piece29 : ((Rows.fnUnrollRow.pinned == Rows.fnUnrollRow.pinnedBy)) = true := by kernel_rfl
theorem piece30 : ((Rows.fnUnrollRow.veiled == (Tryz.f4.params.toList ++ Rows.fnUnrollSpec.plain.varTypes Tryz.pinned.checked.prog ++ Tryz.f4.resultTypes.toList).any (Tryz.pinned.checked.prog.veiledRec ·))) = true := by kernel_rfl
theorem piece31 : (Rows.fnUnrollRow.veiledFits Tryz.pinned.checked.prog Tryz.f4.params.toList (Tryz.f4.params.toList ++ Rows.fnUnrollSpec.plain.varTypes Tryz.pinned.checked.prog ++ Tryz.f4.resultTypes.toList)) = true := by kernel_rfl
set_option maxRecDepth 100000 in
theorem joined : joinedFacts Tryz.pinned.checked.prog 4 Tryz.f4 Rows.fnUnrollSpec Rows.fnUnrollRow = true :=
  Bool.and_eq_true_iff.2 ⟨Bool.and_eq_true_iff.2 ⟨Bool.and_eq_true_iff.2 ⟨Bool.and_eq_true_iff.2 ⟨Bool.and_eq_true_iff.2 ⟨Bool.and_eq_true_iff.2 ⟨Bool.and_eq_true_iff.2 ⟨Bool.and_eq_true_iff.2 ⟨Bool.and_eq_true_iff.2 ⟨Bool.and_eq_true_iff.2 ⟨Bool.and_eq_true_iff.2 ⟨Bool.and_eq_true_iff.2 ⟨Bool.and_eq_true_iff.2 ⟨Bool.and_eq_true_iff.2 ⟨Bool.and_eq_true_iff.2 ⟨Bool.and_eq_true_iff.2 ⟨Bool.and_eq_true_iff.2 ⟨Bool.and_eq_true_iff.2 ⟨Bool.and_eq_true_iff.2 ⟨Bool.and_eq_true_iff.2 ⟨Bool.and_eq_true_iff.2 ⟨Bool.and_eq_true_iff.2 ⟨Bool.and_eq_true_iff.2 ⟨Bool.and_eq_true_iff.2 ⟨Bool.and_eq_true_iff.2 ⟨Bool.and_eq_true_iff.2 ⟨Bool.and_eq_true_iff.2 ⟨Bool.and_eq_true_iff.2 ⟨Bool.and_eq_true_iff.2 ⟨Bool.and_eq_true_iff.2 ⟨Bool.and_eq_true_iff.2 ⟨piece0, piece1⟩, piece2⟩, piece3⟩, piece4⟩, piece5⟩, piece6⟩, piece7⟩, piece8⟩, piece9⟩, piece10⟩, piece11⟩, piece12⟩, piece13⟩, piece14⟩, piece15⟩, piece16⟩, piece17⟩, piece18⟩, piece19⟩, piece20⟩, piece21⟩, piece22⟩, piece23⟩, piece24⟩, piece25⟩, piece26⟩, piece27⟩, piece28⟩, piece29⟩, piece30⟩, piece31⟩
theorem named : Tryz.pinned.checked.prog.funcNamed Rows.fnUnrollRow.func = some 4 := by kernel_rfl
theorem fact1 : OpenClaim.wfByText (OpenSpec.ofChange Rows.fnUnrollSpec) Rows.fnUnrollRow = true := by kernel_rfl
theorem fact2 : Tryz.pinned.checked.prog.mainIs = some (true, "3b59d618f81917da5647bb8ac49256e04bb42719d9d9f6cfa35c889b60035755".toList) := by kernel_rfl
theorem fact3 : true = Tryz.pinned.checked.prog.looks [] := by kernel_rfl
theorem fact4 : Tryz.prog.funcNamed "loop.example/surelywrong/laws.FnUnroll" = some 4 := by kernel_rfl
theorem fact5 : (([22] : List TypeId).all fun u => !Tryz.prog.wantsStandIn u) = true := by kernel_rfl
theorem fact6 : true = OpenClaim.goesBy Rows.fnUnrollRow Tryz.pinned.checked.prog := by kernel_rfl

theorem over : Rows.FnUnrollSaid :=
  OpenClaim.holds_of_wide_leaving 4 Tryz.f4 rfl rfl rfl rfl rfl rfl rfl ⟨rfl, rfl, rfl, rfl, rfl⟩ rfl rfl rfl rfl rfl named Tryz.func4 joined
    (of_decide_eq_true (by kernel_rfl)) (by unfold Func.isWrapper; first | (rw [if_pos (by decide +kernel)]; kernel_rfl) | (rw [if_neg (by decide +kernel)]; exact ⟨rfl, rfl⟩))
    (fun os started H enc _ => leaving_of_alone (lifted os started H enc))
end fnUnroll

/-- The statement. -/
theorem fnUnrollHolds : Rows.FnUnrollCardSaid :=
  tied_goes [.data, .widerDeep, .sentinel, .widerDeep] "3b59d618f81917da5647bb8ac49256e04bb42719d9d9f6cfa35c889b60035755" true fnUnroll.over fnUnroll.fact1 fnUnroll_row_tie rfl ⟨rfl, rfl⟩ fnUnroll.fact2
    (fun f fn hf hfn => by
      obtain rfl : f = 4 := Option.some.inj (fnUnroll.fact4.symm.trans hf) |>.symm
      obtain rfl : fn = Tryz.f4 := (Option.some.inj (Tryz.func4.symm.trans hfn)).symm
      exact ⟨fnUnroll.fact3, fun j t ht => by
        rw [Tryz.params4] at ht
        have hm : t ∈ ([22] : List TypeId) := by simpa using Array.mem_of_getElem? ht
        have hall : (([22] : List TypeId).all fun u => !Tryz.prog.wantsStandIn u) = true := fnUnroll.fact5
        exact (show Tryz.prog.wantsStandIn t = false by simpa using List.all_eq_true.1 hall t hm)⟩)
    fnUnroll.fact6
end Go.Proofs.YtnejphdbnfdbhaaGreatDoor
