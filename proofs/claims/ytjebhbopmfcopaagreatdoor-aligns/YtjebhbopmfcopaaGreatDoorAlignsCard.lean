/-
  PROVED HERE: for every list of references and every script, Aligns answers true and leaves its arguments as they were: every Align, of several indexes by turns, answers as the document's own; no condition on the input; the package-level variables that the row lists start as the program's text lays them (the card ties them to it).
-/
import Derived.Test.YtjebhbopmfcopaaGreatDoorBun1
import Derived.Test.YtjebhbopmfcopaaGreatDoorBun2
import Derived.Test.YtjebhbopmfcopaaGreatDoorBun15
import Derived.Test.YtjebhbopmfcopaaGreatDoorBun6
namespace Go.Proofs.YtjebhbopmfcopaaGreatDoor
open Go.ChangeShapes Go.WideShapes Go.ChangeAt Go.RowKit Go.Deep
set_option linter.unusedVariables false

theorem Aligns.own : ownKnob Tryz.prog.godebug = none := by kernel_rfl
theorem Aligns.laidOut : laidOutB Tryz.prog = true := by kernel_rfl

set_option maxRecDepth 100000 in
theorem aligns_lifted (os : Os) (started : os.Started) (H : Type) (enc : TypeId × Value → H) :
    ReturnsInHanded {} Tryz.checked os 7 .any (fun w args => (Rows.alignsSpec.pre enc Tryz.prog Tryz.f7 Rows.alignsRow.domain false w args ∧ laidMetH Tryz.prog Rows.alignsRow.laid w) ∧ sizedMet enc Tryz.prog Tryz.f7 (OpenSpec.ofChange Rows.alignsSpec) false w args) (Rows.alignsSpec.post enc Tryz.prog Tryz.f7 false true false false) := by
  refine returnsInHanded_of_change_and (C := Tryz.checked) (X := fun w _ => laidMetH Tryz.prog Rows.alignsRow.laid w) (fun _ _ _ hh h => h.of_heap hh) Aligns.own started (by kernel_rfl) Tryz.func7
    (ChangeSpec.witness_shaped (enc := enc) (C := Tryz.checked) (os := os) (X := fun w _ => laidMetH Tryz.prog Rows.alignsRow.laid w) false (World.laidAll Tryz.prog os laidList) #[.slice none 0 0, .slice none 0 0] 8 (World.laidAll_os _ _ _)
      (laid_shaped os) (by kernel_rfl) (by kernel_rfl) (by kernel_rfl) (laid_met os _)) ?_
  intro W base args ds gs before hval0 hW hcnd hsz0 hLaid _
  have hval : ∀ (j : Nat) t v, Tryz.f7.params[j]? = some t → args[j]? = some v → Value.okWide Tryz.prog W .any base t v := hval0
  have hsz : (DataW.weightsEach Tryz.prog (Tryz.f7.params.toList ++ Rows.alignsSpec.plain.varTypes Tryz.prog) (ds ++ gs)).all (· ≤ reachBytes) = true := hsz0
  have hW' := hW
  obtain ⟨p, q, hA0, hV, rfl, hfz, hnd⟩ := hW
  have hA : DataW.TrodAll enc Tryz.prog W 0 (fun _ => true) true Tryz.f7.params.toList args.toList ds p := hA0
  rw [Tryz.params7] at hA hval hsz
  obtain ⟨v0, vs0, d0, ds0, p0, q0, hargs, rfl, rfl, h0, r0⟩ := trodAll_cons hA
  obtain ⟨v1, vs1, d1, ds1, p1, q1, rfl, rfl, rfl, h1, r1⟩ := trodAll_cons r0
  obtain ⟨rfl, rfl, rfl⟩ := trodAll_nil r1
  obtain rfl : args = #[v0, v1] := by cases args; simp_all
  obtain ⟨rfl, rfl⟩ := trodVars_none hV
  have w0 := okWide_slice Tryz.underlying22 (hval 0 22 v0 rfl rfl)
  have w1 := okWide_slice Tryz.underlying23 (hval 1 23 v1 rfl rfl)
  have k0 := h0
  have k1 := h1
  have lt0 : ∀ x ∈ p0, x.block < W.heap.size := by obtain ⟨m, hm⟩ := k0; exact DataW.trod_lt m _ _ _ hm
  have lt1 : ∀ x ∈ p1, x.block < W.heap.size := by obtain ⟨m, hm⟩ := k1; exact DataW.trod_lt m _ _ _ hm
  obtain ⟨rs, hrs, hrs1, hrl, hro⟩ : ∃ rs : List Value, Src W v0 rs.length rs ∧ (∀ u ∈ rs, u.oneCell' = true) ∧ (1 + rs.length) * 24 ≤ 140737488355328 ∧ ∀ v ∈ rs, ∃ cs, RefOk W v cs := by
    rcases open_refs w0 h0 with ⟨_, _, hs⟩ | ⟨rs, elems, sp, hs, rfl, hl, h1c, hel⟩
    · exact ⟨[], hs, by simp, by simp, by simp⟩
    · refine ⟨rs, hs, h1c, ?_, ?_⟩
      · have := sized_slice hsz (j := 0) (t := 22) (e := 29) rfl rfl Tryz.underlying22
        rw [Tryz.bytesConts] at this
        simp only [reachBytes] at this
        omega
      · intro v hv
        obtain ⟨i, hi, rfl⟩ := List.mem_iff_getElem.1 hv
        obtain ⟨n, _, l, c, ao, pl, dl, e1, e2, _, e3⟩ := hel i hi
        rw [List.getElem?_eq_getElem hi] at e1
        rw [Option.some.inj e1]
        refine open_ref e3 (fun n hn => ?_)
        have hmem : n ∈ (DataW.slice elems sp).weights Tryz.prog 22 := by
          simp only [DataW.weights, Tryz.underlying22]
          exact List.mem_cons_of_mem _ (List.mem_append_left _ (weightsAll_mem (List.mem_of_getElem? e2) hn))
        simpa using List.all_eq_true.1 hsz n (DataW.weights_mem_each (j := 0) (t := 22) rfl rfl n hmem)
  obtain ⟨ss, hss, hsl, hst⟩ : ∃ ss : List OpV, Src W v1 ss.length (ss.flatMap OpV.cells) ∧ (10 + ss.length) * 88 ≤ 140737488355328 ∧ ∀ o ∈ ss, (o.s.size ≤ 140737488351232 ∧ o.t.size ≤ 140737488351232) ∧ -9223372036854775808 ≤ o.a ∧ o.a ≤ 9223372036854775807 := by
    rcases open_script w1 h1 with ⟨_, _, hs⟩ | ⟨ss, elems, sp, hs, rfl, hl, ho⟩
    · exact ⟨[], hs, by simp, by simp⟩
    · refine ⟨ss, hs, ?_, ?_⟩
      · have := sized_slice hsz (j := 1) (t := 23) (e := 70) rfl rfl Tryz.underlying23
        rw [Tryz.bytesOp] at this
        simp only [reachBytes] at this
        omega
      · intro o hm
        obtain ⟨_, dl, _, _, _, hmem, _, hwa, _⟩ := ho o hm
        have hz2 := op_sized (fun n hn => by simpa using List.all_eq_true.1 hsz n (DataW.weights_mem_each (j := 1) (t := 23) rfl rfl n hn)) hmem
        obtain ⟨z1, z2⟩ := hz2
        simp only [reachBytes] at z1 z2
        have hwa' : -9223372036854775808 ≤ o.a ∧ o.a ≤ 9223372036854775807 := by
          have h5 : (decide (IntKind.i64.min ≤ o.a) && decide (o.a ≤ IntKind.i64.max)) = true := hwa
          rw [Bool.and_eq_true] at h5
          have m1 : IntKind.i64.min = -9223372036854775808 := by decide
          have m2 : IntKind.i64.max = 9223372036854775807 := by decide
          have h6 := of_decide_eq_true h5.1
          have h7 := of_decide_eq_true h5.2
          rw [m1] at h6
          rw [m2] at h7
          exact ⟨h6, h7⟩
        exact ⟨⟨by omega, by omega⟩, hwa'⟩
  clear hA0 hval0
  refine (aligns_any W v0 v1 rs ss hrs hrs1 hrl hro hss hsl hst).mono fun e W' ⟨he, bel⟩ => ?_
  subst he
  exact ⟨_, rfl, _, _, _, [], _, [], hW', trodAll_mk1 (shut_bool Tryz.underlying4 _), (trodAll_cons_mk (Below.trod Aligns.laidOut (by kernel_rfl) (of_decide_eq_true (by kernel_rfl)) k0 bel lt0) (trodAll_cons_mk (Below.trod Aligns.laidOut (by kernel_rfl) (of_decide_eq_true (by kernel_rfl)) k1 bel lt1) trodAll_mk0)), rfl, bel.frame _, fun h => by cases h⟩

set_option maxRecDepth 100000 in
theorem aligns_left (os : Os) (started : os.Started) (H : Type) (enc : TypeId × Value → H) {F : Stop.Interp} :
    ReturnsInLeavingWide { calm := true } Tryz.checked os 7 .any (fun w args => (Rows.alignsSpec.pre enc Tryz.prog Tryz.f7 Rows.alignsRow.domain false w args ∧ laidMetH Tryz.prog Rows.alignsRow.laid w) ∧ sizedMet enc Tryz.prog Tryz.f7 (OpenSpec.ofChange Rows.alignsSpec) false w args) ((OpenSpec.ofChange Rows.alignsSpec).postWith enc Tryz.prog Tryz.f7 F (outsideKept [.timePasses]) false true false) :=
  leaving_of_handed
    (calm_witness (enc := enc) (C := Tryz.checked) (os := os) (s := Rows.alignsSpec) (X := fun w _ => laidMetH Tryz.prog Rows.alignsRow.laid w) (World.laidAll Tryz.prog os laidList) #[.slice none 0 0, .slice none 0 0] 8 (World.laidAll_os _ _ _)
      (laid_shaped os) (by kernel_rfl) (by kernel_rfl) (by kernel_rfl) (laid_met os _))
    (aligns_lifted os started H enc)

theorem aligns_holds : Rows.AlignsSaid :=
  OpenClaim.holds_of_wide_leaving_time 7 Tryz.f7 rfl rfl rfl rfl rfl rfl rfl ⟨rfl, rfl, rfl, rfl, rfl⟩ rfl rfl rfl rfl rfl (by kernel_rfl) Tryz.func7 (by kernel_rfl)
    (of_decide_eq_true (by kernel_rfl)) (by unfold Func.isWrapper; first | (rw [if_pos (by decide +kernel)]; kernel_rfl) | (rw [if_neg (by decide +kernel)]; exact ⟨rfl, rfl⟩))
    (fun os started H enc _ _ => aligns_left os started H enc)
theorem aligns_card : Rows.AlignsCardSaid :=
  tied_goes .later Rows.alignsCard.laidKinds true Rows.alignsCard.stood.harness true
    aligns_holds (by kernel_rfl) aligns_row_tie rfl ⟨rfl, rfl⟩ (by kernel_rfl) rfl
    (fun f fn hf hfn => by
      obtain rfl : f = 7 := Option.some.inj ((show Tryz.prog.funcNamed Rows.alignsRow.func = some 7 by kernel_rfl).symm.trans hf) |>.symm
      obtain rfl : fn = Tryz.f7 := (Option.some.inj (Tryz.func7.symm.trans hfn)).symm
      exact ⟨by kernel_rfl, fun j t ht => by
        rw [Tryz.params7] at ht
        have hm : t ∈ [22, 23] := by simpa using Array.mem_of_getElem? ht
        have hall : ([22, 23].all fun u => !Tryz.prog.wantsStandIn u) = true := by kernel_rfl
        exact (show Tryz.prog.wantsStandIn t = false by simpa using List.all_eq_true.1 hall t hm)⟩)
    (by kernel_rfl)
#print axioms aligns_card
end Go.Proofs.YtjebhbopmfcopaaGreatDoor
