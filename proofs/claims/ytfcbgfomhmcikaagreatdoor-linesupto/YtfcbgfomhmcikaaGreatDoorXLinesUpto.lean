/-
  PROVED HERE: for every list of references and every script that are together of bulk at most the row's bound, Lines answers true and leaves its arguments as they were: every Render and every Parse answers as the document's own; the package-level variables that the row lists start as the program's text lays them (the card ties them to it).
-/
import Derived.Test.YtfcbgfomhmcikaaGreatDoorBun8
import Derived.Test.YtfcbgfomhmcikaaGreatDoorBun9
import Derived.Test.YtfcbgfomhmcikaaGreatDoorBun12
import Derived.Test.YtfcbgfomhmcikaaGreatDoorBun25
import Derived.Deep.DeepHandedRow
namespace Go.Proofs.YtfcbgfomhmcikaaGreatDoor
open Go.ChangeShapes Go.WideShapes Go.ChangeAt Go.RowKit Go.Deep
set_option linter.unusedVariables false

theorem Lines.own : ownKnob Tryz.prog.godebug = none := by kernel_rfl
theorem Lines.laidOut : laidOutB Tryz.prog = true := by kernel_rfl

theorem bulk_one {H : Type} (d : DataW H) : 1 ≤ Rows.uptoBulk d := by
  cases d with
  | lit l => cases l <;> simp [Rows.uptoBulk]
  | _ => simp [Rows.uptoBulk]

theorem bulk_part {H : Type} {d : DataW H} {l : List (DataW H)} (h : d ∈ l) : Rows.uptoBulk d ≤ Rows.uptoBulkAll l := by
  induction l with
  | nil => cases h
  | cons x r ih =>
    simp only [Rows.uptoBulkAll]
    rcases List.mem_cons.1 h with rfl | h'
    · omega
    · have := ih h'
      omega

theorem bulk_count {H : Type} (l : List (DataW H)) : l.length ≤ Rows.uptoBulkAll l := by
  induction l with
  | nil => simp
  | cons x r ih =>
    have := bulk_one x
    simp only [Rows.uptoBulkAll, List.length_cons]
    omega

set_option maxRecDepth 100000 in
theorem lines_contract (H : Type) (enc : TypeId × Value → H) (W : World) (base : Nat) (args : Array Value) (ds gs : List (DataW H)) (before : List MemPlace)
    (hval0 : ∀ (j : Nat) t v, Tryz.f6.params[j]? = some t → args[j]? = some v → Value.okWide Tryz.prog W .any base t v)
    (hW : DataW.Whole enc Tryz.prog Tryz.f6.params.toList Rows.linesSpec.vars false W args.toList ds gs before)
    (hk : Rows.uptoSmall H (ds ++ gs) = true)
    (hsz0 : (DataW.weightsEach Tryz.prog (Tryz.f6.params.toList ++ Rows.linesSpec.plain.varTypes Tryz.prog) (ds ++ gs)).all (· ≤ reachBytes) = true)
    (hG : LnG W) :
    Calls Tryz.prog 6 args W fun e W' => ∃ v, e = .returned v ∧ Rows.linesSpec.post enc Tryz.prog Tryz.f6 false true false false W args v W' := by
  have hval : ∀ (j : Nat) t v, Tryz.f6.params[j]? = some t → args[j]? = some v → Value.okWide Tryz.prog W .any base t v := hval0
  have hsz : (DataW.weightsEach Tryz.prog (Tryz.f6.params.toList ++ Rows.linesSpec.plain.varTypes Tryz.prog) (ds ++ gs)).all (· ≤ reachBytes) = true := hsz0
  have hW' := hW
  obtain ⟨p, q, hA0, hV, rfl, hfz, hnd⟩ := hW
  have hA : DataW.TrodAll enc Tryz.prog W 0 (fun _ => true) true Tryz.f6.params.toList args.toList ds p := hA0
  rw [Tryz.params6] at hA hval hsz
  obtain ⟨v0, vs0, d0, ds0, p0, q0, hargs, rfl, rfl, h0, r0⟩ := trodAll_cons hA
  obtain ⟨v1, vs1, d1, ds1, p1, q1, rfl, rfl, rfl, h1, r1⟩ := trodAll_cons r0
  obtain ⟨rfl, rfl, rfl⟩ := trodAll_nil r1
  obtain rfl : args = #[v0, v1] := by cases args; simp_all
  obtain ⟨rfl, rfl⟩ := trodVars_none hV
  have w0 := okWide_slice Tryz.underlying22 (hval 0 22 v0 rfl rfl)
  have w1 := okWide_slice Tryz.underlying23 (hval 1 23 v1 rfl rfl)
  have k0 := h0
  have k1 := h1
  have lt0 : ∀ x ∈ p0, x.block < W.heap.size := by obtain ⟨m, hm⟩ := k0; exact DataW.trod_lt m _ _ _ hm
  have lt1 : ∀ x ∈ p1, x.block < W.heap.size := by obtain ⟨m, hm⟩ := k1; exact DataW.trod_lt m _ _ _ hm
  have hbound : Rows.uptoBulk d1 ≤ 1048576 := by
    have h := of_decide_eq_true hk
    have := bulk_part (d := d1) (l := [d0, d1] ++ []) (by simp)
    exact Nat.le_trans this h
  obtain ⟨rs, hrs, hrs1, hrl⟩ : ∃ rs : List Value, Src W v0 rs.length rs ∧ (∀ u ∈ rs, u.oneCell' = true) ∧ (1 + rs.length) * 24 ≤ 140737488355328 := by
    rcases open_refs w0 h0 with ⟨_, _, hs⟩ | ⟨rs, elems, sp, hs, rfl, hl, h1c, hel⟩
    · exact ⟨[], hs, by simp, by simp⟩
    · refine ⟨rs, hs, h1c, ?_⟩
      have := sized_slice hsz (j := 0) (t := 22) (e := 30) rfl rfl Tryz.underlying22
      rw [Tryz.bytesConts] at this
      simp only [reachBytes] at this
      omega
  obtain ⟨ss, hss, hsl, hst, hrec⟩ : ∃ ss : List OpV, Src W v1 ss.length (ss.flatMap OpV.cells) ∧ (10 + ss.length) * 88 ≤ 140737488355328 ∧ (∀ o ∈ ss, o.s.size ≤ 10000000) ∧
      ∀ o ∈ ss, o.k = 8 → ∃ l : List Rc, RecsOk W (.slice o.la o.ln o.lc) l ∧ l.length ≤ 10000000 := by
    rcases open_script w1 h1 with ⟨_, _, hs⟩ | ⟨ss, elems, sp, hs, rfl, hl, ho⟩
    · exact ⟨[], hs, by simp, by simp, by simp⟩
    · have hall : ∀ x ∈ elems, Rows.uptoBulk x ≤ 1048576 := by
        intro x hx
        have := bulk_part hx
        simp only [Rows.uptoBulk] at hbound
        omega
      refine ⟨ss, hs, ?_, ?_, ?_⟩
      · have := sized_slice hsz (j := 1) (t := 23) (e := 42) rfl rfl Tryz.underlying23
        rw [Tryz.bytesOp] at this
        simp only [reachBytes] at this
        omega
      · intro o hm
        obtain ⟨_, dl, _, _, _, hmem, _⟩ := ho o hm
        have hb := hall _ hmem
        simp only [Rows.uptoBulk, Rows.uptoBulkAll] at hb
        have : o.s.data.toList.length = o.s.size := by simp
        omega
      · intro o hm _
        obtain ⟨n, dl, pl, _, _, hmem, _, _, _, _, htr⟩ := ho o hm
        have hb := hall _ hmem
        have hwt : ∀ n ∈ dl.weights Tryz.prog 40, n ≤ reachBytes := by
          intro n hn
          have hw : n ∈ (DataW.slice elems sp).weights Tryz.prog 23 := by
            simp only [DataW.weights, Tryz.underlying23]
            refine List.mem_cons_of_mem _ (List.mem_append_left _ (weightsAll_mem hmem ?_))
            simp only [DataW.weights, Tryz.underlying42, DataW.weightsEach, List.map]
            simp [hn]
          simpa using List.all_eq_true.1 hsz n (DataW.weights_mem_each (j := 1) (t := 23) rfl rfl n hw)
        obtain ⟨l, hok, hd⟩ := open_recs htr hwt
        refine ⟨l, hok, ?_⟩
        rcases hd with ⟨rfl, _⟩ | ⟨sp', rfl⟩
        · simp
        · simp only [Rows.uptoBulk, Rows.uptoBulkAll] at hb
          have := bulk_count (l.map (Rc.data (H := H)))
          rw [List.length_map] at this
          omega
  clear hA0 hval0
  refine (lines_any W v0 v1 rs ss hrs hrs1 hrl hss hsl hst hrec hG).mono fun e W' ⟨he, bel⟩ => ?_
  subst he
  exact ⟨_, rfl, _, _, _, [], _, [], hW', trodAll_mk1 (shut_bool Tryz.underlying4 _), (trodAll_cons_mk (Below.trod Lines.laidOut (by kernel_rfl) (of_decide_eq_true (by kernel_rfl)) k0 bel lt0) (trodAll_cons_mk (Below.trod Lines.laidOut (by kernel_rfl) (of_decide_eq_true (by kernel_rfl)) k1 bel lt1) trodAll_mk0)), rfl, bel.frame _, fun h => by cases h⟩

theorem lines_reads (os : Os) {H : Type} (enc : TypeId × Value → H) : ∃ places, DataW.whole enc Tryz.prog ((World.laidAll Tryz.prog os laidList).forCall (fun _ _ => 0) ⟨#[], #[.slice none 0 0, .slice none 0 0], []⟩).memory Tryz.f6.params.toList Rows.linesSpec.vars false #[Value.slice none 0 0, Value.slice none 0 0].toList 8 = some ([.nil, .nil], [], places) :=
  ⟨[], by kernel_rfl⟩

set_option maxRecDepth 100000 in
theorem linesUpto_lifted (os : Os) (started : os.Started) (H : Type) (enc : TypeId × Value → H) (F : Stop.Interp) :
    ReturnsInHanded {} Tryz.checked os 6 .any ((Rows.OpenSpec.upto Rows.linesSpec).preRow enc Tryz.prog Tryz.f6 Rows.linesUptoRow.domain false Rows.linesUptoRow.laid) (((Rows.OpenSpec.upto Rows.linesSpec).at F).post enc Tryz.prog Tryz.f6 false true false false) := by
  obtain ⟨places, hx⟩ := lines_reads os enc
  have hok : Input.okWideB Tryz.prog ((World.laidAll Tryz.prog os laidList).forCall (fun _ _ => 0) ⟨#[], #[.slice none 0 0, .slice none 0 0], []⟩) 6 ⟨#[], #[.slice none 0 0, .slice none 0 0], []⟩ = true := by kernel_rfl
  refine returnsInHanded_of_row (C := Tryz.checked) (s := Rows.OpenSpec.upto Rows.linesSpec) Lines.own started (by kernel_rfl) Tryz.func6
    ⟨World.laidAll Tryz.prog os laidList, fun _ _ => 0, ⟨#[], #[.slice none 0 0, .slice none 0 0], []⟩, World.laidAll_os _ _ _, laid_shaped os, rfl, (Input.okWide_of_okWideB hok).2,
      OpenSpec.preRow_of_cond 8 hx (by kernel_rfl) (fun k hk => by cases hk; kernel_rfl) (by kernel_rfl) (laid_met os _), by simp [Assume.holds]⟩ ?_
  intro W base args ds gs before hval hW _ hcond hsz hL hS _
  exact lines_contract H enc W base args ds gs before hval hW (hcond _ rfl) hsz (lnG_of_laid hL hS)

theorem linesUpto_holds : Rows.LinesUptoSaid :=
  OpenClaim.holds_of_cond 6 Tryz.f6 rfl rfl rfl rfl rfl rfl rfl ⟨rfl, rfl, rfl, rfl, rfl⟩ rfl rfl rfl rfl rfl (by kernel_rfl) Tryz.func6 (by kernel_rfl)
    (of_decide_eq_true (by kernel_rfl)) (by unfold Func.isWrapper; first | (rw [if_pos (by decide +kernel)]; kernel_rfl) | (rw [if_neg (by decide +kernel)]; exact ⟨rfl, rfl⟩))
    (fun os started H enc _ F => by rw [OpenClaim.pre_eq_preRow]; exact linesUpto_lifted os started H enc F)

theorem linesUpto_card : Rows.LinesUptoCardSaid :=
  Claim7.holds_tied_plain_at .later [] Rows.linesUptoCard.laidKinds true Rows.linesUptoCard.stood.harness true
    linesUpto_holds (fun _ h => by cases h) (by kernel_rfl) (fun _ h => by cases h) linesUpto_row_tie rfl ⟨rfl, rfl⟩ (by kernel_rfl) rfl
    (fun f fn hf hfn => by
      obtain rfl : f = 6 := Option.some.inj ((show Tryz.prog.funcNamed Rows.linesUptoRow.func = some 6 by kernel_rfl).symm.trans hf) |>.symm
      obtain rfl : fn = Tryz.f6 := (Option.some.inj (Tryz.func6.symm.trans hfn)).symm
      exact ⟨by kernel_rfl, fun j t ht => by
        rw [Tryz.params6] at ht
        have hm : t ∈ [22, 23] := by simpa using Array.mem_of_getElem? ht
        have hall : ([22, 23].all fun u => !Tryz.prog.wantsStandIn u) = true := by kernel_rfl
        exact (show Tryz.prog.wantsStandIn t = false by simpa using List.all_eq_true.1 hall t hm)⟩)
    (by kernel_rfl)
#print axioms linesUpto_card
end Go.Proofs.YtfcbgfomhmcikaaGreatDoor
