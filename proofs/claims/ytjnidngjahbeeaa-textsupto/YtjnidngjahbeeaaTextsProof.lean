/-
  PROVED HERE: for every list of references and every script that hold together at most 1048576 values and letters, Texts answers true and leaves its arguments as they were: every Fasta and every Fastq answers as the document's own; the condition is that bound alone.
-/
import Derived.Test.YtjnidngjahbeeaaOpen
import Derived.Test.YtjnidngjahbeeaaTextsWalk
import Derived.JoinedCond
namespace Go.Proofs.Ytjnidngjahbeeaa
open Go.ChangeShapes Go.WideShapes Go.ChangeAt Go.RowKit Go.Deep
set_option linter.unusedVariables false

theorem Texts.own : ownKnob Try.prog.godebug = none := by kernel_rfl
theorem Texts.laidOut : laidOutB Try.prog = true := by kernel_rfl

theorem bulk_one {H : Type} (d : DataW H) : 1 ≤ Rows.uptoBulk d := by
  cases d with
  | lit l => cases l <;> simp [Rows.uptoBulk]
  | _ => simp [Rows.uptoBulk]

theorem bulk_part {H : Type} {d : DataW H} {l : List (DataW H)} (h : d ∈ l) : Rows.uptoBulk d ≤ Rows.uptoBulkAll l := by
  induction l with
  | nil => cases h
  | cons x r ih =>
    simp only [Rows.uptoBulkAll]
    rcases List.mem_cons.1 h with rfl | e
    · omega
    · have := ih e; omega

theorem bulk_length {H : Type} (l : List (DataW H)) : l.length ≤ Rows.uptoBulkAll l := by
  induction l with
  | nil => simp [Rows.uptoBulkAll]
  | cons x r ih => have := bulk_one x; simp only [Rows.uptoBulkAll, List.length_cons]; omega

theorem bulk_op {H : Type} {o : OpV} {dl : DataW H} {elems : List (DataW H)}
    (hm : .agg [.lit (.int .i64 o.k), .lit (.int .i64 o.a), .lit (.int .i64 o.b), .lit (.int .i64 o.c), .lit (.string o.s.data.toList), .lit (.string o.t.data.toList), dl] ∈ elems) : o.s.size ≤ Rows.uptoBulkAll elems := by
  have h := bulk_part hm
  simp only [Rows.uptoBulk, Rows.uptoBulkAll] at h
  have e : o.s.data.toList.length = o.s.size := by rw [Array.length_toList]; rfl
  omega

set_option maxRecDepth 100000 in
theorem texts_lifted (os : Os) (started : os.Started) (H : Type) (enc : TypeId × Value → H) (F : Stop.Interp) :
    ReturnsInHanded {} Try.checked os 3 .any ((Rows.OpenSpec.upto Rows.textsSpec).pre6 enc Try.prog Try.f3 Rows.textsUptoRow.domain false) (((Rows.OpenSpec.upto Rows.textsSpec).at F).post enc Try.prog Try.f3 false true false false) := by
  refine returnsInHanded_of_cond (C := Try.checked) (s := Rows.OpenSpec.upto Rows.textsSpec) (k := Rows.uptoSmall) rfl Texts.own started (by kernel_rfl) Try.func3
    (OpenSpec.witness (enc := enc) (C := Try.checked) (s := Rows.OpenSpec.upto Rows.textsSpec) (k := Rows.uptoSmall) rfl false ⟨#[], #[.slice none 0 0, .slice none 0 0], []⟩ 8 (by kernel_rfl) (by kernel_rfl) (by kernel_rfl)
      (x := ([.nil, .nil], [], [])) (by kernel_rfl) rfl (by kernel_rfl)) ?_
  intro W base args ds gs before hval0 hW _ hk0 _
  have hval : ∀ (j : Nat) t v, Try.f3.params[j]? = some t → args[j]? = some v → Value.okWide Try.prog W .any base t v := hval0
  have hW' := hW
  obtain ⟨p, q, hA0, hV, rfl, hfz, hnd⟩ := hW
  have hA : DataW.TrodAll enc Try.prog W 0 (fun _ => true) true Try.f3.params.toList args.toList ds p := hA0
  rw [Try.params3] at hA hval
  obtain ⟨v0, vs0, d0, ds0, p0, q0, hargs, rfl, rfl, h0, r0⟩ := trodAll_cons hA
  obtain ⟨v1, vs1, d1, ds1, p1, q1, rfl, rfl, rfl, h1, r1⟩ := trodAll_cons r0
  obtain ⟨rfl, rfl, rfl⟩ := trodAll_nil r1
  obtain rfl : args = #[v0, v1] := by cases args; simp_all
  obtain ⟨rfl, rfl⟩ := trodVars_none hV
  have hk : Rows.uptoBulkAll [d0, d1] ≤ 1048576 := of_decide_eq_true hk0
  simp only [Rows.uptoBulkAll] at hk
  have w0 := okWide_slice Try.underlying22 (hval 0 22 v0 rfl rfl)
  have w1 := okWide_slice Try.underlying23 (hval 1 23 v1 rfl rfl)
  have k0 := h0
  have k1 := h1
  have lt0 : ∀ x ∈ p0, x.block < W.heap.size := by obtain ⟨m, hm⟩ := k0; exact DataW.trod_lt m _ _ _ hm
  have lt1 : ∀ x ∈ p1, x.block < W.heap.size := by obtain ⟨m, hm⟩ := k1; exact DataW.trod_lt m _ _ _ hm
  obtain ⟨rs, hrs, hrs1, hrl⟩ : ∃ rs : List Value, Src W v0 rs.length rs ∧ (∀ u ∈ rs, u.oneCell' = true) ∧ (1 + rs.length) * 24 ≤ 140737488355328 := by
    rcases open_refs w0 h0 with ⟨_, _, hs⟩ | ⟨rs, elems, sp, hs, rfl, hl, h1c, _⟩
    · exact ⟨[], hs, by simp, by simp⟩
    · refine ⟨rs, hs, h1c, ?_⟩
      have := bulk_length elems
      simp only [Rows.uptoBulk] at hk
      omega
  obtain ⟨ss, hss, hsl, hst⟩ : ∃ ss : List OpV, Src W v1 ss.length (ss.flatMap OpV.cells) ∧ ss.length ≤ 2000000 ∧ ∀ o ∈ ss, o.s.size ≤ 2000000 := by
    rcases open_script w1 h1 with ⟨_, _, hs⟩ | ⟨ss, elems, sp, hs, rfl, hl, ho⟩
    · exact ⟨[], hs, by simp, by simp⟩
    · have hbl := bulk_length elems
      simp only [Rows.uptoBulk] at hk
      refine ⟨ss, hs, by omega, ?_⟩
      intro o hm
      obtain ⟨_, dl, _, _, _, hmem, _⟩ := ho o hm
      have := bulk_op hmem
      omega
  clear hA0 hval0
  refine (texts_any W v0 v1 rs ss hrs hrs1 hrl hss hsl hst).mono fun e W' ⟨he, bel⟩ => ?_
  subst he
  exact ⟨_, rfl, _, _, _, [], _, [], hW', trodAll_mk1 (shut_bool Try.underlying4 _), (trodAll_cons_mk (Below.trod Texts.laidOut (by kernel_rfl) (of_decide_eq_true (by kernel_rfl)) k0 bel lt0) (trodAll_cons_mk (Below.trod Texts.laidOut (by kernel_rfl) (of_decide_eq_true (by kernel_rfl)) k1 bel lt1) trodAll_mk0)), rfl, bel.frame _, fun h => by cases h⟩

theorem texts_upto_holds : Rows.TextsUptoSaid :=
  OpenClaim.holds_of_cond 3 Try.f3 rfl rfl rfl rfl rfl rfl rfl ⟨rfl, rfl, rfl, rfl, rfl⟩ rfl rfl rfl rfl rfl (by kernel_rfl) Try.func3 (by kernel_rfl)
    (of_decide_eq_true (by kernel_rfl)) (by unfold Func.isWrapper; first | (rw [if_pos (by decide +kernel)]; kernel_rfl) | (rw [if_neg (by decide +kernel)]; exact ⟨rfl, rfl⟩))
    (fun os started H enc _ F => texts_lifted os started H enc F)
#print axioms texts_upto_holds
end Go.Proofs.Ytjnidngjahbeeaa
