/-
  THE WALK of the program's New. Own text of the verifier.
-/
import Derived.Test.YtjebhbopmfcopaaGreatDoorIxNew
import Derived.Test.YtjebhbopmfcopaaGreatDoorTxKeeps
namespace Go.Proofs.YtjebhbopmfcopaaGreatDoor
open Go.RowKit

/-- an index that answers for contigs -/
def IxAt (X : World) (B : Nat) (p : Value) (cs : List Pr) : Prop :=
  ∃ bx top bot, p = .pointer (some ⟨bx, 0, none⟩) ∧ X.ownsRow B 122 2 (.slice (some ⟨bx, 0, none⟩) 1 1) 1 [top, bot] ∧ X.ownsRow B 9 1 top cs.length (Ix.strs 1 cs) ∧ X.ownsRow B 9 1 bot cs.length (Ix.strs 2 cs)

theorem IxAt.below {X Y : World} {B : Nat} {p : Value} {cs : List Pr} (h : IxAt X B p cs) (hb : Below X.heap.size X Y) : IxAt Y B p cs := by
  obtain ⟨bx, top, bot, h1, h2, h3, h4⟩ := h
  exact ⟨bx, top, bot, h1, own_below h2 hb, own_below h3 hb, own_below h4 hb⟩

theorem Se.err_two (cs : List Pr) (h : (!cs.any Se.wrong && decide (0 < cs.length)) = false) : Se.newErr cs = 2 := by
  unfold Se.newErr
  by_cases h0 : cs.length = 0
  · rw [if_pos h0]
  · rw [if_neg h0]
    have : cs.any Se.wrong = true := by
      rw [decide_eq_true (by omega), Bool.and_true] at h
      simpa using h
    rw [if_pos this]
theorem Se.err_four (cs : List Pr) (h : (!cs.any Se.wrong && decide (0 < cs.length)) = true) (h4 : (decide (4096 < Se.total cs) || decide (16 < cs.length)) = true) : Se.newErr cs = 4 := by
  rw [Bool.and_eq_true] at h
  unfold Se.newErr
  rw [if_neg (by have := of_decide_eq_true h.2; omega), if_neg (by have := h.1; simpa using this)]
  rw [Bool.or_eq_true] at h4
  by_cases h16 : 16 < cs.length
  · rw [if_pos h16]
  · rw [if_neg h16]
    rcases h4 with h4 | h4
    · rw [if_pos (of_decide_eq_true h4)]
    · exact absurd (of_decide_eq_true h4) h16
theorem Se.err_none (cs : List Pr) (h : (!cs.any Se.wrong && decide (0 < cs.length)) = true) (h4 : (decide (4096 < Se.total cs) || decide (16 < cs.length)) = false) : Se.newErr cs = 0 := by
  rw [Bool.and_eq_true] at h
  rw [Bool.or_eq_false_iff] at h4
  unfold Se.newErr
  rw [if_neg (by have := of_decide_eq_true h.2; omega), if_neg (by have := h.1; simpa using this), if_neg (of_decide_eq_false h4.2), if_neg (of_decide_eq_false h4.1)]

theorem Se.total_mem (cs : List Pr) (x : Pr) (h : x ∈ cs) : x.2.length ≤ Se.total cs := by
  induction cs with
  | nil => cases h
  | cons c r ih =>
    simp only [Se.total]
    rcases List.mem_cons.1 h with rfl | h
    · omega
    · have := ih h; omega

/-- what is so of contigs that New takes -/
structure Se.Right (cs : List Pr) : Prop where
  pos : 0 < cs.length
  few : cs.length ≤ 16
  len : ∀ x ∈ cs, x.2.length ≤ 4096
  let_ : ∀ x ∈ cs, Lt.allL x.2 = true

theorem Se.right_of (cs : List Pr) (h : Se.newErr cs = 0) : Se.Right cs := by
  unfold Se.newErr at h
  split at h
  · simp at h
  · split at h
    · simp at h
    · split at h
      · simp at h
      · split at h
        · simp at h
        · next h0 h1 h2 h3 =>
          refine ⟨by omega, by omega, fun x hx => by have := Se.total_mem cs x hx; omega, fun x hx => ?_⟩
          have h4 : ¬ Se.wrong x = true := fun hw => h1 (List.any_eq_true.2 ⟨x, hx, hw⟩)
          simp only [Se.wrong, Bool.or_eq_true, Bool.not_eq_true', not_or, Bool.not_eq_false] at h4
          exact h4.1

theorem ret_two' {v : Value} {a b : Int} (h : a = b) : Ending.returned (.tuple #[v, .int .i64 a]) = .returned (.tuple #[v, .int .i64 b]) := by rw [h]

set_option maxRecDepth 100000 in
set_option maxHeartbeats 400000 in
theorem ixNew_nil (w : World) : Calls Tryz.prog 26 #[.slice none 0 0] w fun e w' => e = .returned (.tuple #[.pointer none, .int .i64 2]) ∧ w' = w := by
  go_enter Tryz.func26, Tryz.ntmps26
  go_wp2_with (go_at_call 58; refine (areContigs_nil _).mono ?_; rintro e w' ⟨rfl, hw⟩; subst w')
  go_ret2
  exact ⟨rfl, rfl⟩

set_option maxRecDepth 100000 in
set_option maxHeartbeats 1600000 in
theorem ixNew_any (cs : List Pr) (G cc : Nat) (w : World) (hc : cs.length ≤ 140737488355327) (hN : ∀ x ∈ cs, x.2.length ≤ 140737488355327) (hC : Cs w G cs) :
    Calls Tryz.prog 26 #[.slice (some ⟨G, 0, none⟩) cs.length cc] w fun e w' => ∃ p, e = .returned (.tuple #[p, .int .i64 (Se.newErr cs)]) ∧ Below w.heap.size w w' ∧ ((Se.newErr cs ≠ 0 ∧ p = .pointer none) ∨ (Se.newErr cs = 0 ∧ IxAt w' w.heap.size p cs)) := by
  have HN : Hid _ := hN
  have HC : Hid (Cs w G cs) := hC
  clear hN hC
  cases h1 : (!cs.any Se.wrong && decide (0 < cs.length)) with
  | false =>
    have HE : Hid _ := Se.err_two cs h1
    have H1 : Hid _ := h1
    clear h1
    go_enter Tryz.func26, Tryz.ntmps26
    go_wp2_with (go_at_call 58; refine (areContigs_any cs G cc _ hc HN.out HC.out).mono ?_; rw [H1.out]; rintro e w1 ⟨rfl, hb1⟩)
    go_ret2
    exact ⟨_, ret_two' HE.out.symm, hb1, .inl ⟨by rw [HE.out]; decide, rfl⟩⟩
  | true =>
    have H1 : Hid _ := h1
    cases h2 : (decide (4096 < Se.total cs) || decide (16 < cs.length)) with
    | true =>
      have HE : Hid _ := Se.err_four cs h1 h2
      have H2 : Hid _ := h2
      clear h1 h2
      go_enter Tryz.func26, Tryz.ntmps26
      go_wp2_with fail
      refine (areContigs_any cs G cc _ hc HN.out HC.out).mono ?_
      rw [H1.out]
      rintro e w1 ⟨rfl, hb1⟩
      go_wp2_with fail
      refine (areTooMany_any cs G cc _ hc HN.out (Cs.below HC.out hb1)).mono ?_
      rw [H2.out]
      rintro e w2 ⟨rfl, hb2⟩
      go_wp2
      go_ret2
      exact ⟨_, ret_two' HE.out.symm, hb1.trans (hb2.mono hb1.size), .inl ⟨by rw [HE.out]; decide, rfl⟩⟩
    | false =>
      have HE : Hid _ := Se.err_none cs h1 h2
      have H2 : Hid _ := h2
      clear h1 h2
      have hr := Se.right_of cs HE.out
      have hfew := hr.few
      have HLN : Hid (∀ x ∈ cs, x.2.length ≤ 100000) := fun x hx => by have := hr.len x hx; omega
      have HLL : Hid _ := hr.let_
      clear hr
      go_enter Tryz.func26, Tryz.ntmps26
      go_wp2_with fail
      refine (areContigs_any cs G cc _ hc HN.out HC.out).mono ?_
      rw [H1.out]
      rintro e w1 ⟨rfl, hb1⟩
      go_wp2_with fail
      refine (areTooMany_any cs G cc _ hc HN.out (Cs.below HC.out hb1)).mono ?_
      rw [H2.out]
      rintro e w2 ⟨rfl, hb2⟩
      have hb12 := hb1.trans (hb2.mono hb1.size)
      have HC2 : Hid _ := Cs.below HC.out hb12
      go_wp2_with fail
      refine (converted_any cs G cc 1 _ (by omega) HLN.out HLL.out (by decide) HC2.out).mono ?_
      rintro e w3 ⟨v1, rfl, ho1, hb3⟩
      go_wp2_with fail
      refine (converted_any cs G cc 2 _ (by omega) HLN.out HLL.out (by decide) (Cs.below HC2.out hb3)).mono ?_
      rintro e w4 ⟨v2, rfl, ho2, hb4⟩
      have hb13 := hb12.trans (hb3.mono hb12.size)
      have hb14 := hb13.trans (hb4.mono hb13.size)
      have s1 := hb12.size
      have s2 := hb13.size
      have s3 := hb14.size
      have o1 := own_base (own_below ho1 hb4) s1
      have o2 := own_base ho2 s2
      have hfin : IxAt (w4.alloc (.cells #[v1, v2] 122)) w.heap.size (.pointer (some ⟨w4.heap.size, 0, none⟩)) cs :=
        ⟨w4.heap.size, v1, v2, rfl, World.ownsRow_lit w4 #[v1, v2] 1 s3 (by decide) rfl, o1.alloc _, o2.alloc _⟩
      have HFIN : Hid _ := hfin
      have HBF : Hid _ := hb14.alloc s3 (.cells #[v1, v2] 122)
      obtain ⟨a1, c1, hf1⟩ := own_form ho1
      obtain ⟨a2, c2, hf2⟩ := own_form ho2
      subst hf1 hf2
      clear hfin o1 o2 ho1 ho2 hb3 hb4 hb13 hb14 hb12 hb1 hb2
      go_wp2
      go_ret2
      exact ⟨_, ret_two' HE.out.symm, HBF.out, .inr ⟨HE.out, HFIN.out⟩⟩

end Go.Proofs.YtjebhbopmfcopaaGreatDoor
