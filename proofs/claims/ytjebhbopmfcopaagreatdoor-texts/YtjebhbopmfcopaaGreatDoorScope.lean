/-
  A SCOPE WITH SEVERAL LABELS: what holds at each label, and a measure that every jump lowers; from one label on the run may flow into the next. Own text of the verifier.
-/
import Derived.Test.YtjebhbopmfcopaaGreatDoorBytes
import Derived.WalkMore
import Derived.ScopeJumps
namespace Go.Proofs.YtjebhbopmfcopaaGreatDoor
open Go.RowKit

/-- by a goto to label l: J l; else as Q -/
def jumps (J : Nat → Act → World → Prop) (Q : Exit → Act → World → Prop) : Exit → Act → World → Prop
  | .goto l, a, w => J l a w
  | e, a, w => Q e a w

section
variable {P : Program} {a : Act} {w : World} {Q : Exit → Act → World → Prop} {J : Nat → Act → World → Prop}
theorem jumps_goto (l : Nat) : jumps J Q (.goto l) a w = J l a w := rfl
theorem jumps_ret : jumps J Q .ret a w = Q .ret a w := rfl
theorem jumps_normal : jumps J Q .normal a w = Q .normal a w := rfl
theorem jumps_exit (i : Nat) : jumps J Q (.exit i) a w = Q (.exit i) a w := rfl

/-- ONE LABEL'S PASS: from what holds there, with a measure of at most n, to a jump of a lower one, or out -/
def Pass (P : Program) (Q : Exit → Act → World → Prop) (J : Nat → Act → World → Prop) (m : Nat → Act → World → Nat) (l : Nat) (r : Code) : Prop :=
  ∀ n a w, J l a w → m l a w ≤ n → r.wp P (jumps (fun l' a' w' => J l' a' w' ∧ m l' a' w' < n) Q) a w

theorem wp_labels {c : Code} (J : Nat → Act → World → Prop) (m : Nat → Act → World → Nat) (rs : Nat → Code) (hrs : ∀ l a w, J l a w → findLabel c l = some (rs l))
    (pass : ∀ l, (∃ a w, J l a w) → Pass P Q J m l (rs l)) (first : c.wp P (jumps J Q) a w) : (Code.scope c).wp P Q a w := by
  intro b k cs
  have key : ∀ n l a w, m l a w = n → J l a w → ∃ e a' w', Q e a' w' ∧ Arrives P (lone (b.at a (.code (rs l) :: .inScope c :: k)) cs w) b k cs e a' w' := by
    intro n
    induction n using Nat.strongRecOn with
    | _ n ih =>
      intro l a w hn hJ
      obtain ⟨e, a1, w1, hq, harr⟩ := pass l ⟨a, w, hJ⟩ n a w hJ (Nat.le_of_eq hn) b (.inScope c :: k) cs
      cases e with
      | normal => exact ⟨.normal, a1, w1, hq, Steps.trans harr (.one step_inScope)⟩
      | exit id => exact ⟨.exit id, a1, w1, hq, fun k' hk => harr k' (by simp [exitTo, hk])⟩
      | goto l' =>
        obtain ⟨hJ', hlt⟩ := hq
        have hg : gotoIn l' (.inScope c :: k) = some (.code (rs l') :: .inScope c :: k) := by simp [gotoIn, hrs l' a1 w1 hJ']
        obtain ⟨e2, a2, w2, hq2, harr2⟩ := ih _ hlt l' a1 w1 rfl hJ'
        exact ⟨e2, a2, w2, hq2, .of_steps (harr _ hg) harr2⟩
      | ret => exact ⟨_, a1, w1, hq, harr⟩
      | panic ch => exact ⟨_, a1, w1, hq, harr⟩
      | outgrown => exact ⟨_, a1, w1, hq, harr⟩
  obtain ⟨e, a1, w1, hq, harr⟩ := first b (.inScope c :: k) cs
  cases e with
  | normal => exact ⟨.normal, a1, w1, hq, .head step_scope (Steps.trans harr (.one step_inScope))⟩
  | exit id => exact ⟨.exit id, a1, w1, hq, fun k' hk => .head step_scope (harr k' (by simp [exitTo, hk]))⟩
  | goto l' =>
    have hg : gotoIn l' (.inScope c :: k) = some (.code (rs l') :: .inScope c :: k) := by simp [gotoIn, hrs l' a1 w1 hq]
    obtain ⟨e2, a2, w2, hq2, harr2⟩ := key _ l' a1 w1 rfl hq
    exact ⟨e2, a2, w2, hq2, .of_steps (.head step_scope (harr _ hg)) harr2⟩
  | ret => exact ⟨_, a1, w1, hq, .of_steps (.one step_scope) harr⟩
  | panic ch => exact ⟨_, a1, w1, hq, .of_steps (.one step_scope) harr⟩
  | outgrown => exact ⟨_, a1, w1, hq, .of_steps (.one step_scope) harr⟩

/-- four labels, 0 to 3, of which i flows into j and j into k: the passes are handed on from the last to the first -/
theorem wp_four {c r0 r1 r2 r3 : Code} (h0 : findLabel c 0 = some r0) (h1 : findLabel c 1 = some r1) (h2 : findLabel c 2 = some r2) (h3 : findLabel c 3 = some r3)
    (J : Nat → Act → World → Prop) (m : Nat → Act → World → Nat) (hJ : ∀ l a w, J l a w → l < 4)
    (t : Pass P Q J m 0 r0 ∧ Pass P Q J m 1 r1 ∧ Pass P Q J m 2 r2 ∧ Pass P Q J m 3 r3)
    (first : c.wp P (jumps J Q) a w) : (Code.scope c).wp P Q a w := by
  obtain ⟨t0, t1, t2, t3⟩ := t
  refine wp_labels J m (fun l => if l = 0 then r0 else if l = 1 then r1 else if l = 2 then r2 else r3) ?_ ?_ first
  · intro l a w h
    have hl := hJ l a w h
    rcases (show l = 0 ∨ l = 1 ∨ l = 2 ∨ l = 3 by omega) with rfl | rfl | rfl | rfl
    · simpa using h0
    · simpa using h1
    · simpa using h2
    · simpa using h3
  · rintro l ⟨a, w, h⟩
    have hl := hJ l a w h
    rcases (show l = 0 ∨ l = 1 ∨ l = 2 ∨ l = 3 by omega) with rfl | rfl | rfl | rfl
    · simpa using t0
    · simpa using t1
    · simpa using t2
    · simpa using t3
theorem pass_skip {m : Nat → Act → World → Nat} {l : Nat} {r : Code} (t : Pass P Q J m l r) : Pass P Q J m l (.seq .skip r) := fun n a w h hm => wp_seq (wp_skip (t n a w h hm))

/-- 'fault' is 0; 1 flows into 2, 2 into 3 -/
theorem wp_four_a {c r0 r1 r2 r3 : Code} (J : Nat → Act → World → Prop) (m : Nat → Act → World → Nat) (hJ : ∀ l a w, J l a w → l < 4)
    (h0 : findLabel c 0 = some (.seq .skip r0)) (h1 : findLabel c 1 = some (.seq .skip r1)) (h2 : findLabel c 2 = some (.seq .skip r2)) (h3 : findLabel c 3 = some (.seq .skip r3))
    (t0 : Pass P Q J m 0 r0) (t3 : Pass P Q J m 3 r3) (t2 : Pass P Q J m 3 r3 → Pass P Q J m 2 r2) (t1 : Pass P Q J m 2 r2 → Pass P Q J m 1 r1)
    (first : Pass P Q J m 1 r1 → c.wp P (jumps J Q) a w) : (Code.scope c).wp P Q a w :=
  wp_four h0 h1 h2 h3 J m hJ ⟨pass_skip t0, pass_skip (t1 (t2 t3)), pass_skip (t2 t3), pass_skip t3⟩ (first (t1 (t2 t3)))
/-- 'fault' is 1; 0 flows into 2, 2 into 3 -/
theorem wp_four_b {c r0 r1 r2 r3 : Code} (J : Nat → Act → World → Prop) (m : Nat → Act → World → Nat) (hJ : ∀ l a w, J l a w → l < 4)
    (h0 : findLabel c 0 = some (.seq .skip r0)) (h1 : findLabel c 1 = some (.seq .skip r1)) (h2 : findLabel c 2 = some (.seq .skip r2)) (h3 : findLabel c 3 = some (.seq .skip r3))
    (t1 : Pass P Q J m 1 r1) (t3 : Pass P Q J m 3 r3) (t2 : Pass P Q J m 3 r3 → Pass P Q J m 2 r2) (t0 : Pass P Q J m 2 r2 → Pass P Q J m 0 r0)
    (first : Pass P Q J m 0 r0 → c.wp P (jumps J Q) a w) : (Code.scope c).wp P Q a w :=
  wp_four h0 h1 h2 h3 J m hJ ⟨pass_skip (t0 (t2 t3)), pass_skip t1, pass_skip (t2 t3), pass_skip t3⟩ (first (t0 (t2 t3)))
/-- from one label's pass to the post of the whole: what lies below no bound -/
theorem pass_first {J : Nat → Act → World → Prop} {m : Nat → Act → World → Nat} {l : Nat} {r : Code} (t : Pass P Q J m l r) (h : J l a w) : r.wp P (jumps J Q) a w :=
  wp_mono (t _ a w h (Nat.le_refl _)) (fun e a' w' h => by cases e <;> first | exact h | exact h.1)
end

/-- a frame of so many slots, slot by slot -/
theorem frame_of (a : Act) (n : Nat) (h : a.tmps.size = n) (hd : a.defers = []) : a = ⟨((List.range n).map (fun i => a.tmps.getD i undef)).toArray, []⟩ := by
  obtain ⟨tmps, defers⟩ := a
  simp only at hd h
  subst hd
  congr 1
  apply Array.ext
  · simp [h]
  · intro i h1 h2
    simp [Array.getD, h1]

/-- what is owned stays owned while only a row of another type, or what is new, is written -/
theorem own_keep {w w' : World} {b1 e1 s1 n1 b2 e2 s2 n2 : Nat} {v1 v2 : Value} {x1 x2 : List Value} (h1 : w.ownsRow b1 e1 s1 v1 n1 x1) (h2 : w.ownsRow b2 e2 s2 v2 n2 x2) (hne : e1 ≠ e2)
    (keep : ∀ k, k < w.heap.size → some k ≠ v2.ownBlock → w'.heap[k]? = w.heap[k]?) : w'.ownsRow b1 e1 s1 v1 n1 x1 := by
  refine ⟨h1.1, ?_⟩
  rcases h1.2 with h0 | ⟨g, cap, cur, rfl, hb, hg, hr⟩
  · exact .inl h0
  · refine .inr ⟨g, cap, cur, rfl, hb, ?_, hr⟩
    rw [keep g (Array.getElem?_eq_some_iff.1 hg).1 ?_]
    · exact hg
    · rcases h2.2 with ⟨rfl, _⟩ | ⟨g2, cap2, cur2, rfl, _, hg2, _⟩
      · simp [Value.ownBlock]
      · simp only [Value.ownBlock, ne_eq, Option.some.injEq]
        intro he
        rw [he, hg2] at hg
        simp at hg
        exact hne hg.2.symm

/-- 'b = append(b, c)', and what else is as it was -/
theorem app_byte2 {W w : World} {ops : Array Oper} {rest : List Oper} {o : Oper} {a : Act} {Q : Exit → Act → World → Prop} (hgd : o.guard = none) (s x : Operand)
    (ho : o.op = .call { callee := .builtin .append, args := #[s, x], argTypes := #[43, 43] })
    (base : Nat) (v : Value) (l : List UInt8) (c : UInt8) (hs : a.eval s = v) (hx : a.eval x = .slice (some ⟨w.heap.size, 0, none⟩) 1 1)
    (hown : w.ownsRow base 5 1 v l.length (Bys l)) (hbel : Below base W w) (hbase : base ≤ w.heap.size) (hlen : l.length + 1 ≤ 140737488355328)
    (h : ∀ v' w', w'.ownsRow base 5 1 v' (l ++ [c]).length (Bys (l ++ [c])) → Below base W w' → w.heap.size ≤ w'.heap.size → (∀ k, k < w.heap.size → some k ≠ v.ownBlock → w'.heap[k]? = w.heap[k]?) → wpList Tryz.prog ops Q rest (a.put o.dst v') w') :
    wpList Tryz.prog ops Q (o :: rest) a (w.alloc (.cells #[.int .u8 (c.toNat : Int)] 5)) := by
  obtain ⟨i0, hi, hz0, hz1, hz2⟩ := info_parts Tryz.infoU8
  refine wpList_append_own _ hgd s x 43 ho base 5 i0 (.int .u8 0) 1 1 Tryz.underlying43 hi hz0 hz1 hz2 rfl (by decide) v l.length (Bys l) hs (hown.alloc _) ⟨w.heap.size, 0, none⟩ 1 1 [By c] hx rfl ?_ ?_ ?_ ?_ ?_ ?_
  · intro j u hj
    match j, hj with
    | 0, hj => simp at hj; subst hj; simp [Addr.add, By]
  · intro u hu; simp at hu; subst hu; rfl
  · unfold maxLen; omega
  · omega
  · simp; omega
  · intro v' w' h1 h2 _
    refine h v' w' ?_ ?_ ?_ ?_
    · rw [Bys_append, List.length_append]; exact h1
    · exact (hbel.alloc hbase _).grown h2 (by simp; omega) (fun k hk => (hown.lt k hk).1)
    · have := h2.size; simp at this; omega
    · intro k hk hn
      rw [h2.block k (by simp; omega) hn, Below.heap_alloc _ _ _ hk]

end Go.Proofs.YtjebhbopmfcopaaGreatDoor
