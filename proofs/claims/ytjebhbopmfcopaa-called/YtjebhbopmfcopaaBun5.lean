/-
  THE DOCUMENT'S New: its error. Own text of the verifier.
  A SCOPE WITH SEVERAL LABELS: what holds at each label, and a measure that every jump lowers; from one label on the run may flow into the next. Own text of the verifier.
  LISTS THAT CAME OUT, MARKED BY THEIR OWNER: laws on rows of marks that share their room. Own text of the verifier.
  THE WALKS of the program's New: areContigs, areTooMany, convert, converted. Own text of the verifier.
-/
import Derived.Test.YtjebhbopmfcopaaBun3
import Derived.Test.YtjebhbopmfcopaaBun1
import Derived.WalkMore
import Derived.ScopeJumps
import Derived.Test.YtjebhbopmfcopaaBun4
import Derived.ArgAppend
import Derived.Test.YtjebhbopmfcopaaBun2
namespace Go.Proofs.Ytjebhbopmfcopaa
open Go.RowKit

/-- a contig that may not be -/
def Se.wrong (c : Pr) : Bool := !Lt.allL c.2 || c.2.length == 0
def Se.total : List Pr → Nat
  | [] => 0
  | c :: r => c.2.length + Se.total r
/-- New's error -/
def Se.newErr (cs : List Pr) : Int := if cs.length = 0 then 2 else if cs.any Se.wrong = true then 2 else if 16 < cs.length then 4 else if 4096 < Se.total cs then 4 else 0

theorem Se.total_append (a b : List Pr) : Se.total (a ++ b) = Se.total a + Se.total b := by
  induction a with
  | nil => simp [Se.total]
  | cons c a ih => simp only [List.cons_append, Se.total, ih]; omega
theorem Se.total_take (cs : List Pr) (k : Nat) (h : k < cs.length) : Se.total (cs.take (k + 1)) = Se.total (cs.take k) + cs[k].2.length := by
  rw [List.take_succ_eq_append_getElem h, Se.total_append]
  simp [Se.total]
theorem Se.total_le (N : Nat) : ∀ (cs : List Pr), (∀ x ∈ cs, x.2.length ≤ N) → Se.total cs ≤ cs.length * N := by
  intro cs
  induction cs with
  | nil => intro _; simp [Se.total]
  | cons c r ih =>
    intro h
    have h1 := h c (List.mem_cons_self ..)
    have h2 := ih (fun x hx => h x (List.mem_cons_of_mem _ hx))
    simp only [Se.total, List.length_cons, Nat.succ_mul]
    omega
theorem Se.any_take (cs : List Pr) (k : Nat) (h : k < cs.length) (h0 : (cs.take k).any Se.wrong = false) (h1 : Se.wrong cs[k] = false) : (cs.take (k + 1)).any Se.wrong = false := by
  rw [List.take_succ_eq_append_getElem h, List.any_append, h0]
  simp [h1]
theorem Se.any_at (cs : List Pr) (k : Nat) (h : k < cs.length) (h1 : Se.wrong cs[k] = true) : cs.any Se.wrong = true := List.any_eq_true.2 ⟨cs[k], List.getElem_mem _, h1⟩

end Go.Proofs.Ytjebhbopmfcopaa

namespace Go.Proofs.Ytjebhbopmfcopaa
open Go.RowKit

/-- by a goto to label l: J l; else as Q -/
def jumps (J : Nat → Act → World → Prop) (Q : Exit → Act → World → Prop) : Exit → Act → World → Prop
  | .goto l, a, w => J l a w
  | e, a, w => Q e a w

section
variable {P : Program} {a : Act} {w : World} {Q : Exit → Act → World → Prop} {J : Nat → Act → World → Prop}
theorem jumps_goto (l : Nat) : jumps J Q (.goto l) a w = J l a w := rfl
theorem jumps_ret : jumps J Q .ret a w = Q .ret a w := rfl
theorem jumps_normal : jumps J Q .normal a w = Q .normal a w := rfl
theorem jumps_exit (i : Nat) : jumps J Q (.exit i) a w = Q (.exit i) a w := rfl

/-- ONE LABEL'S PASS: from what holds there, with a measure of at most n, to a jump of a lower one, or out -/
def Pass (P : Program) (Q : Exit → Act → World → Prop) (J : Nat → Act → World → Prop) (m : Nat → Act → World → Nat) (l : Nat) (r : Code) : Prop :=
  ∀ n a w, J l a w → m l a w ≤ n → r.wp P (jumps (fun l' a' w' => J l' a' w' ∧ m l' a' w' < n) Q) a w

theorem wp_labels {c : Code} (J : Nat → Act → World → Prop) (m : Nat → Act → World → Nat) (rs : Nat → Code) (hrs : ∀ l a w, J l a w → findLabel c l = some (rs l))
    (pass : ∀ l, (∃ a w, J l a w) → Pass P Q J m l (rs l)) (first : c.wp P (jumps J Q) a w) : (Code.scope c).wp P Q a w := by
  intro b k cs
  have key : ∀ n l a w, m l a w = n → J l a w → ∃ e a' w', Q e a' w' ∧ Arrives P (lone (b.at a (.code (rs l) :: .inScope c :: k)) cs w) b k cs e a' w' := by
    intro n
    induction n using Nat.strongRecOn with
    | _ n ih =>
      intro l a w hn hJ
      obtain ⟨e, a1, w1, hq, harr⟩ := pass l ⟨a, w, hJ⟩ n a w hJ (Nat.le_of_eq hn) b (.inScope c :: k) cs
      cases e with
      | normal => exact ⟨.normal, a1, w1, hq, Steps.trans harr (.one step_inScope)⟩
      | exit id => exact ⟨.exit id, a1, w1, hq, fun k' hk => harr k' (by simp [exitTo, hk])⟩
      | goto l' =>
        obtain ⟨hJ', hlt⟩ := hq
        have hg : gotoIn l' (.inScope c :: k) = some (.code (rs l') :: .inScope c :: k) := by simp [gotoIn, hrs l' a1 w1 hJ']
        obtain ⟨e2, a2, w2, hq2, harr2⟩ := ih _ hlt l' a1 w1 rfl hJ'
        exact ⟨e2, a2, w2, hq2, .of_steps (harr _ hg) harr2⟩
      | ret => exact ⟨_, a1, w1, hq, harr⟩
      | panic ch => exact ⟨_, a1, w1, hq, harr⟩
      | outgrown => exact ⟨_, a1, w1, hq, harr⟩
  obtain ⟨e, a1, w1, hq, harr⟩ := first b (.inScope c :: k) cs
  cases e with
  | normal => exact ⟨.normal, a1, w1, hq, .head step_scope (Steps.trans harr (.one step_inScope))⟩
  | exit id => exact ⟨.exit id, a1, w1, hq, fun k' hk => .head step_scope (harr k' (by simp [exitTo, hk]))⟩
  | goto l' =>
    have hg : gotoIn l' (.inScope c :: k) = some (.code (rs l') :: .inScope c :: k) := by simp [gotoIn, hrs l' a1 w1 hq]
    obtain ⟨e2, a2, w2, hq2, harr2⟩ := key _ l' a1 w1 rfl hq
    exact ⟨e2, a2, w2, hq2, .of_steps (.head step_scope (harr _ hg)) harr2⟩
  | ret => exact ⟨_, a1, w1, hq, .of_steps (.one step_scope) harr⟩
  | panic ch => exact ⟨_, a1, w1, hq, .of_steps (.one step_scope) harr⟩
  | outgrown => exact ⟨_, a1, w1, hq, .of_steps (.one step_scope) harr⟩

/-- four labels, 0 to 3, of which i flows into j and j into k: the passes are handed on from the last to the first -/
theorem wp_four {c r0 r1 r2 r3 : Code} (h0 : findLabel c 0 = some r0) (h1 : findLabel c 1 = some r1) (h2 : findLabel c 2 = some r2) (h3 : findLabel c 3 = some r3)
    (J : Nat → Act → World → Prop) (m : Nat → Act → World → Nat) (hJ : ∀ l a w, J l a w → l < 4)
    (t : Pass P Q J m 0 r0 ∧ Pass P Q J m 1 r1 ∧ Pass P Q J m 2 r2 ∧ Pass P Q J m 3 r3)
    (first : c.wp P (jumps J Q) a w) : (Code.scope c).wp P Q a w := by
  obtain ⟨t0, t1, t2, t3⟩ := t
  refine wp_labels J m (fun l => if l = 0 then r0 else if l = 1 then r1 else if l = 2 then r2 else r3) ?_ ?_ first
  · intro l a w h
    have hl := hJ l a w h
    rcases (show l = 0 ∨ l = 1 ∨ l = 2 ∨ l = 3 by omega) with rfl | rfl | rfl | rfl
    · simpa using h0
    · simpa using h1
    · simpa using h2
    · simpa using h3
  · rintro l ⟨a, w, h⟩
    have hl := hJ l a w h
    rcases (show l = 0 ∨ l = 1 ∨ l = 2 ∨ l = 3 by omega) with rfl | rfl | rfl | rfl
    · simpa using t0
    · simpa using t1
    · simpa using t2
    · simpa using t3
theorem pass_skip {m : Nat → Act → World → Nat} {l : Nat} {r : Code} (t : Pass P Q J m l r) : Pass P Q J m l (.seq .skip r) := fun n a w h hm => wp_seq (wp_skip (t n a w h hm))

/-- 'fault' is 0; 1 flows into 2, 2 into 3 -/
theorem wp_four_a {c r0 r1 r2 r3 : Code} (J : Nat → Act → World → Prop) (m : Nat → Act → World → Nat) (hJ : ∀ l a w, J l a w → l < 4)
    (h0 : findLabel c 0 = some (.seq .skip r0)) (h1 : findLabel c 1 = some (.seq .skip r1)) (h2 : findLabel c 2 = some (.seq .skip r2)) (h3 : findLabel c 3 = some (.seq .skip r3))
    (t0 : Pass P Q J m 0 r0) (t3 : Pass P Q J m 3 r3) (t2 : Pass P Q J m 3 r3 → Pass P Q J m 2 r2) (t1 : Pass P Q J m 2 r2 → Pass P Q J m 1 r1)
    (first : Pass P Q J m 1 r1 → c.wp P (jumps J Q) a w) : (Code.scope c).wp P Q a w :=
  wp_four h0 h1 h2 h3 J m hJ ⟨pass_skip t0, pass_skip (t1 (t2 t3)), pass_skip (t2 t3), pass_skip t3⟩ (first (t1 (t2 t3)))
/-- 'fault' is 1; 0 flows into 2, 2 into 3 -/
theorem wp_four_b {c r0 r1 r2 r3 : Code} (J : Nat → Act → World → Prop) (m : Nat → Act → World → Nat) (hJ : ∀ l a w, J l a w → l < 4)
    (h0 : findLabel c 0 = some (.seq .skip r0)) (h1 : findLabel c 1 = some (.seq .skip r1)) (h2 : findLabel c 2 = some (.seq .skip r2)) (h3 : findLabel c 3 = some (.seq .skip r3))
    (t1 : Pass P Q J m 1 r1) (t3 : Pass P Q J m 3 r3) (t2 : Pass P Q J m 3 r3 → Pass P Q J m 2 r2) (t0 : Pass P Q J m 2 r2 → Pass P Q J m 0 r0)
    (first : Pass P Q J m 0 r0 → c.wp P (jumps J Q) a w) : (Code.scope c).wp P Q a w :=
  wp_four h0 h1 h2 h3 J m hJ ⟨pass_skip (t0 (t2 t3)), pass_skip t1, pass_skip (t2 t3), pass_skip t3⟩ (first (t0 (t2 t3)))
/-- from one label's pass to the post of the whole: what lies below no bound -/
theorem pass_first {J : Nat → Act → World → Prop} {m : Nat → Act → World → Nat} {l : Nat} {r : Code} (t : Pass P Q J m l r) (h : J l a w) : r.wp P (jumps J Q) a w :=
  wp_mono (t _ a w h (Nat.le_refl _)) (fun e a' w' h => by cases e <;> first | exact h | exact h.1)
end

/-- a frame of so many slots, slot by slot -/
theorem frame_of (a : Act) (n : Nat) (h : a.tmps.size = n) (hd : a.defers = []) : a = ⟨((List.range n).map (fun i => a.tmps.getD i undef)).toArray, []⟩ := by
  obtain ⟨tmps, defers⟩ := a
  simp only at hd h
  subst hd
  congr 1
  apply Array.ext
  · simp [h]
  · intro i h1 h2
    simp [Array.getD, h1]

/-- what is owned stays owned while only a row of another type, or what is new, is written -/
theorem own_keep {w w' : World} {b1 e1 s1 n1 b2 e2 s2 n2 : Nat} {v1 v2 : Value} {x1 x2 : List Value} (h1 : w.ownsRow b1 e1 s1 v1 n1 x1) (h2 : w.ownsRow b2 e2 s2 v2 n2 x2) (hne : e1 ≠ e2)
    (keep : ∀ k, k < w.heap.size → some k ≠ v2.ownBlock → w'.heap[k]? = w.heap[k]?) : w'.ownsRow b1 e1 s1 v1 n1 x1 := by
  refine ⟨h1.1, ?_⟩
  rcases h1.2 with h0 | ⟨g, cap, cur, rfl, hb, hg, hr⟩
  · exact .inl h0
  · refine .inr ⟨g, cap, cur, rfl, hb, ?_, hr⟩
    rw [keep g (Array.getElem?_eq_some_iff.1 hg).1 ?_]
    · exact hg
    · rcases h2.2 with ⟨rfl, _⟩ | ⟨g2, cap2, cur2, rfl, _, hg2, _⟩
      · simp [Value.ownBlock]
      · simp only [Value.ownBlock, ne_eq, Option.some.injEq]
        intro he
        rw [he, hg2] at hg
        simp at hg
        exact hne hg.2.symm

/-- 'b = append(b, c)', and what else is as it was -/
theorem app_byte2 {W w : World} {ops : Array Oper} {rest : List Oper} {o : Oper} {a : Act} {Q : Exit → Act → World → Prop} (hgd : o.guard = none) (s x : Operand)
    (ho : o.op = .call { callee := .builtin .append, args := #[s, x], argTypes := #[59, 59] })
    (base : Nat) (v : Value) (l : List UInt8) (c : UInt8) (hs : a.eval s = v) (hx : a.eval x = .slice (some ⟨w.heap.size, 0, none⟩) 1 1)
    (hown : w.ownsRow base 5 1 v l.length (Bys l)) (hbel : Below base W w) (hbase : base ≤ w.heap.size) (hlen : l.length + 1 ≤ 140737488355328)
    (h : ∀ v' w', w'.ownsRow base 5 1 v' (l ++ [c]).length (Bys (l ++ [c])) → Below base W w' → w.heap.size ≤ w'.heap.size → (∀ k, k < w.heap.size → some k ≠ v.ownBlock → w'.heap[k]? = w.heap[k]?) → wpList Try.prog ops Q rest (a.put o.dst v') w') :
    wpList Try.prog ops Q (o :: rest) a (w.alloc (.cells #[.int .u8 (c.toNat : Int)] 5)) := by
  obtain ⟨i0, hi, hz0, hz1, hz2⟩ := info_parts Try.infoU8
  refine wpList_append_own _ hgd s x 59 ho base 5 i0 (.int .u8 0) 1 1 Try.underlying59 hi hz0 hz1 hz2 rfl (by decide) v l.length (Bys l) hs (hown.alloc _) ⟨w.heap.size, 0, none⟩ 1 1 [By c] hx rfl ?_ ?_ ?_ ?_ ?_ ?_
  · intro j u hj
    match j, hj with
    | 0, hj => simp at hj; subst hj; simp [Addr.add, By]
  · intro u hu; simp at hu; subst hu; rfl
  · unfold maxLen; omega
  · omega
  · simp; omega
  · intro v' w' h1 h2 _
    refine h v' w' ?_ ?_ ?_ ?_
    · rw [Bys_append, List.length_append]; exact h1
    · exact (hbel.alloc hbase _).grown h2 (by simp; omega) (fun k hk => (hown.lt k hk).1)
    · have := h2.size; simp at this; omega
    · intro k hk hn
      rw [h2.block k (by simp; omega) hn, Below.heap_alloc _ _ _ hk]

end Go.Proofs.Ytjebhbopmfcopaa

namespace Go.Proofs.Ytjebhbopmfcopaa
open Go.RowKit

/-- n marks, as cells -/
def marks (M : List UInt8) (n : Nat) : List Value := Prs (List.replicate n (M, []))

theorem marks_length (M : List UInt8) (n : Nat) : (marks M n).length = n * 2 := by rw [marks, Prs_length, List.length_replicate]
theorem marks_add (M : List UInt8) (n m : Nat) : marks M (n + m) = marks M n ++ marks M m := by rw [marks, marks, marks, ← Prs_append, List.replicate_append_replicate]
theorem marks_one (M : List UInt8) (n : Nat) : ∀ u ∈ marks M n, u.oneCell' = true := Prs_one _
theorem marks_take (M : List UInt8) (n m : Nat) (h : n ≤ m) : (marks M m).take (n * 2) = marks M n := by
  obtain ⟨k, rfl⟩ : ∃ k, m = n + k := ⟨m - n, by omega⟩
  rw [marks_add, List.take_append_of_le_length (by rw [marks_length]; exact Nat.le_refl _), List.take_of_length_le (by rw [marks_length]; exact Nat.le_refl _)]

theorem own_base {w : World} {b b' e size n : Nat} {v : Value} {xs : List Value} (h : w.ownsRow b e size v n xs) (hb : b' ≤ b) : w.ownsRow b' e size v n xs := by
  refine ⟨h.1, ?_⟩
  rcases h.2 with h0 | ⟨g, cap, cur, rfl, h1, h2⟩
  · exact .inl h0
  · exact .inr ⟨g, cap, cur, rfl, by omega, h2⟩

/-- a marked list stays marked while another that shares its row is written up to at least its end -/
theorem marks_stay {w w' : World} {base e g n N cap : Nat} {M : List UInt8} (hl : w.ownsRow base e 2 (.slice (some ⟨g, 0, none⟩) n cap) n (marks M n)) (hl' : w'.ownsRow base e 2 (.slice (some ⟨g, 0, none⟩) N cap) N (marks M N)) (hg : w.grownBy w' (some g))
    {v0 : Value} {n0 : Nat} (h0 : w.ownsRow base e 2 v0 n0 (marks M n0)) (hn : n0 ≤ N) : w'.ownsRow base e 2 v0 n0 (marks M n0) := by
  refine ⟨h0.1, ?_⟩
  rcases h0.2 with h | ⟨g0, cap0, cur0, rfl, hb0, hg0, hnc0, hcm0, hcs0, ht0⟩
  · exact .inl h
  · by_cases he : g0 = g
    · subst he
      rcases hl.2 with ⟨h, _⟩ | ⟨g1, cap1, cur1, hv1, _, hg1, _, _, hcs1, _⟩
      · simp at h
      rcases hl'.2 with ⟨h, _⟩ | ⟨g2, cap2, cur2, hv2, _, hg2, hnc2, hcm2, hcs2, ht2⟩
      · simp at h
      simp only [Value.slice.injEq, Option.some.injEq, Addr.mk.injEq, and_true, true_and] at hv1 hv2
      obtain ⟨rfl, rfl⟩ := hv1
      obtain ⟨rfl, rfl⟩ := hv2
      rw [hg0] at hg1
      simp only [Option.some.injEq, Obj.cells.injEq] at hg1
      have hcc : cap0 = cap := by have := hg1.1; rw [this] at hcs0; omega
      subst hcc
      refine .inr ⟨g0, cap0, cur2, rfl, hb0, hg2, hnc0, hcm0, hcs2, ?_⟩
      rw [← marks_take M n0 N hn, ← ht2, List.take_take, Nat.min_eq_left (by omega)]
    · refine .inr ⟨g0, cap0, cur0, rfl, hb0, ?_, hnc0, hcm0, hcs0, ht0⟩
      rw [hg.block g0 (Array.getElem?_eq_some_iff.1 hg0).1 (by simpa using he)]
      exact hg0

theorem grown_weak {w w' : World} {row : Option Nat} (h : w.grownBy w' none) : w.grownBy w' row := ⟨h.os, h.tape, h.output, h.size, fun k hk _ => h.block k hk (by simp)⟩
theorem grown_alloc {w w' : World} {o : Obj} {row : Option Nat} (h : (w.alloc o).grownBy w' row) : w.grownBy w' row :=
  ⟨h.os, h.tape, h.output, by have := h.size; simp at this; omega, fun k hk hn => by rw [h.block k (by simp; omega) hn, Below.heap_alloc _ _ _ hk]⟩
theorem grown_trans {a b c : World} {row : Option Nat} (h : a.grownBy b row) (k : b.grownBy c row) : a.grownBy c row :=
  ⟨k.os.trans h.os, k.tape.trans h.tape, k.output.trans h.output, Nat.le_trans h.size k.size, fun q hq hn => (k.block q (by have := h.size; omega) hn).trans (h.block q hq hn)⟩

/-- 'x = append(l, m, ..)', l marked, as many marks more -/
theorem app_marks {w : World} {ops : Array Oper} {rest : List Oper} {o : Oper} {a : Act} {Q : Exit → Act → World → Prop} (hgd : o.guard = none) (s x : Operand) (t : TypeId)
    (ho : o.op = .call { callee := .builtin .append, args := #[s, x], argTypes := #[t, t] })
    (base : Nat) (e : TypeId) (ht : Try.prog.underlying t = some (.slice e)) (hinfo : (Try.prog.info? e).map (fun i => (i.zero, i.size, i.bytes)) = some (some (.agg #[.string ⟨#[]⟩, .string ⟨#[]⟩]), 2, 32))
    (lv : Value) (n m : Nat) (M : List UInt8) (C : Array Value) (hs : a.eval s = lv) (hx : a.eval x = .slice (some ⟨w.heap.size, 0, none⟩) m m) (hC : C.toList = marks M m)
    (hown : w.ownsRow base e 2 lv n (marks M n)) (hbase : base ≤ w.heap.size) (hlen : n + m ≤ 100000) (hm : 0 < m)
    (h : ∀ v' w', w'.ownsRow base e 2 v' (n + m) (marks M (n + m)) → (∀ v0 n0, n0 ≤ n + m → w.ownsRow base e 2 v0 n0 (marks M n0) → w'.ownsRow base e 2 v0 n0 (marks M n0)) → w.grownBy w' lv.ownBlock → wpList Try.prog ops Q rest (a.put o.dst v') w') :
    wpList Try.prog ops Q (o :: rest) a (w.alloc (.cells C e)) := by
  obtain ⟨i0, hi, hz0, hz1, hz2⟩ := info_parts hinfo
  have hnews : ∀ j u, (marks M m)[j]? = some u → (w.alloc (.cells C e)).cell? ((⟨w.heap.size, 0, none⟩ : Addr).add j) = some u := by
    intro j u hj
    rw [Addr.add_lit, Nat.zero_add, cell_of_row _ _ j C e (0, 0) (heap_alloc_new w _), ← hj, ← hC]
    simp
  have hal := hown.alloc (.cells C e)
  rcases hown.2 with ⟨hv, h0⟩ | ⟨g, cap, cur, hv, hb, hg, hnc, hcm, hcs, htk⟩
  · subst hv h0
    refine wpList_append_grows _ hgd s x t ho e i0 _ 2 32 ht hi hz0 hz1 hz2 rfl (by decide) none 0 0 [] hs (fun _ => ⟨rfl, rfl⟩) rfl (fun b hb => by cases hb) ⟨w.heap.size, 0, none⟩ m m (marks M m) hx (marks_length M m) hnews (marks_one M m) ?_ (by unfold maxLen; omega) (by omega) ?_
    · omega
    · intro v' w' h1 h2
      have h3 := grown_alloc h2
      refine h v' w' ?_ (fun v0 n0 _ hv0 => hv0.kept h3 ?_) (grown_weak h3)
      · rw [marks_add]; exact own_base h1 (by simp; omega)
      · cases hq : v0.ownBlock <;> simp
  · subst hv
    by_cases hroom : n + m ≤ cap
    · refine wpList_append_fits _ hgd s x t ho base e i0 2 ht hi hz1 g n cap (marks M n) hs hal ⟨w.heap.size, 0, none⟩ m m (marks M m) hx (marks_length M m) hnews (marks_one M m) hroom ?_
      intro w' h1 h2
      rw [← marks_add] at h1
      have h3 := grown_alloc h2
      exact h _ w' h1 (fun v0 n0 hn0 hv0 => marks_stay hown h1 h3 hv0 hn0) h3
    · refine wpList_append_grows _ hgd s x t ho e i0 _ 2 32 ht hi hz0 hz1 hz2 rfl (by decide) (some ⟨g, 0, none⟩) n cap (marks M n) hs (fun h => by cases h) (marks_length M n) (fun b hb j u hj => ?_) ⟨w.heap.size, 0, none⟩ m m (marks M m) hx (marks_length M m) hnews (marks_one M m) (by omega) (by unfold maxLen; omega) (by omega) ?_
      · obtain rfl := Option.some.inj hb
        exact hal.cells rfl j u hj
      · intro v' w' h1 h2
        have h3 := grown_alloc h2
        refine h v' w' ?_ (fun v0 n0 _ hv0 => hv0.kept h3 ?_) (grown_weak h3)
        · rw [marks_add]; exact own_base h1 (by simp; omega)
        · cases hq : v0.ownBlock <;> simp

end Go.Proofs.Ytjebhbopmfcopaa

namespace Go.Proofs.Ytjebhbopmfcopaa
open Go.RowKit

/-- contigs from the head of a block on -/
def Cs (w : World) (G : Nat) (cs : List Pr) : Prop := ∀ k (h : k < cs.length), w.cell? ⟨G, k * 2, none⟩ = some (.string ⟨cs[k].1.toArray⟩) ∧ w.cell? ⟨G, k * 2 + 1, none⟩ = some (.string ⟨cs[k].2.toArray⟩)

theorem Cs.below {w w' : World} {G : Nat} {cs : List Pr} (h : Cs w G cs) (hb : Below w.heap.size w w') : Cs w' G cs := by
  intro k hk
  obtain ⟨h0, h1⟩ := h k hk
  have hl := World.block_lt_of_cell? w _ h0
  rw [hb.cell (p := ⟨G, k * 2, none⟩) hl, hb.cell (p := ⟨G, k * 2 + 1, none⟩) hl]
  exact ⟨h0, h1⟩

theorem strEmpty (l : List UInt8) : l.isEmpty = decide (l.length = 0) := by cases l <;> simp

set_option maxRecDepth 100000 in
set_option maxHeartbeats 1600000 in
theorem areContigs_any (cs : List Pr) (G cc : Nat) (w : World) (hc : cs.length ≤ 140737488355327) (hN : ∀ x ∈ cs, x.2.length ≤ 140737488355327) (hC : Cs w G cs) :
    Calls Try.prog 39 #[.slice (some ⟨G, 0, none⟩) cs.length cc] w fun e w' => e = .returned (.bool (!cs.any Se.wrong && decide (0 < cs.length))) ∧ Below w.heap.size w w' := by
  obtain ⟨R, hR⟩ : ∃ R, R = (!cs.any Se.wrong && decide (0 < cs.length)) := ⟨_, rfl⟩
  rw [← hR]
  have HR : Hid _ := hR
  have HN : Hid _ := hN
  have HC : Hid (Cs w G cs) := hC
  clear hR hN hC
  go_enter Try.func39, Try.ntmps39
  go_wp2
  go_loopw [7] (fun i wr => ∃ k : Nat, k ≤ cs.length ∧ i = .int .i64 (k : Int) ∧ Below w.heap.size w wr ∧ Hid ((cs.take k).any Se.wrong = false)) (fun i _ => cs.length - (intOf i).toNat)
  case atStart => exact ⟨0, Nat.zero_le _, rfl, Below.refl _ _, by simp [Hid]⟩
  case round =>
    obtain ⟨k, hk, rfl, hbel, HA⟩ := hrel
    by_cases hlt : k < cs.length
    · have hlt' : (k : Int) < (cs.length : Int) := by omega
      obtain ⟨p0, p1⟩ := Cs.below HC.out hbel k hlt
      have HAT : Hid _ := Se.any_take cs k hlt HA.out
      have HAA : Hid _ := Se.any_at cs k hlt
      have hcN : cs[k].2.length ≤ 140737488355327 := HN.out _ (List.getElem_mem _)
      have hB0 := hbel.size
      obtain ⟨y, hy⟩ : ∃ y : Pr, y = cs[k] := ⟨_, rfl⟩
      rw [← hy] at p0 p1 HAT HAA hcN
      clear hy HA
      have hsz : (⟨y.2.toArray⟩ : ByteArray).size = y.2.length := by simp [ByteArray.size]
      have hsm : (⟨y.2.toArray⟩ : ByteArray).size ≤ maxLen := by rw [hsz]; unfold maxLen; omega
      have hW : Se.wrong y = (!Lt.allL y.2 || y.2.length == 0) := rfl
      have HW : Hid _ := hW
      have HB : Hid _ := hbel
      clear hW hbel
      have HNW : Hid (∀ o, Below w.heap.size w (wr.alloc o)) := fun o => HB.out.alloc hB0 o
      by_cases h0 : y.2 = []
      · have HF : Hid (R = false) := by show _ = _; rw [HR.out, HAA.out (by rw [HW.out, h0]; simp)]; rfl
        clear HAT HAA HW
        go_wp2
        go_ret
        exact ⟨ret_bool HF.out.symm, HNW.out _⟩
      · cases hL : Lt.allL y.2 with
        | false =>
          have HL : Hid _ := hL
          have HF : Hid (R = false) := by show _ = _; rw [HR.out, HAA.out (by rw [HW.out, hL]; rfl)]; rfl
          have hie : y.2.isEmpty = false := by simpa using h0
          clear hL HAT HAA HW h0
          go_wp2_with (go_at_call 24; refine (areLetters_any _ _ hsm).mono ?_; rintro e w' ⟨rfl, hw⟩; subst w'; rw [HL.out])
          go_ret
          exact ⟨ret_bool HF.out.symm, HNW.out _⟩
        | true =>
          have HL : Hid _ := hL
          have HA2 : Hid _ := HAT.out (by rw [HW.out, hL]; simpa using h0)
          have hie : y.2.isEmpty = false := by simpa using h0
          clear hL HAT HAA HW h0
          go_wp2_with (go_at_call 24; refine (areLetters_any _ _ hsm).mono ?_; rintro e w' ⟨rfl, hw⟩; subst w'; rw [HL.out])
          go_roundw
          case rel => exact ⟨k + 1, by omega, by go_num, HNW.out _, HA2.out⟩
          case measure => simp [intOf]; omega
    · have hke : k = cs.length := by omega
      have HF : Hid (R = decide (0 < cs.length)) := by
        show _ = _
        have h1 := HA.out
        rw [hke, List.take_length] at h1
        rw [HR.out, h1, Bool.not_false, Bool.true_and]
      have hlt' : ¬ (k : Int) < (cs.length : Int) := by omega
      clear HA hke
      go_wp2
      go_ret
      exact ⟨ret_bool HF.out.symm, hbel⟩

set_option maxRecDepth 100000 in
set_option maxHeartbeats 400000 in
theorem areContigs_nil (w : World) : Calls Try.prog 39 #[.slice none 0 0] w fun e w' => e = .returned (.bool false) ∧ w' = w := by
  go_enter Try.func39, Try.ntmps39
  go_wp2
  refine wp_loop_rounds 1 ?_
  rw [rounds_succ]
  go_wp2
  go_ret
  exact ⟨rfl, rfl⟩

set_option maxRecDepth 100000 in
set_option maxHeartbeats 1600000 in
theorem areTooMany_any (cs : List Pr) (G cc : Nat) (w : World) (hc : cs.length ≤ 140737488355327) (hN : ∀ x ∈ cs, x.2.length ≤ 140737488355327) (hC : Cs w G cs) :
    Calls Try.prog 40 #[.slice (some ⟨G, 0, none⟩) cs.length cc] w fun e w' => e = .returned (.bool (decide (4096 < Se.total cs) || decide (16 < cs.length))) ∧ Below w.heap.size w w' := by
  obtain ⟨R, hR⟩ : ∃ R, R = (decide (4096 < Se.total cs) || decide (16 < cs.length)) := ⟨_, rfl⟩
  rw [← hR]
  have HR : Hid _ := hR
  have HN : Hid _ := hN
  have HC : Hid (Cs w G cs) := hC
  clear hR hN hC
  go_enter Try.func40, Try.ntmps40
  go_wp2
  go_loopw [3, 8] (fun l i wr => ∃ k t : Nat, k ≤ cs.length ∧ i = .int .i64 (k : Int) ∧ l = .int .i64 (4096 - (t : Int)) ∧ t ≤ 4096 ∧ Below w.heap.size w wr ∧ Hid (t = Se.total (cs.take k))) (fun _ i _ => cs.length - (intOf i).toNat)
  case atStart => exact ⟨0, 0, Nat.zero_le _, rfl, by simp, by omega, Below.refl _ _, by simp [Hid, Se.total]⟩
  case round =>
    obtain ⟨k, t, hk, rfl, rfl, ht, hbel, HA⟩ := hrel
    by_cases hlt : k < cs.length
    · have hlt' : (k : Int) < (cs.length : Int) := by omega
      obtain ⟨p0, p1⟩ := Cs.below HC.out hbel k hlt
      have HTT : Hid _ := Se.total_take cs k hlt
      have HPP : Hid (Se.total (cs.take (k + 1)) ≤ Se.total cs) := by
        show _ ≤ _
        have := Se.total_append (cs.take (k + 1)) (cs.drop (k + 1))
        rw [List.take_append_drop] at this
        omega
      have hcN : cs[k].2.length ≤ 140737488355327 := HN.out _ (List.getElem_mem _)
      have hB0 := hbel.size
      obtain ⟨y, hy⟩ : ∃ y : Pr, y = cs[k] := ⟨_, rfl⟩
      rw [← hy] at p0 p1 HTT hcN
      clear hy
      have hsz : (⟨y.2.toArray⟩ : ByteArray).size = y.2.length := by simp [ByteArray.size]
      have HNW : Hid (∀ o, Below w.heap.size w (wr.alloc o)) := fun o => hbel.alloc hB0 o
      clear hbel
      by_cases h0 : 4096 - t < y.2.length
      · have h0' : (4096 : Int) - (t : Int) < (y.2.length : Int) := by omega
        have HF : Hid (R = true) := by
          show _ = _
          have h1 := HTT.out
          have h2 := HPP.out
          rw [← HA.out] at h1
          rw [HR.out, decide_eq_true (by omega), Bool.true_or]
        clear HTT HPP HA
        go_wp2
        go_ret
        exact ⟨ret_bool HF.out.symm, HNW.out _⟩
      · have h0' : ¬ (4096 : Int) - (t : Int) < (y.2.length : Int) := by omega
        have HA2 : Hid (t + y.2.length = Se.total (cs.take (k + 1))) := by show _ = _; rw [HTT.out, ← HA.out]
        clear HTT HPP HA
        go_wp2
        go_roundw
        case rel => exact ⟨k + 1, t + y.2.length, by omega, by go_num, by go_num, by omega, HNW.out _, HA2.out⟩
        case measure => simp [intOf]; omega
    · have hke : k = cs.length := by omega
      have HF : Hid (R = decide ((16 : Int) < (cs.length : Int))) := by
        show _ = _
        have h1 := HA.out
        rw [hke, List.take_length] at h1
        rw [HR.out, decide_eq_false (by omega), Bool.false_or, decide_eq_decide]
        omega
      have hlt' : ¬ (k : Int) < (cs.length : Int) := by omega
      clear HA hke
      go_wp2
      go_ret
      exact ⟨ret_bool HF.out.symm, hbel⟩

theorem Ix.frm_pos {n : Int} (hn : Lt.strandB n = true) : Lt.frm n ≠ 0 := by
  have h4 : n = 1 ∨ n = 2 ∨ n = 3 ∨ n = 4 := by
    simp only [Lt.strandB, Bool.and_eq_true, decide_eq_true_eq] at hn
    omega
  rcases h4 with rfl | rfl | rfl | rfl <;> decide

set_option maxRecDepth 100000 in
set_option maxHeartbeats 400000 in
theorem ixConvert_any (s : ByteArray) (n : Int) (w : World) (hs : s.size ≤ maxLen) (hL : Lt.allL s.data.toList = true) (hn : Lt.strandB n = true) :
    Calls Try.prog 35 #[.string s, .int .i64 n] w fun e w' => e = .returned (.string ⟨(Lt.conv (Lt.frm n) (Lt.tow n) s.data.toList).toArray⟩) ∧ Below w.heap.size w w' := by
  have HL : Hid _ := hL
  have HN : Hid _ := hn
  clear hL hn
  go_enter Try.func35, Try.ntmps35
  go_wp2_with (go_at_call 10; refine (convert_good _ _ _ _ _ hs HL.out rfl rfl (Ix.frm_pos HN.out)).mono ?_; rintro e w1 ⟨rfl, hb1⟩)
  go_ret
  exact ⟨rfl, hb1⟩

/-- the letters of contigs, bleached, as cells -/
def Ix.str (n : Int) (x : Pr) : Value := .string ⟨(Lt.conv (Lt.frm n) (Lt.tow n) x.2).toArray⟩
def Ix.strs (n : Int) (cs : List Pr) : List Value := cs.map (Ix.str n)
theorem Ix.strs_length (n : Int) (cs : List Pr) : (Ix.strs n cs).length = cs.length := by simp [Ix.strs]
/-- while they are made -/
def Ix.part (n : Int) (cs : List Pr) (k : Nat) : List Value := Ix.strs n (cs.take k) ++ List.replicate (cs.length - k) (.string ⟨#[]⟩)
theorem Ix.part_zero (n : Int) (cs : List Pr) : Ix.part n cs 0 = List.replicate cs.length (.string ⟨#[]⟩) := by simp [Ix.part, Ix.strs]
theorem Ix.part_whole (n : Int) (cs : List Pr) : Ix.part n cs cs.length = Ix.strs n cs := by simp [Ix.part]
theorem Ix.part_set (n : Int) (cs : List Pr) (k : Nat) (h : k < cs.length) : (Ix.part n cs k).set k (Ix.str n cs[k]) = Ix.part n cs (k + 1) := by
  unfold Ix.part
  have h1 : (Ix.strs n (cs.take k)).length = k := by rw [Ix.strs_length, List.length_take]; omega
  rw [List.set_append, if_neg (by omega), h1, Nat.sub_self, List.take_succ_eq_append_getElem h]
  obtain ⟨m, hm⟩ : ∃ m, cs.length - k = m + 1 := ⟨cs.length - k - 1, by omega⟩
  rw [hm, show cs.length - (k + 1) = m by omega, List.replicate_succ, List.set_cons_zero]
  simp only [Ix.strs, List.map_append, List.map_cons, List.map_nil, List.append_assoc, List.singleton_append]

theorem Try.infoStr : (Try.prog.info? 9).map (fun i => (i.zero, i.size, i.bytes)) = some (some (.string ⟨#[]⟩), 1, 16) := by kernel_rfl

set_option maxRecDepth 100000 in
set_option maxHeartbeats 1600000 in
theorem converted_any (cs : List Pr) (G cc : Nat) (n : Int) (w : World) (hc : cs.length ≤ 1000) (hN : ∀ x ∈ cs, x.2.length ≤ 100000) (hL : ∀ x ∈ cs, Lt.allL x.2 = true) (hn : Lt.strandB n = true) (hC : Cs w G cs) :
    Calls Try.prog 41 #[.slice (some ⟨G, 0, none⟩) cs.length cc, .int .i64 n] w fun e w' => ∃ v, e = .returned v ∧ w'.ownsRow w.heap.size 9 1 v cs.length (Ix.strs n cs) ∧ Below w.heap.size w w' := by
  have HN : Hid _ := hN
  have HL : Hid _ := hL
  have HS : Hid _ := hn
  have HC : Hid (Cs w G cs) := hC
  clear hN hL hn hC
  obtain ⟨i0, hi, hz0, hz1, hz2⟩ := info_parts Try.infoStr
  go_enter Try.func41, Try.ntmps41
  go_wp2_with (at_make; refine wpList_make_full _ rfl _ _ 28 rfl w.heap.size 9 i0 (.string ⟨#[]⟩) 1 Try.underlying28 hi hz0 hz1 _ _ _ _ cs.length rfl rfl rfl rfl (by rw [hz2]; omega) (by unfold maxLen; omega) (Nat.le_refl _) ?_; intro w1 hown0 hgrow; rw [show (madeCells (Value.string ⟨#[]⟩).cells (cs.length * 1)).toList = List.replicate cs.length (.string ⟨#[]⟩) from by rw [Nat.mul_one]; exact toList_madeCells_one _ _, ← Ix.part_zero n cs] at hown0)
  have hb1 : Below w.heap.size w w1 := (Below.refl _ _).grown hgrow (Nat.le_refl _) (fun k hk => by cases hk)
  clear hgrow
  go_loopw [13] (fun i wr => ∃ k : Nat, k ≤ cs.length ∧ i = .int .i64 (k : Int) ∧ wr.ownsRow w.heap.size 9 1 (.slice (some ⟨w.heap.size, 0, none⟩) cs.length cs.length) cs.length (Ix.part n cs k) ∧ Below w.heap.size w wr) (fun i _ => cs.length - (intOf i).toNat)
  case atStart => exact ⟨0, Nat.zero_le _, rfl, hown0, hb1⟩
  case round =>
    clear hown0 hb1
    obtain ⟨k, hk, rfl, hown, hbel⟩ := hrel
    by_cases hlt : k < cs.length
    · have hlt' : (k : Int) < (cs.length : Int) := by omega
      obtain ⟨p0, p1⟩ := Cs.below HC.out hbel k hlt
      have hcN : cs[k].2.length ≤ 100000 := HN.out _ (List.getElem_mem _)
      have HLk : Hid _ := HL.out cs[k] (List.getElem_mem _)
      have HSET : Hid _ := Ix.part_set n cs k hlt
      have hB0 := hbel.size
      obtain ⟨y, hy⟩ : ∃ y : Pr, y = cs[k] := ⟨_, rfl⟩
      rw [← hy] at p0 p1 HLk HSET hcN
      clear hy
      have hsz : (⟨y.2.toArray⟩ : ByteArray).size = y.2.length := by simp [ByteArray.size]
      have hsm : (⟨y.2.toArray⟩ : ByteArray).size ≤ maxLen := by rw [hsz]; unfold maxLen; omega
      have HO : Hid _ := hown
      have HB : Hid _ := hbel
      clear hown hbel
      go_wp2_with fail
      refine (ixConvert_any ⟨y.2.toArray⟩ n _ hsm (by simpa using HLk.out) HS.out).mono ?_
      rintro e w2 ⟨rfl, hb2⟩
      rw [show (⟨y.2.toArray⟩ : ByteArray).data.toList = y.2 from by simp]
      have hstr : Ix.str n y = .string ⟨(Lt.conv (Lt.frm n) (Lt.tow n) y.2).toArray⟩ := rfl
      rw [hstr] at HSET
      generalize (⟨(Lt.conv (Lt.frm n) (Lt.tow n) y.2).toArray⟩ : ByteArray) = B at *
      have ho2 := own_below (World.ownsRow.alloc HO.out _) hb2
      obtain ⟨v0, hc0, _⟩ := own_cell ho2 k hlt
      have hfr := ho2.frozenAt k
      have hst := ho2.stored k (.string B)
      rw [HSET.out] at hst
      have HST : Hid _ := hst.1
      have hbB : Below w.heap.size w w2 := (HB.out.alloc hB0 _).trans (hb2.mono (by simp; omega))
      have HB2 : Hid _ := hbB.setCell (p := ⟨w.heap.size, k, none⟩) (Nat.le_refl _) (.string B)
      clear hst ho2 hbB hb2 p0 p1 hstr HSET
      go_wp2
      go_roundw
      case rel => exact ⟨k + 1, by omega, by go_num, HST.out, HB2.out⟩
      case measure => simp [intOf]; omega
    · have hke : k = cs.length := by omega
      rw [hke, Ix.part_whole] at hown
      have hlt' : ¬ (k : Int) < (cs.length : Int) := by omega
      clear hke
      go_wp2
      go_ret
      exact ⟨_, rfl, hown, hbel⟩

end Go.Proofs.Ytjebhbopmfcopaa
