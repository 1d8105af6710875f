/-
  LISTS OF ONE STRUCT OF TWO CELLS, many times: laws on rows that share their room (as TxMarks, for whatever two cells). Own text of the verifier.
-/
import Derived.Test.YtjebhbopmfcopaaGreatDoorTxMarks
namespace Go.Proofs.YtjebhbopmfcopaaGreatDoor
open Go.RowKit

/-- n times the cells A, B -/
def reps (A B : Value) (n : Nat) : List Value := (List.replicate n [A, B]).flatten

theorem reps_add (A B : Value) (n m : Nat) : reps A B (n + m) = reps A B n ++ reps A B m := by rw [reps, reps, reps, ← List.flatten_append, List.replicate_append_replicate]
theorem reps_succ (A B : Value) (n : Nat) : reps A B (n + 1) = reps A B n ++ [A, B] := by rw [reps_add]; rfl
theorem reps_length (A B : Value) (n : Nat) : (reps A B n).length = n * 2 := by
  induction n with
  | zero => rfl
  | succ n ih => rw [reps_succ, List.length_append, ih]; simp; omega
theorem reps_one (A B : Value) (hA : A.oneCell' = true) (hB : B.oneCell' = true) (n : Nat) : ∀ u ∈ reps A B n, u.oneCell' = true := by
  induction n with
  | zero => intro u hu; simp [reps] at hu
  | succ n ih =>
    intro u hu
    rw [reps_succ, List.mem_append] at hu
    rcases hu with hu | hu
    · exact ih u hu
    · simp at hu
      rcases hu with rfl | rfl
      · exact hA
      · exact hB
theorem reps_take (A B : Value) (n m : Nat) (h : n ≤ m) : (reps A B m).take (n * 2) = reps A B n := by
  obtain ⟨k, rfl⟩ : ∃ k, m = n + k := ⟨m - n, by omega⟩
  rw [reps_add, List.take_append_of_le_length (by rw [reps_length]; exact Nat.le_refl _), List.take_of_length_le (by rw [reps_length]; exact Nat.le_refl _)]

/-- a marked list stays marked while another that shares its row is written up to at least its end -/
theorem reps_stay {w w' : World} {base e g n N cap : Nat} {A B : Value} (hl : w.ownsRow base e 2 (.slice (some ⟨g, 0, none⟩) n cap) n (reps A B n)) (hl' : w'.ownsRow base e 2 (.slice (some ⟨g, 0, none⟩) N cap) N (reps A B N)) (hg : w.grownBy w' (some g))
    {v0 : Value} {n0 : Nat} (h0 : w.ownsRow base e 2 v0 n0 (reps A B n0)) (hn : n0 ≤ N) : w'.ownsRow base e 2 v0 n0 (reps A B n0) := by
  refine ⟨h0.1, ?_⟩
  rcases h0.2 with h | ⟨g0, cap0, cur0, rfl, hb0, hg0, hnc0, hcm0, hcs0, ht0⟩
  · exact .inl h
  · by_cases he : g0 = g
    · subst he
      rcases hl.2 with ⟨h, _⟩ | ⟨g1, cap1, cur1, hv1, _, hg1, _, _, hcs1, _⟩
      · simp at h
      rcases hl'.2 with ⟨h, _⟩ | ⟨g2, cap2, cur2, hv2, _, hg2, hnc2, hcm2, hcs2, ht2⟩
      · simp at h
      simp only [Value.slice.injEq, Option.some.injEq, Addr.mk.injEq, and_true, true_and] at hv1 hv2
      obtain ⟨rfl, rfl⟩ := hv1
      obtain ⟨rfl, rfl⟩ := hv2
      rw [hg0] at hg1
      simp only [Option.some.injEq, Obj.cells.injEq] at hg1
      have hcc : cap0 = cap := by have := hg1.1; rw [this] at hcs0; omega
      subst hcc
      refine .inr ⟨g0, cap0, cur2, rfl, hb0, hg2, hnc0, hcm0, hcs2, ?_⟩
      rw [← reps_take A B n0 N hn, ← ht2, List.take_take, Nat.min_eq_left (by omega)]
    · refine .inr ⟨g0, cap0, cur0, rfl, hb0, ?_, hnc0, hcm0, hcs0, ht0⟩
      rw [hg.block g0 (Array.getElem?_eq_some_iff.1 hg0).1 (by simpa using he)]
      exact hg0

/-- 'x = append(l, m, ..)', l marked, as many marks more -/
theorem app_reps {w : World} {ops : Array Oper} {rest : List Oper} {o : Oper} {a : Act} {Q : Exit → Act → World → Prop} (hgd : o.guard = none) (s x : Operand) (t : TypeId)
    (ho : o.op = .call { callee := .builtin .append, args := #[s, x], argTypes := #[t, t] })
    (base : Nat) (e : TypeId) (ht : Tryz.prog.underlying t = some (.slice e)) (hinfo : (Tryz.prog.info? e).map (fun i => (i.zero, i.size, i.bytes)) = some (some (.agg #[.int .i64 0, .int .i64 0]), 2, 16))
    (lv : Value) (n m : Nat) (A B : Value) (hA : A.oneCell' = true) (hB : B.oneCell' = true) (C : Array Value) (hs : a.eval s = lv) (hx : a.eval x = .slice (some ⟨w.heap.size, 0, none⟩) m m) (hC : C.toList = reps A B m)
    (hown : w.ownsRow base e 2 lv n (reps A B n)) (hbase : base ≤ w.heap.size) (hlen : n + m ≤ 100000) (hm : 0 < m)
    (h : ∀ v' w', w'.ownsRow base e 2 v' (n + m) (reps A B (n + m)) → (∀ v0 n0, n0 ≤ n + m → w.ownsRow base e 2 v0 n0 (reps A B n0) → w'.ownsRow base e 2 v0 n0 (reps A B n0)) → w.grownBy w' lv.ownBlock → wpList Tryz.prog ops Q rest (a.put o.dst v') w') :
    wpList Tryz.prog ops Q (o :: rest) a (w.alloc (.cells C e)) := by
  obtain ⟨i0, hi, hz0, hz1, hz2⟩ := info_parts hinfo
  have hnews : ∀ j u, (reps A B m)[j]? = some u → (w.alloc (.cells C e)).cell? ((⟨w.heap.size, 0, none⟩ : Addr).add j) = some u := by
    intro j u hj
    rw [Addr.add_lit, Nat.zero_add, cell_of_row _ _ j C e (0, 0) (heap_alloc_new w _), ← hj, ← hC]
    simp
  have hal := hown.alloc (.cells C e)
  rcases hown.2 with ⟨hv, h0⟩ | ⟨g, cap, cur, hv, hb, hg, hnc, hcm, hcs, htk⟩
  · subst hv h0
    refine wpList_append_grows _ hgd s x t ho e i0 _ 2 16 ht hi hz0 hz1 hz2 rfl (by decide) none 0 0 [] hs (fun _ => ⟨rfl, rfl⟩) rfl (fun b hb => by cases hb) ⟨w.heap.size, 0, none⟩ m m (reps A B m) hx (reps_length A B m) hnews (reps_one A B hA hB m) ?_ (by unfold maxLen; omega) (by omega) ?_
    · omega
    · intro v' w' h1 h2
      have h3 := grown_alloc h2
      refine h v' w' ?_ (fun v0 n0 _ hv0 => hv0.kept h3 ?_) (grown_weak h3)
      · rw [reps_add]; exact own_base h1 (by simp; omega)
      · cases hq : v0.ownBlock <;> simp
  · subst hv
    by_cases hroom : n + m ≤ cap
    · refine wpList_append_fits _ hgd s x t ho base e i0 2 ht hi hz1 g n cap (reps A B n) hs hal ⟨w.heap.size, 0, none⟩ m m (reps A B m) hx (reps_length A B m) hnews (reps_one A B hA hB m) hroom ?_
      intro w' h1 h2
      rw [← reps_add] at h1
      have h3 := grown_alloc h2
      exact h _ w' h1 (fun v0 n0 hn0 hv0 => reps_stay hown h1 h3 hv0 hn0) h3
    · refine wpList_append_grows _ hgd s x t ho e i0 _ 2 16 ht hi hz0 hz1 hz2 rfl (by decide) (some ⟨g, 0, none⟩) n cap (reps A B n) hs (fun h => by cases h) (reps_length A B n) (fun b hb j u hj => ?_) ⟨w.heap.size, 0, none⟩ m m (reps A B m) hx (reps_length A B m) hnews (reps_one A B hA hB m) (by omega) (by unfold maxLen; omega) (by omega) ?_
      · obtain rfl := Option.some.inj hb
        exact hal.cells rfl j u hj
      · intro v' w' h1 h2
        have h3 := grown_alloc h2
        refine h v' w' ?_ (fun v0 n0 _ hv0 => hv0.kept h3 ?_) (grown_weak h3)
        · rw [reps_add]; exact own_base h1 (by simp; omega)
        · cases hq : v0.ownBlock <;> simp

end Go.Proofs.YtjebhbopmfcopaaGreatDoor
