/-
  LISTS THAT CAME OUT, MARKED BY THEIR OWNER: laws on rows of marks that share their room. Own text of the verifier.
-/
import Derived.Test.YtjebhbopmfcopaaGreatDoorTxMark
import Derived.Test.YtjebhbopmfcopaaGreatDoorScope
import Derived.ArgAppend
namespace Go.Proofs.YtjebhbopmfcopaaGreatDoor
open Go.RowKit

/-- n marks, as cells -/
def marks (M : List UInt8) (n : Nat) : List Value := Prs (List.replicate n (M, []))

theorem marks_length (M : List UInt8) (n : Nat) : (marks M n).length = n * 2 := by rw [marks, Prs_length, List.length_replicate]
theorem marks_add (M : List UInt8) (n m : Nat) : marks M (n + m) = marks M n ++ marks M m := by rw [marks, marks, marks, ← Prs_append, List.replicate_append_replicate]
theorem marks_one (M : List UInt8) (n : Nat) : ∀ u ∈ marks M n, u.oneCell' = true := Prs_one _
theorem marks_take (M : List UInt8) (n m : Nat) (h : n ≤ m) : (marks M m).take (n * 2) = marks M n := by
  obtain ⟨k, rfl⟩ : ∃ k, m = n + k := ⟨m - n, by omega⟩
  rw [marks_add, List.take_append_of_le_length (by rw [marks_length]; exact Nat.le_refl _), List.take_of_length_le (by rw [marks_length]; exact Nat.le_refl _)]

theorem own_base {w : World} {b b' e size n : Nat} {v : Value} {xs : List Value} (h : w.ownsRow b e size v n xs) (hb : b' ≤ b) : w.ownsRow b' e size v n xs := by
  refine ⟨h.1, ?_⟩
  rcases h.2 with h0 | ⟨g, cap, cur, rfl, h1, h2⟩
  · exact .inl h0
  · exact .inr ⟨g, cap, cur, rfl, by omega, h2⟩

/-- a marked list stays marked while another that shares its row is written up to at least its end -/
theorem marks_stay {w w' : World} {base e g n N cap : Nat} {M : List UInt8} (hl : w.ownsRow base e 2 (.slice (some ⟨g, 0, none⟩) n cap) n (marks M n)) (hl' : w'.ownsRow base e 2 (.slice (some ⟨g, 0, none⟩) N cap) N (marks M N)) (hg : w.grownBy w' (some g))
    {v0 : Value} {n0 : Nat} (h0 : w.ownsRow base e 2 v0 n0 (marks M n0)) (hn : n0 ≤ N) : w'.ownsRow base e 2 v0 n0 (marks M n0) := by
  refine ⟨h0.1, ?_⟩
  rcases h0.2 with h | ⟨g0, cap0, cur0, rfl, hb0, hg0, hnc0, hcm0, hcs0, ht0⟩
  · exact .inl h
  · by_cases he : g0 = g
    · subst he
      rcases hl.2 with ⟨h, _⟩ | ⟨g1, cap1, cur1, hv1, _, hg1, _, _, hcs1, _⟩
      · simp at h
      rcases hl'.2 with ⟨h, _⟩ | ⟨g2, cap2, cur2, hv2, _, hg2, hnc2, hcm2, hcs2, ht2⟩
      · simp at h
      simp only [Value.slice.injEq, Option.some.injEq, Addr.mk.injEq, and_true, true_and] at hv1 hv2
      obtain ⟨rfl, rfl⟩ := hv1
      obtain ⟨rfl, rfl⟩ := hv2
      rw [hg0] at hg1
      simp only [Option.some.injEq, Obj.cells.injEq] at hg1
      have hcc : cap0 = cap := by have := hg1.1; rw [this] at hcs0; omega
      subst hcc
      refine .inr ⟨g0, cap0, cur2, rfl, hb0, hg2, hnc0, hcm0, hcs2, ?_⟩
      rw [← marks_take M n0 N hn, ← ht2, List.take_take, Nat.min_eq_left (by omega)]
    · refine .inr ⟨g0, cap0, cur0, rfl, hb0, ?_, hnc0, hcm0, hcs0, ht0⟩
      rw [hg.block g0 (Array.getElem?_eq_some_iff.1 hg0).1 (by simpa using he)]
      exact hg0

theorem grown_weak {w w' : World} {row : Option Nat} (h : w.grownBy w' none) : w.grownBy w' row := ⟨h.os, h.tape, h.output, h.size, fun k hk _ => h.block k hk (by simp)⟩
theorem grown_alloc {w w' : World} {o : Obj} {row : Option Nat} (h : (w.alloc o).grownBy w' row) : w.grownBy w' row :=
  ⟨h.os, h.tape, h.output, by have := h.size; simp at this; omega, fun k hk hn => by rw [h.block k (by simp; omega) hn, Below.heap_alloc _ _ _ hk]⟩
theorem grown_trans {a b c : World} {row : Option Nat} (h : a.grownBy b row) (k : b.grownBy c row) : a.grownBy c row :=
  ⟨k.os.trans h.os, k.tape.trans h.tape, k.output.trans h.output, Nat.le_trans h.size k.size, fun q hq hn => (k.block q (by have := h.size; omega) hn).trans (h.block q hq hn)⟩

/-- 'x = append(l, m, ..)', l marked, as many marks more -/
theorem app_marks {w : World} {ops : Array Oper} {rest : List Oper} {o : Oper} {a : Act} {Q : Exit → Act → World → Prop} (hgd : o.guard = none) (s x : Operand) (t : TypeId)
    (ho : o.op = .call { callee := .builtin .append, args := #[s, x], argTypes := #[t, t] })
    (base : Nat) (e : TypeId) (ht : Tryz.prog.underlying t = some (.slice e)) (hinfo : (Tryz.prog.info? e).map (fun i => (i.zero, i.size, i.bytes)) = some (some (.agg #[.string ⟨#[]⟩, .string ⟨#[]⟩]), 2, 32))
    (lv : Value) (n m : Nat) (M : List UInt8) (C : Array Value) (hs : a.eval s = lv) (hx : a.eval x = .slice (some ⟨w.heap.size, 0, none⟩) m m) (hC : C.toList = marks M m)
    (hown : w.ownsRow base e 2 lv n (marks M n)) (hbase : base ≤ w.heap.size) (hlen : n + m ≤ 100000) (hm : 0 < m)
    (h : ∀ v' w', w'.ownsRow base e 2 v' (n + m) (marks M (n + m)) → (∀ v0 n0, n0 ≤ n + m → w.ownsRow base e 2 v0 n0 (marks M n0) → w'.ownsRow base e 2 v0 n0 (marks M n0)) → w.grownBy w' lv.ownBlock → wpList Tryz.prog ops Q rest (a.put o.dst v') w') :
    wpList Tryz.prog ops Q (o :: rest) a (w.alloc (.cells C e)) := by
  obtain ⟨i0, hi, hz0, hz1, hz2⟩ := info_parts hinfo
  have hnews : ∀ j u, (marks M m)[j]? = some u → (w.alloc (.cells C e)).cell? ((⟨w.heap.size, 0, none⟩ : Addr).add j) = some u := by
    intro j u hj
    rw [Addr.add_lit, Nat.zero_add, cell_of_row _ _ j C e (0, 0) (heap_alloc_new w _), ← hj, ← hC]
    simp
  have hal := hown.alloc (.cells C e)
  rcases hown.2 with ⟨hv, h0⟩ | ⟨g, cap, cur, hv, hb, hg, hnc, hcm, hcs, htk⟩
  · subst hv h0
    refine wpList_append_grows _ hgd s x t ho e i0 _ 2 32 ht hi hz0 hz1 hz2 rfl (by decide) none 0 0 [] hs (fun _ => ⟨rfl, rfl⟩) rfl (fun b hb => by cases hb) ⟨w.heap.size, 0, none⟩ m m (marks M m) hx (marks_length M m) hnews (marks_one M m) ?_ (by unfold maxLen; omega) (by omega) ?_
    · omega
    · intro v' w' h1 h2
      have h3 := grown_alloc h2
      refine h v' w' ?_ (fun v0 n0 _ hv0 => hv0.kept h3 ?_) (grown_weak h3)
      · rw [marks_add]; exact own_base h1 (by simp; omega)
      · cases hq : v0.ownBlock <;> simp
  · subst hv
    by_cases hroom : n + m ≤ cap
    · refine wpList_append_fits _ hgd s x t ho base e i0 2 ht hi hz1 g n cap (marks M n) hs hal ⟨w.heap.size, 0, none⟩ m m (marks M m) hx (marks_length M m) hnews (marks_one M m) hroom ?_
      intro w' h1 h2
      rw [← marks_add] at h1
      have h3 := grown_alloc h2
      exact h _ w' h1 (fun v0 n0 hn0 hv0 => marks_stay hown h1 h3 hv0 hn0) h3
    · refine wpList_append_grows _ hgd s x t ho e i0 _ 2 32 ht hi hz0 hz1 hz2 rfl (by decide) (some ⟨g, 0, none⟩) n cap (marks M n) hs (fun h => by cases h) (marks_length M n) (fun b hb j u hj => ?_) ⟨w.heap.size, 0, none⟩ m m (marks M m) hx (marks_length M m) hnews (marks_one M m) (by omega) (by unfold maxLen; omega) (by omega) ?_
      · obtain rfl := Option.some.inj hb
        exact hal.cells rfl j u hj
      · intro v' w' h1 h2
        have h3 := grown_alloc h2
        refine h v' w' ?_ (fun v0 n0 _ hv0 => hv0.kept h3 ?_) (grown_weak h3)
        · rw [marks_add]; exact own_base h1 (by simp; omega)
        · cases hq : v0.ownBlock <;> simp

end Go.Proofs.YtjebhbopmfcopaaGreatDoor
