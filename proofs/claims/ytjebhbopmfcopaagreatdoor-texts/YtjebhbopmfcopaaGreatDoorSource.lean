/-
  'append(own, src...)': what is appended came in, or is nil. Own text of the verifier.
-/
import Derived.Test.YtjebhbopmfcopaaGreatDoorBytes
import Derived.Laws.AppendOwnNone
namespace Go.Proofs.YtjebhbopmfcopaaGreatDoor
open Go.RowKit

/-- the value sv is a slice of m elements whose cells are xs (or nil, and there are none) -/
def Src (w : World) (sv : Value) (m : Nat) (xs : List Value) : Prop :=
  (sv = .slice none 0 0 ∧ m = 0 ∧ xs = []) ∨ ∃ ad c, sv = .slice (some ad) m c ∧ (∀ j u, xs[j]? = some u → w.cell? (ad.add j) = some u)

theorem Src.mono {w w' : World} {sv : Value} {m : Nat} {xs : List Value} (h : Src w sv m xs) (hb : Below w.heap.size w w') : Src w' sv m xs := by
  rcases h with h | ⟨ad, c, rfl, hc⟩
  · exact .inl h
  · refine .inr ⟨ad, c, rfl, fun j u hj => ?_⟩
    have h0 := hc j u hj
    rw [hb.cell (World.block_lt_of_cell? w _ h0)]
    exact h0

/-- 'own = append(own, src...)' -/
theorem app_src {W w : World} {ops : Array Oper} {rest : List Oper} {o : Oper} {a : Act} {Q : Exit → Act → World → Prop} (hgd : o.guard = none) (s x : Operand) (t : TypeId)
    (ho : o.op = .call { callee := .builtin .append, args := #[s, x], argTypes := #[t, t] })
    (base : Nat) (e : TypeId) (z : Value) (size bytes : Nat) (ht : Tryz.prog.underlying t = some (.slice e)) (hinfo : (Tryz.prog.info? e).map (fun i => (i.zero, i.size, i.bytes)) = some (some z, size, bytes)) (hzs : z.cells.size = size) (hsz : 0 < size)
    (v : Value) (n : Nat) (xs : List Value) (sv : Value) (m : Nat) (news : List Value) (hs : a.eval s = v) (hx : a.eval x = sv)
    (hown : w.ownsRow base e size v n xs) (hsrc : Src w sv m news) (hl : news.length = m * size) (h1 : ∀ u ∈ news, u.oneCell' = true)
    (hbel : Below base W w) (hbase : base ≤ w.heap.size) (hlen : (n + m) * bytes ≤ 140737488355328) (hb0 : 0 < bytes)
    (h : ∀ v' w', w'.ownsRow base e size v' (n + m) (xs ++ news) → Below base W w' → w.heap.size ≤ w'.heap.size → (∀ k, k < w.heap.size → some k ≠ v.ownBlock → w'.heap[k]? = w.heap[k]?) → wpList Tryz.prog ops Q rest (a.put o.dst v') w') :
    wpList Tryz.prog ops Q (o :: rest) a w := by
  obtain ⟨i0, hi, hz0, hz1, hz2⟩ := info_parts hinfo
  have hle : (n + m) * 1 ≤ (n + m) * bytes := Nat.mul_le_mul_left _ hb0
  rcases hsrc with ⟨rfl, rfl, rfl⟩ | ⟨ad, c, rfl, hc⟩
  · refine wpList_append_own_none hgd s x t ho base e i0 size ht hi v n xs hs hown hx ?_
    refine h v w ?_ hbel (Nat.le_refl _) (fun _ _ _ => rfl)
    rw [Nat.add_zero, List.append_nil]; exact hown
  · refine wpList_append_own _ hgd s x t ho base e i0 z size bytes ht hi hz0 hz1 hz2 hzs hsz v n xs hs hown ad m c news hx hl hc h1 ?_ hlen hbase ?_
    · unfold maxLen; omega
    · intro v' w' g1 g2 _
      exact h v' w' g1 (hbel.grown g2 hbase (fun k hk => (hown.lt k hk).1)) g2.size g2.block

end Go.Proofs.YtjebhbopmfcopaaGreatDoor
