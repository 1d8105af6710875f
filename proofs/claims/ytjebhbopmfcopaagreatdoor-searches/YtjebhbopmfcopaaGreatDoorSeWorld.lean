/-
  THE WORLD of the law Searches: its indexes, each beside its reference, and its book of places. Own text of the verifier.
-/
import Derived.Test.YtjebhbopmfcopaaGreatDoorSeWhole
import Derived.Test.YtjebhbopmfcopaaGreatDoorSeLooks
import Derived.Test.YtjebhbopmfcopaaGreatDoorIxFound
namespace Go.Proofs.YtjebhbopmfcopaaGreatDoor
open Go.RowKit

theorem add_block (ad : Addr) (j : Nat) : (ad.add j).block = ad.block := by unfold Addr.add; split <;> rfl

/-- a reference that lies below block g -/
structure RefAt (X : World) (g : Nat) (v : Value) (cs : List Pr) : Prop where
  ref : RefOk X v cs
  low : 0 < cs.length → ∀ ad l c, v = .slice (some ad) l c → ad.block < g

theorem RefAt.below {X Y : World} {g : Nat} {v : Value} {cs : List Pr} (h : RefAt X g v cs) (hb : Below g X Y) : RefAt Y g v cs := by
  refine ⟨⟨?_, h.ref.len, h.ref.txt⟩, h.low⟩
  rcases h.ref.src with hs | ⟨ad, c, rfl, hs⟩
  · exact .inl hs
  · refine .inr ⟨ad, c, rfl, fun j u hj => ?_⟩
    have hpos : 0 < cs.length := by
      have := (List.getElem?_eq_some_iff.1 hj).1
      rw [Prs_length] at this
      omega
    rw [hb.cell (p := ad.add j) (by rw [add_block]; exact h.low hpos ad _ _ rfl)]
    exact hs j u hj

theorem RefAt.form {X : World} {g : Nat} {v : Value} {cs : List Pr} (h : RefAt X g v cs) : ∃ ao c, v = .slice ao cs.length c := by
  rcases h.ref.src with ⟨rfl, h0, _⟩ | ⟨ad, c, rfl, _⟩
  · exact ⟨none, 0, by rw [h0]⟩
  · exact ⟨some ad, c, rfl⟩

/-- an index of the program, its reference, and what that holds -/
abbrev Px := Value × Value × List Pr
def pxCells (p : Px) : List Value := [p.1, p.2.1]
def Pxs (l : List Px) : List Value := l.flatMap pxCells
theorem Pxs_cons (p : Px) (l : List Px) : Pxs (p :: l) = p.1 :: p.2.1 :: Pxs l := rfl
theorem Pxs_length (l : List Px) : (Pxs l).length = l.length * 2 := by
  induction l with
  | nil => rfl
  | cons a l ih => rw [Pxs_cons, List.length_cons, List.length_cons, ih, List.length_cons]; omega
theorem Pxs_append (l r : List Px) : Pxs (l ++ r) = Pxs l ++ Pxs r := by simp [Pxs]
theorem Pxs_at (l : List Px) (k : Nat) (h : k < l.length) : (Pxs l)[k * 2]? = some l[k].1 ∧ (Pxs l)[k * 2 + 1]? = some l[k].2.1 := by
  induction l generalizing k with
  | nil => simp at h
  | cons a l ih =>
    cases k with
    | zero => simp [Pxs_cons]
    | succ k =>
      have := ih k (by simpa using h)
      rw [Pxs_cons, show (k + 1) * 2 = k * 2 + 1 + 1 by omega]
      simpa using this

/-- each index answers for its reference -/
def PairsOk (X : World) (g : Nat) (ps : List Px) : Prop := ∀ p ∈ ps, IxAt X (g + 1) p.1 p.2.2 ∧ Se.newErr p.2.2 = 0 ∧ RefAt X g p.2.1 p.2.2

theorem IxAt.move {X Z : World} {B : Nat} {p : Value} {cs : List Pr} (h : IxAt X B p cs)
    (hp : ∀ e s v n xs, (e = 122 ∨ e = 9) → (∀ q, v.ownBlock = some q → q < X.heap.size) → X.ownsRow B e s v n xs → Z.ownsRow B e s v n xs) : IxAt Z B p cs := by
  obtain ⟨bx, top, bot, h1, h2, h3, h4⟩ := h
  exact ⟨bx, top, bot, h1, hp _ _ _ _ _ (.inl rfl) (fun q hq => (h2.lt q hq).2) h2, hp _ _ _ _ _ (.inr rfl) (fun q hq => (h3.lt q hq).2) h3, hp _ _ _ _ _ (.inr rfl) (fun q hq => (h4.lt q hq).2) h4⟩

theorem PairsOk.move {X Z : World} {g : Nat} {ps : List Px} (h : PairsOk X g ps)
    (hp : ∀ e s v n xs, (e = 122 ∨ e = 9) → (∀ q, v.ownBlock = some q → q < X.heap.size) → X.ownsRow (g + 1) e s v n xs → Z.ownsRow (g + 1) e s v n xs) (hb : Below g X Z) : PairsOk Z g ps :=
  fun p hm => let ⟨h1, h2, h3⟩ := h p hm; ⟨h1.move hp, h2, h3.below hb⟩

/-- how a script stands behind its first k steps -/
def SI (X : World) (g : Nat) (lv : Value) (k : Nat) : Prop :=
  ∃ (xv vp : Value) (ps : List Px) (es : List Value), X.heap[g]? = some (.cells #[lv, xv, .slice none 0 0, .slice none 0 0, vp, .slice none 0 0] 68 (0, 0)) ∧
    X.ownsRow (g + 1) 115 2 xv ps.length (Pxs ps) ∧ PairsOk X g ps ∧ ShelfP X g vp es ∧ es.length % 4 = 0 ∧ es.length ≤ 4 * k ∧ ps.length ≤ k

theorem si_lt {X : World} {g k : Nat} {lv : Value} (h : SI X g lv k) : g < X.heap.size := by
  obtain ⟨_, _, _, _, hW, _⟩ := h
  exact (Array.getElem?_eq_some_iff.1 hW).1

theorem si_below {X Y : World} {g k : Nat} {lv : Value} (h : SI X g lv k) (hb : Below X.heap.size X Y) : SI Y g lv k ∧ SI Y g lv (k + 1) := by
  have hg := si_lt h
  obtain ⟨xv, vp, ps, es, hW, hx, hok, hs, h1, h2, h3⟩ := h
  have hW' := (hb.block g hg).trans hW
  have hok' := hok.move (fun e s v n xs _ _ ho => own_below ho hb) (hb.mono (Nat.le_of_lt hg))
  exact ⟨⟨xv, vp, ps, es, hW', own_below hx hb, hok', shelfP_below hs hb, h1, h2, h3⟩, ⟨xv, vp, ps, es, hW', own_below hx hb, hok', shelfP_below hs hb, h1, by omega, by omega⟩⟩

/-- one index more -/
theorem si_made {X Y Z : World} {g k : Nat} {lv xv xv' vp p v : Value} {ps : List Px} {es : List Value} {cs : List Pr}
    (hW : X.heap[g]? = some (.cells #[lv, xv, .slice none 0 0, .slice none 0 0, vp, .slice none 0 0] 68 (0, 0))) (hx : X.ownsRow (g + 1) 115 2 xv ps.length (Pxs ps)) (hok : PairsOk X g ps) (hs : ShelfP X g vp es)
    (h1 : es.length % 4 = 0) (h2 : es.length ≤ 4 * k) (h3 : ps.length ≤ k) (hXY : Below X.heap.size X Y) (hI : IxAt Y (g + 1) p cs) (hE : Se.newErr cs = 0) (hR : RefAt X g v cs)
    (hZ : Z.ownsRow (g + 1) 115 2 xv' (ps.length + 1) (Pxs ps ++ [p, v])) (hb : Below (g + 1) Y Z) (hk : ∀ q, q < Y.heap.size → some q ≠ xv.ownBlock → Z.heap[q]? = Y.heap[q]?) :
    SI (Z.setCell ⟨g, 1, none⟩ xv') g lv (k + 1) := by
  have hg : g < X.heap.size := (Array.getElem?_eq_some_iff.1 hW).1
  have hWY := (hXY.block g hg).trans hW
  have hxY := own_below hx hXY
  have hsY := shelfP_below hs hXY
  have hokY := hok.move (fun e s v n xs _ _ ho => own_below ho hXY) (hXY.mono (Nat.le_of_lt hg))
  have hWZ := (hb.block g (by omega)).trans hWY
  have hne1 : 122 ≠ 115 := by decide
  have hne2 : 9 ≠ 115 := by decide
  have hpz : ∀ e s v n xs, e ≠ 115 → Y.ownsRow (g + 1) e s v n xs → (Z.setCell ⟨g, 1, none⟩ xv').ownsRow (g + 1) e s v n xs := fun e s v n xs he ho =>
    ownsRow_setCell_below (own_keep ho hxY he hk) (a := ⟨g, 1, none⟩) (by simp) xv'
  have hpz2 : ∀ e s v n xs, (e = 122 ∨ e = 9) → (∀ q, v.ownBlock = some q → q < Y.heap.size) → Y.ownsRow (g + 1) e s v n xs → (Z.setCell ⟨g, 1, none⟩ xv').ownsRow (g + 1) e s v n xs := fun e s v n xs he _ ho =>
    hpz e s v n xs (by rcases he with rfl | rfl; exact hne1; exact hne2) ho
  have hbZ : Below g Y (Z.setCell ⟨g, 1, none⟩ xv') := (hb.mono (Nat.le_succ g)).setCell (p := ⟨g, 1, none⟩) (Nat.le_refl _) xv'
  refine ⟨xv', vp, ps ++ [(p, v, cs)], es, heap_setCell_same Z g 1 _ _ xv' hWZ, ?_, ?_, ⟨hpz _ _ _ _ _ (by decide) hsY.list, fun i hi => ?_, hsY.len⟩, h1, by omega, by rw [List.length_append]; simp only [List.length_cons, List.length_nil]; omega⟩
  · rw [List.length_append, Pxs_append]
    exact ownsRow_setCell_below hZ (a := ⟨g, 1, none⟩) (by simp) xv'
  · intro q hq
    rcases List.mem_append.1 hq with hq | hq
    · exact hokY.move hpz2 hbZ q hq
    · obtain rfl := List.mem_singleton.1 hq
      exact ⟨hI.move hpz2, hE, (hR.below (hXY.mono (Nat.le_of_lt hg))).below hbZ⟩
  · obtain ⟨n, hn, ho⟩ := hsY.ent i hi
    exact ⟨n, hn, hpz _ _ _ _ _ (by decide) ho⟩

/-- the lists of a Find, in the book -/
theorem si_found {X Y Z : World} {g n k B : Nat} {lv xv vp v' x0 x1 x2 x3 : Value} {ps : List Px} {es : List Value}
    (hW : X.heap[g]? = some (.cells #[lv, xv, .slice none 0 0, .slice none 0 0, vp, .slice none 0 0] 68 (0, 0))) (hx : X.ownsRow (g + 1) 115 2 xv ps.length (Pxs ps)) (hok : PairsOk X g ps) (hs : ShelfP X g vp es)
    (h4 : es.length % 4 = 0) (h2 : es.length ≤ 4 * k) (h3 : ps.length ≤ k) (hk : 4 * k + 4 ≤ 7000000000000) (hn : n ≤ 90000) (hXY : Below X.heap.size X Y) (hB : X.heap.size ≤ B)
    (hZ : Z.heap[g]? = some (.cells #[lv, xv, .slice none 0 0, .slice none 0 0, v', .slice none 0 0] 68 (0, 0))) (hl : Z.ownsRow (g + 1) 119 1 v' (es.length + 4) (es ++ [x0, x1, x2, x3]))
    (m0 : Z.ownsRow (g + 1) 78 2 x0 n (reps (mp es.length) (.int .i64 0) n)) (m1 : Z.ownsRow (g + 1) 78 2 x1 (n + 1) (reps (mp es.length) (.int .i64 0) (n + 1)))
    (m2 : Z.ownsRow (g + 1) 78 2 x2 (n + 2) (reps (mp es.length) (.int .i64 0) (n + 2))) (m3 : Z.ownsRow (g + 1) 78 2 x3 (n + 3) (reps (mp es.length) (.int .i64 0) (n + 3)))
    (hb : Below g Y Z) (hp : ∀ e s v n xs, e ≠ 119 → (∀ q, v.ownBlock = some q → q < B) → Y.ownsRow (g + 1) e s v n xs → Z.ownsRow (g + 1) e s v n xs) : SI Z g lv (k + 1) := by
  have hg : g < X.heap.size := (Array.getElem?_eq_some_iff.1 hW).1
  have hne1 : 122 ≠ 119 := by decide
  have hne2 : 9 ≠ 119 := by decide
  have hpX : ∀ e s v n xs, e ≠ 119 → X.ownsRow (g + 1) e s v n xs → Z.ownsRow (g + 1) e s v n xs := fun e s v n xs he ho =>
    hp e s v n xs he (fun q hq => by have := (ho.lt q hq).2; omega) (own_below ho hXY)
  refine ⟨xv, v', ps, es ++ [x0, x1, x2, x3], hZ, hpX _ _ _ _ _ (by decide) hx, ?_, ⟨by rw [List.length_append]; exact hl, ?_, by simp; omega⟩, by simp; omega, by simp; omega, by omega⟩
  · exact hok.move (fun e s v n xs he _ ho => hpX e s v n xs (by rcases he with rfl | rfl; exact hne1; exact hne2) ho) ((hXY.mono (Nat.le_of_lt hg)).trans hb)
  · intro i hi
    rw [List.length_append] at hi
    simp only [List.length_cons, List.length_nil] at hi
    by_cases hic : i < es.length
    · obtain ⟨m, hm, ho⟩ := hs.ent i hic
      rw [List.getElem_append_left hic]
      exact ⟨m, hm, hpX _ _ _ _ _ (by decide) ho⟩
    · obtain ⟨j, rfl⟩ : ∃ j, i = es.length + j := ⟨i - es.length, by omega⟩
      rw [mp_same _ _ h4 (by omega), List.getElem_append_right (by omega)]
      have hj : j = 0 ∨ j = 1 ∨ j = 2 ∨ j = 3 := by omega
      rcases hj with rfl | rfl | rfl | rfl
      · exact ⟨n, by omega, by simpa using m0⟩
      · exact ⟨n + 1, by omega, by simpa using m1⟩
      · exact ⟨n + 2, by omega, by simpa using m2⟩
      · exact ⟨n + 3, by omega, by simpa using m3⟩

end Go.Proofs.YtjebhbopmfcopaaGreatDoor
