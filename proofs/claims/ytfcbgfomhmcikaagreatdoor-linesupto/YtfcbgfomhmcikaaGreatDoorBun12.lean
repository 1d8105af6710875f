/-
  THE RECORDS OF A STEP THAT CAME IN, OPENED: what their reading says of the cells. Own text of the verifier.
  THE WALK of 'keepsContigs': a list that came out is marked, appended to thrice, and written into the book. Own text of the verifier.
  THE WALK of 'keepsRecords': a list that came out is marked, appended to thrice, and written into the book. Own text of the verifier.
-/
import Derived.Test.YtfcbgfomhmcikaaGreatDoorBun9
import Derived.Test.YtfcbgfomhmcikaaGreatDoorBun11
import Derived.Test.YtfcbgfomhmcikaaGreatDoorBun10
import Derived.Test.YtfcbgfomhmcikaaGreatDoorBun7
namespace Go.Proofs.YtfcbgfomhmcikaaGreatDoor
open Go.ChangeShapes Go.WideShapes Go.ChangeAt Go.RowKit Go.Deep

theorem Tryz.cellsRec : Tryz.prog.cellsOf 47 = 8 := by kernel_rfl
theorem Tryz.bytesRec : Tryz.prog.bytesOf 47 = 96 := by kernel_rfl

section
variable {H : Type} {enc : TypeId × Value → H} {w : World} {base : Nat} {spare : Nat → Bool} {held : Bool}

theorem list8 {α : Type} {l : List α} (h : l.length = 8) : ∃ a b c d e f g i, l = [a, b, c, d, e, f, g, i] := by
  match l, h with
  | [a, b, c, d, e, f, g, i], _ => exact ⟨a, b, c, d, e, f, g, i, rfl⟩

/-- a record, as it is read -/
def Rc.data (r : Rc) : DataW H := .agg [.lit (.string r.nm), .lit (.int .i64 r.vd), .lit (.int .i64 r.sd), .lit (.string r.ct), .lit (.int .i64 r.pl), .lit (.int .i64 r.mm), .lit (.string r.lt), .lit (.string r.cl)]

theorem open_record {fuel : Nat} {cs : List Value} {x : DataW H × List MemPlace} (h : DataW.trod enc Tryz.prog w base spare held fuel 47 cs = some x) :
    ∃ r : Rc, cs = rcCells r ∧ x.1 = r.data := by
  obtain ⟨xs, n, _, rfl, hcl, hxl, hf⟩ := DataW.trod_struct Tryz.underlying47 h
  rw [Tryz.cellsRec] at hcl
  obtain ⟨c0, c1, c2, c3, c4, c5, c6, c7, rfl⟩ := list8 hcl
  obtain ⟨x0, x1, x2, x3, x4, x5, x6, x7, rfl⟩ := list8 (show xs.length = 8 from hxl)
  have f0 : DataW.trod enc Tryz.prog w base spare held n 9 (([c0, c1, c2, c3, c4, c5, c6, c7].drop 0).take (Tryz.prog.cellsOf 9)) = some x0 := hf 0 _ rfl
  rw [Tryz.cellsStr] at f0
  have f1 : DataW.trod enc Tryz.prog w base spare held n 3 (([c0, c1, c2, c3, c4, c5, c6, c7].drop 1).take (Tryz.prog.cellsOf 3)) = some x1 := hf 1 _ rfl
  rw [Tryz.cellsInt] at f1
  have f2 : DataW.trod enc Tryz.prog w base spare held n 3 (([c0, c1, c2, c3, c4, c5, c6, c7].drop 2).take (Tryz.prog.cellsOf 3)) = some x2 := hf 2 _ rfl
  rw [Tryz.cellsInt] at f2
  have f3 : DataW.trod enc Tryz.prog w base spare held n 9 (([c0, c1, c2, c3, c4, c5, c6, c7].drop 3).take (Tryz.prog.cellsOf 9)) = some x3 := hf 3 _ rfl
  rw [Tryz.cellsStr] at f3
  have f4 : DataW.trod enc Tryz.prog w base spare held n 3 (([c0, c1, c2, c3, c4, c5, c6, c7].drop 4).take (Tryz.prog.cellsOf 3)) = some x4 := hf 4 _ rfl
  rw [Tryz.cellsInt] at f4
  have f5 : DataW.trod enc Tryz.prog w base spare held n 3 (([c0, c1, c2, c3, c4, c5, c6, c7].drop 5).take (Tryz.prog.cellsOf 3)) = some x5 := hf 5 _ rfl
  rw [Tryz.cellsInt] at f5
  have f6 : DataW.trod enc Tryz.prog w base spare held n 9 (([c0, c1, c2, c3, c4, c5, c6, c7].drop 6).take (Tryz.prog.cellsOf 9)) = some x6 := hf 6 _ rfl
  rw [Tryz.cellsStr] at f6
  have f7 : DataW.trod enc Tryz.prog w base spare held n 9 (([c0, c1, c2, c3, c4, c5, c6, c7].drop 7).take (Tryz.prog.cellsOf 9)) = some x7 := hf 7 _ rfl
  rw [Tryz.cellsStr] at f7
  obtain ⟨s0, e0, rfl, _⟩ := DataW.trod_string Tryz.underlying9 f0
  obtain ⟨i1, e1, rfl, _⟩ := DataW.trod_int Tryz.underlying3 f1
  obtain ⟨i2, e2, rfl, _⟩ := DataW.trod_int Tryz.underlying3 f2
  obtain ⟨s3, e3, rfl, _⟩ := DataW.trod_string Tryz.underlying9 f3
  obtain ⟨i4, e4, rfl, _⟩ := DataW.trod_int Tryz.underlying3 f4
  obtain ⟨i5, e5, rfl, _⟩ := DataW.trod_int Tryz.underlying3 f5
  obtain ⟨s6, e6, rfl, _⟩ := DataW.trod_string Tryz.underlying9 f6
  obtain ⟨s7, e7, rfl, _⟩ := DataW.trod_string Tryz.underlying9 f7
  simp only [List.drop, List.take, List.cons.injEq, and_true] at e0 e1 e2 e3 e4 e5 e6 e7
  subst e0 e1 e2 e3 e4 e5 e6 e7
  exact ⟨⟨s0.data.toList, i1, i2, s3.data.toList, i4, i5, s6.data.toList, s7.data.toList⟩, rfl, rfl⟩

theorem open_recs {fuel l c : Nat} {ao : Option Addr} {dl : DataW H} {pl : List MemPlace} (h : DataW.trod enc Tryz.prog w 0 (fun _ => true) true fuel 40 [.slice ao l c] = some (dl, pl))
    (hs : ∀ n ∈ dl.weights Tryz.prog 40, n ≤ reachBytes) : ∃ rs : List Rc, RecsOk w (.slice ao l c) rs ∧ ((rs = [] ∧ dl = .nil) ∨ ∃ sp, dl = .slice (rs.map Rc.data) sp) := by
  rcases open_slice Tryz.underlying40 h with ⟨hcs, hx⟩ | ⟨a, len, cap, m, n, D, Pl, hcs, _, hl, hm, hmm, hx, hel⟩
  · simp at hcs
    obtain ⟨rfl, rfl, rfl⟩ := hcs
    simp only [Prod.mk.injEq] at hx
    exact ⟨[], ⟨.inl ⟨rfl, rfl, rfl⟩, by simp, by simp⟩, .inl ⟨rfl, hx.1⟩⟩
  · simp at hcs
    obtain ⟨rfl, rfl, rfl⟩ := hcs
    simp only [Prod.mk.injEq] at hx
    obtain ⟨rfl, _⟩ := hx
    have hml : l ≤ m := by rw [hmm]; simpa using hl
    have hel' : ∀ i, i < l → ∃ r : Rc, w.cells? 0 (a.add (i * 8)) 8 = some (rcCells r) ∧ D i = r.data := by
      intro i hi
      obtain ⟨cs', h1, h2⟩ := hel i (by omega)
      rw [Tryz.cellsRec] at h1
      obtain ⟨r, rfl, h3⟩ := open_record h2
      exact ⟨r, h1, h3⟩
    have : Inhabited Rc := ⟨⟨[], 0, 0, [], 0, 0, [], []⟩⟩
    obtain ⟨f, hfo⟩ := choose_lt hel'
    refine ⟨(List.range l).map f, ⟨.inr ⟨a, c, by simp, ?_⟩, ?_, ?_⟩, .inr ⟨(List.range (m - l)).map (fun j => D (l + j)), ?_⟩⟩
    · intro j u hj
      have hlen : j < l * 8 := by
        have := (List.getElem?_eq_some_iff.1 hj).1
        rw [Rcs_length] at this
        simpa using this
      have hjk : j / 8 < l := by omega
      have hj' : j = j / 8 * 8 + j % 8 := by omega
      rw [hj', Rcs_at _ (j / 8) (by simpa using hjk) (j % 8) (by omega)] at hj
      simp only [List.getElem_map, List.getElem_range] at hj
      obtain ⟨h1, _⟩ := hfo (j / 8) hjk
      obtain ⟨_, hlen2, hcell⟩ := World.cells?_some h1
      have := hcell (j % 8) (by omega)
      rw [add_add, hj] at this
      rw [hj']
      exact this
    · have h1 := hs ((((List.range l).map D).length + _) * Tryz.prog.bytesOf 47) (by
        simp only [DataW.weights, Tryz.underlying40]
        exact List.mem_cons_self ..)
      rw [Tryz.bytesRec] at h1
      simp only [reachBytes, List.length_map, List.length_range] at h1 ⊢
      omega
    · intro x hx
      obtain ⟨i, hi, rfl⟩ := List.mem_map.1 hx
      obtain ⟨_, h2⟩ := hfo i (List.mem_range.1 hi)
      have hw : ∀ n ∈ (D i).weights Tryz.prog 47, n ≤ reachBytes := by
        intro n hn
        refine hs n ?_
        simp only [DataW.weights, Tryz.underlying40]
        exact List.mem_cons_of_mem _ (List.mem_append_left _ (weightsAll_mem (List.mem_map.2 ⟨i, hi, rfl⟩) hn))
      rw [h2] at hw
      simp only [Rc.data, DataW.weights, Tryz.underlying47, DataW.weightsEach, List.map] at hw
      have w0 := hw (f i).nm.length (by simp)
      have w3 := hw (f i).ct.length (by simp)
      have w6 := hw (f i).lt.length (by simp)
      have w7 := hw (f i).cl.length (by simp)
      simp only [reachBytes] at w0 w3 w6 w7
      exact ⟨by omega, by omega, by omega, by omega⟩
    · congr 1
      rw [List.map_map]
      exact List.map_congr_left (fun i hi => (hfo i (List.mem_range.1 hi)).2)

end

end Go.Proofs.YtfcbgfomhmcikaaGreatDoor

namespace Go.Proofs.YtfcbgfomhmcikaaGreatDoor
open Go.RowKit

/-- the first k of a list's elements marked -/
def mixed (M : List UInt8) (out : List Pr) (k : Nat) : List Pr := List.replicate k (M, []) ++ out.drop k

theorem mixed_zero (M : List UInt8) (out : List Pr) : mixed M out 0 = out := by simp [mixed]
theorem mixed_whole (M : List UInt8) (out : List Pr) (k : Nat) (h : out.length ≤ k) : Prs (mixed M out k) = marks M k := by
  rw [mixed, List.drop_of_length_le h, List.append_nil]; rfl
theorem mixed_length (M : List UInt8) (out : List Pr) (k : Nat) (h : k ≤ out.length) : (mixed M out k).length = out.length := by simp [mixed]; omega
theorem mixed_set (M : List UInt8) (out : List Pr) (k : Nat) (h : k < out.length) :
    ((Prs (mixed M out k)).set (k * 2) (.string ⟨M.toArray⟩)).set (k * 2 + 1) (.string ⟨#[]⟩) = Prs (mixed M out (k + 1)) := by
  have hl : (Prs (List.replicate k (M, ([] : List UInt8)))).length = k * 2 := by rw [Prs_length, List.length_replicate]
  rw [mixed, mixed, Prs_append, Prs_append, List.replicate_succ', Prs_append, List.append_assoc]
  rw [List.set_append, if_neg (by omega), hl, Nat.sub_self, List.set_append, if_neg (by omega), hl, show k * 2 + 1 - k * 2 = 1 by omega]
  congr 1
  rw [List.drop_eq_getElem_cons h]
  simp only [Prs, List.flatMap_cons, List.flatMap_nil, prCells, List.cons_append, List.nil_append, List.append_nil, List.set_cons_zero, List.set_cons_succ]

/-- how it stands while a list is written into the book: the World's block, the book's list of lists, the lists that are marked, and what else is as it was -/
structure KSt (w : World) (g B0 : Nat) (lv xv vr vp vq : Value) (M : List UInt8) (X : World) (vc : Value) (N : Nat) (es : List Value) (ms : List (Value × Nat)) : Prop where
  world : X.heap[g]? = some (.cells #[lv, xv, vc, vr, vp, vq] 39 (0, 0))
  list : X.ownsRow (g + 1) 30 1 vc N es
  mark : ∀ p ∈ ms, X.ownsRow (g + 1) 29 2 p.1 p.2 (marks M p.2)
  below : Below g w X
  pres : ∀ e s v n xs, e ≠ 30 → (∀ k, v.ownBlock = some k → k < B0) → w.ownsRow (g + 1) e s v n xs → X.ownsRow (g + 1) e s v n xs

theorem below_grown {g : Nat} {w wr w3 : World} {lb : Option Nat} (h : Below g w wr) (hg : g ≤ wr.heap.size) (hgr : wr.grownBy w3 lb) (hlb : ∀ k, lb = some k → g ≤ k) : Below g w w3 := h.grown hgr hg hlb

theorem KSt.marked {w wr w3 : World} {g B0 N L : Nat} {lv xv vr vp vq vc l v1 : Value} {M : List UInt8} {es : List Value} {ms : List (Value × Nat)} (h : KSt w g B0 lv xv vr vp vq M wr vc L es ms) {n : Nat} {xs : List Value}
    (hl : wr.ownsRow B0 29 2 l n xs) (hB : g + 1 ≤ B0) (hgr : wr.grownBy w3 l.ownBlock) (hst : ∀ v0 n0, n0 ≤ N → wr.ownsRow (g + 1) 29 2 v0 n0 (marks M n0) → w3.ownsRow (g + 1) 29 2 v0 n0 (marks M n0))
    (hms : ∀ p ∈ ms, p.2 ≤ N) (hv1 : w3.ownsRow (g + 1) 29 2 v1 N (marks M N)) : KSt w g B0 lv xv vr vp vq M w3 vc L es (ms ++ [(v1, N)]) := by
  have hgl : g < wr.heap.size := (Array.getElem?_eq_some_iff.1 h.world).1
  have hlb : ∀ k, l.ownBlock = some k → B0 ≤ k := fun k hk => (hl.lt k hk).1
  refine ⟨?_, own_keep h.list hl (by decide) hgr.block, ?_, h.below.grown hgr (by omega) (fun k hk => by have := hlb k hk; omega), fun e s v n' xs' he hk hv => ?_⟩
  · rw [hgr.block g hgl (by intro hh; have := hlb g hh.symm; omega)]
    exact h.world
  · intro p hp
    rcases List.mem_append.1 hp with hp | hp
    · exact hst p.1 p.2 (hms p hp) (h.mark p hp)
    · obtain rfl := List.mem_singleton.1 hp
      exact hv1
  · refine (h.pres e s v n' xs' he hk hv).kept hgr ?_
    cases hq : v.ownBlock with
    | none => exact .inl rfl
    | some q =>
      right
      intro hh
      have h1 := hlb q hh.symm
      have h2 := hk q hq
      omega

theorem KSt.listed {w X X2 : World} {g B0 L : Nat} {lv xv vr vp vq vc v2 x : Value} {M : List UInt8} {es : List Value} {ms : List (Value × Nat)} (h : KSt w g B0 lv xv vr vp vq M X vc L es ms)
    (hv : X2.ownsRow (g + 1) 30 1 v2 (L + 1) (es ++ [x])) (hbel : Below (g + 1) X X2) (hkeep : ∀ k, k < X.heap.size → some k ≠ vc.ownBlock → X2.heap[k]? = X.heap[k]?) :
    KSt w g B0 lv xv vr vp vq M (X2.setCell ⟨g, 2, none⟩ v2) v2 (L + 1) (es ++ [x]) ms := by
  have hgl : g < X.heap.size := (Array.getElem?_eq_some_iff.1 h.world).1
  have hgX2 : X2.heap[g]? = some (.cells #[lv, xv, vc, vr, vp, vq] 39 (0, 0)) := (hbel.block g (by omega)).trans h.world
  refine ⟨heap_setCell_same X2 g 2 _ _ v2 hgX2, ?_, ?_, (h.below.trans (hbel.mono (by omega))).setCell (p := ⟨g, 2, none⟩) (Nat.le_refl _) v2, ?_⟩
  · exact ownsRow_setCell_below hv (a := ⟨g, 2, none⟩) (by simp) v2
  · intro p hp
    exact ownsRow_setCell_below (own_keep (h.mark p hp) h.list (by decide) hkeep) (a := ⟨g, 2, none⟩) (by simp) v2
  · intro e s v n' xs' he hk hv'
    exact ownsRow_setCell_below (own_keep (h.pres e s v n' xs' he hk hv') h.list he hkeep) (a := ⟨g, 2, none⟩) (by simp) v2

/-- an append of one element more never doubles a long row -/
theorem next_one (n : Nat) : Builtin.nextslicecap (n + 1) n ≤ n + (n + 768) / 4 + 1 := by
  unfold Builtin.nextslicecap
  split
  · omega
  · split
    · omega
    · simp only [Builtin.growBy]
      rw [if_neg (by omega), if_pos (by omega)]
      omega

/-- 'own = append(own, x)': one element more, as far as the model bears it -/
theorem app_own_one {w : World} {ops : Array Oper} {rest : List Oper} {o : Oper} {a : Act} {Q : Exit → Act → World → Prop} (hgd : o.guard = none) (s x : Operand) (t : TypeId)
    (ho : o.op = .call { callee := .builtin .append, args := #[s, x], argTypes := #[t, t] })
    (base : Nat) (e : TypeId) (z : Value) (ht : Tryz.prog.underlying t = some (.slice e)) (hinfo : (Tryz.prog.info? e).map (fun i => (i.zero, i.size, i.bytes)) = some (some z, 1, 24)) (hzs : z.cells.size = 1)
    (v : Value) (n : Nat) (xs : List Value) (hs : a.eval s = v) (hown : w.ownsRow base e 1 v n xs) (ad : Addr) (c : Nat) (y : Value) (hx : a.eval x = .slice (some ad) 1 c) (hy : w.cell? ad = some y) (hone : y.oneCell' = true)
    (hbase : base ≤ w.heap.size) (hlen : n ≤ 7000000000000)
    (h : ∀ v' w', w'.ownsRow base e 1 v' (n + 1) (xs ++ [y]) → w.grownBy w' v.ownBlock → wpList Tryz.prog ops Q rest (a.put o.dst v') w') :
    wpList Tryz.prog ops Q (o :: rest) a w := by
  obtain ⟨i0, hi, hz0, hz1, hz2⟩ := info_parts hinfo
  have hnews : ∀ j u, [y][j]? = some u → w.cell? (ad.add j) = some u := by
    intro j u hj
    match j, hj with
    | 0, hj =>
      simp at hj
      subst hj
      obtain ⟨b, off, k⟩ := ad
      simpa [Addr.add] using hy
  have h1 : ∀ u ∈ [y], u.oneCell' = true := by intro u hu; simp at hu; subst hu; exact hone
  by_cases hbig : n ≤ 1000000000
  · exact wpList_append_own _ hgd s x t ho base e i0 z 1 24 ht hi hz0 hz1 hz2 hzs (by decide) v n xs hs hown ad 1 c [y] hx rfl hnews h1 (by unfold maxLen; omega) (by omega) hbase (fun v' w' g1 g2 _ => h v' w' g1 g2)
  · rcases hown.2 with ⟨_, h0⟩ | ⟨g, cap, cur, hv, hb, hg, hnc, hcm, hcs, htk⟩
    · omega
    · subst hv
      by_cases hroom : n + 1 ≤ cap
      · exact wpList_append_fits _ hgd s x t ho base e i0 1 ht hi hz1 g n cap xs hs hown ad 1 c [y] hx rfl hnews h1 hroom (fun w' g1 g2 => h _ w' g1 g2)
      · have hcap : cap = n := by omega
        subst hcap
        have hxl : xs.length = cap * 1 := hown.1
        have hr := run_append_grow (P := Tryz.prog) w t o.type e i0 z ht hi hz0 ⟨g, 0, none⟩ cap cap xs (by rw [hz1]; exact hxl) (fun j u hj => hown.cells rfl j u hj) ad 1 c [y] (by rw [hz1]; rfl) hnews (by omega) (by omega)
          (by rw [hz2]; have := next_one cap; omega)
        have hge := grownCap_ge w (cap + 1) cap e
        have hcm' := grownCap_le_maxLen w (cap + 1) cap e (by unfold maxLen; omega)
        refine wpList_plain hgd fun K hK => ?_
        unfold Oper.wp
        simp [execOp, ho, resolve, invoke, builtin, hs, hx, hr, Result.andThen]
        refine hK _ _ (h _ _ ⟨by simp [hxl], .inr ⟨w.heap.size, _, _, rfl, hbase, heap_alloc_new w.drew _, hge, hcm', ?_, ?_⟩⟩ ⟨rfl, rfl, rfl, by simp, fun k hk _ => Below.heap_alloc w.drew _ k hk⟩)
        · have e1 : (xs ++ [y]).length = cap + 1 := by simp; omega
          simp only [Array.size_append, List.size_toArray, size_zeroCells, hzs, e1]
          omega
        · have e1 : xs.length = cap := by omega
          have e2 : (cap + 1) * 1 = (xs ++ [y]).length := by simp [e1]
          rw [e2]
          simp only [Array.toList_append]
          exact List.take_left

/-- 'k.contigs = append(k.contigs, x)': the append -/
theorem app_list {w : World} {ops : Array Oper} {rest : List Oper} {o : Oper} {a : Act} {Q : Exit → Act → World → Prop} (hgd : o.guard = none) (s x : Operand)
    (ho : o.op = .call { callee := .builtin .append, args := #[s, x], argTypes := #[22, 22] })
    (base : Nat) (vc : Value) (L : Nat) (es : List Value) (y : Value) (hs : a.eval s = vc) (z : Nat) (hx : a.eval x = .slice (some ⟨z, 0, none⟩) 1 1) (hz : w.heap.size = z) (hown : w.ownsRow base 30 1 vc L es) (hbase : base ≤ w.heap.size) (hone : y.oneCell' = true) (hlen : L ≤ 7000000000000)
    (h : ∀ v' w', w'.ownsRow base 30 1 v' (L + 1) (es ++ [y]) → Below base w w' → (∀ k, k < w.heap.size → some k ≠ vc.ownBlock → w'.heap[k]? = w.heap[k]?) → wpList Tryz.prog ops Q rest (a.put o.dst v') w') :
    wpList Tryz.prog ops Q (o :: rest) a (w.alloc (.cells #[y] 30)) := by
  subst hz
  refine app_own_one hgd s x 22 ho base 30 (.slice none 0 0) Tryz.underlying22 Tryz.infoConts rfl vc L es hs (hown.alloc _) ⟨w.heap.size, 0, none⟩ 1 y hx (by simp) hone (by simp; omega) (by omega) ?_
  intro v' w' h1 h2
  refine h v' w' h1 (((Below.refl _ _).alloc hbase _).grown h2 (by simp; omega) (fun k hk => (hown.lt k hk).1)) (fun k hk hn => ?_)
  rw [h2.block k (by simp; omega) hn, Below.heap_alloc _ _ _ hk]

theorem own_raise {w : World} {b b' e size n : Nat} {v : Value} {xs : List Value} (h : w.ownsRow b e size v n xs) (hb : ∀ k, v.ownBlock = some k → b' ≤ k) : w.ownsRow b' e size v n xs := by
  refine ⟨h.1, ?_⟩
  rcases h.2 with h0 | ⟨g, cap, cur, rfl, h1, h2⟩
  · exact .inl h0
  · exact .inr ⟨g, cap, cur, rfl, hb g rfl, h2⟩

set_option maxRecDepth 100000 in
set_option maxHeartbeats 8000000 in
theorem keepsContigs_any (w : World) (g : Nat) (lv xv vc vr vp vq : Value) (ents : List Value) (l : Value) (out : List Pr) (B0 : Nat)
    (hW : w.heap[g]? = some (.cells #[lv, xv, vc, vr, vp, vq] 39 (0, 0))) (hvc : w.ownsRow (g + 1) 30 1 vc ents.length ents) (hel : ents.length + 4 ≤ 7000000000000)
    (hl : w.ownsRow B0 29 2 l out.length (Prs out)) (hB0 : g + 1 ≤ B0) (ho : out.length ≤ 1000) :
    Calls Tryz.prog 31 #[.pointer (some ⟨g, 2, none⟩), l] w fun e w' => e = .returned (.tuple #[]) ∧
      ∃ vc' v1 v2 v3, w'.heap[g]? = some (.cells #[lv, xv, vc', vr, vp, vq] 39 (0, 0)) ∧ w'.ownsRow (g + 1) 30 1 vc' (ents.length + 4) (ents ++ [l, v1, v2, v3]) ∧
        w'.ownsRow (g + 1) 29 2 l out.length (marks (mk ents.length) out.length) ∧ w'.ownsRow (g + 1) 29 2 v1 (out.length + 1) (marks (mk ents.length) (out.length + 1)) ∧
        w'.ownsRow (g + 1) 29 2 v2 (out.length + 2) (marks (mk ents.length) (out.length + 2)) ∧ w'.ownsRow (g + 1) 29 2 v3 (out.length + 3) (marks (mk ents.length) (out.length + 3)) ∧
        Below g w w' ∧ ∀ e s v n xs, e ≠ 30 → (∀ k, v.ownBlock = some k → k < B0) → w.ownsRow (g + 1) e s v n xs → w'.ownsRow (g + 1) e s v n xs := by
  have hgw : g < w.heap.size := (Array.getElem?_eq_some_iff.1 hW).1
  obtain ⟨M, hM⟩ : ∃ M, M = mk ents.length := ⟨_, rfl⟩
  have HM : Hid _ := hM
  rw [← hM]
  clear hM
  obtain ⟨ca, ccap, hvcf⟩ := own_form hvc
  obtain ⟨la, lcap, hlf⟩ := own_form hl
  subst hvcf hlf
  have c2 : w.cell? ⟨g, 2, none⟩ = some (.slice ca ents.length ccap) := cell_of_row w g 2 _ _ _ hW
  have HW : Hid _ := hW
  have HVC : Hid _ := hvc
  have HL : Hid _ := hl
  clear hW hvc hl
  go_enter Tryz.func31, Tryz.ntmps31
  go_wp2_with fail
  refine (mark_any ents.length _ (by omega)).mono ?_
  rintro e w1 ⟨rfl, hb1⟩
  rw [← HM.out]
  go_wp2
  have hbw : Below w1.heap.size w1 (w1.alloc (Obj.cells #[Value.string { data := M.toArray }, Value.string { data := #[] }] 29)) := (Below.refl _ _).alloc (Nat.le_refl _) _
  have hmb : (w1.alloc (Obj.cells #[Value.string { data := M.toArray }, Value.string { data := #[] }] 29)).heap[w1.heap.size]? = some (Obj.cells #[Value.string { data := M.toArray }, Value.string { data := #[] }] 29) := heap_alloc_new w1 _
  have hgm := hb1.size
  have hb2 := hb1.trans (hbw.mono hgm)
  generalize (w1.alloc (Obj.cells #[Value.string { data := M.toArray }, Value.string { data := #[] }] 29)) = W2 at *
  generalize w1.heap.size = gm at *
  have hgm2 : gm < W2.heap.size := (Array.getElem?_eq_some_iff.1 hmb).1
  have HMB : Hid _ := hmb
  have HL2 : Hid _ := own_below HL.out hb2
  have HVC2 : Hid _ := own_below HVC.out hb2
  have HW2 : Hid (W2.heap[g]? = some (.cells #[lv, xv, .slice ca ents.length ccap, vr, vp, vq] 39 (0, 0))) := (hb2.block g hgw).trans HW.out
  clear hbw hmb hb1 c2
  have HLB : Hid (∀ k, (Value.slice la out.length lcap).ownBlock = some k → B0 ≤ k ∧ k < w.heap.size) := World.ownsRow.lt HL.out
  go_loopw [5] (fun i wr => ∃ k : Nat, k ≤ out.length ∧ i = .int .i64 (k : Int) ∧ wr.ownsRow B0 29 2 (.slice la out.length lcap) out.length (Prs (mixed M out k)) ∧ W2.grownBy wr (Value.slice la out.length lcap).ownBlock)
    (fun i _ => out.length - (intOf i).toNat)
  case atStart => exact ⟨0, by omega, rfl, by rw [mixed_zero]; exact HL2.out, World.grownBy.refl _ _⟩
  case round =>
    clear HL2
    obtain ⟨k, hk, rfl, hown, hgr⟩ := hrel
    by_cases hlt : k < out.length
    · obtain ⟨g1, hg1⟩ : ∃ g1, la = some ⟨g1, 0, none⟩ := by
        rcases hown.2 with ⟨_, h0⟩ | ⟨g1, cap, cur, hv, _⟩
        · omega
        · simp only [Value.slice.injEq] at hv
          exact ⟨g1, hv.1⟩
      subst hg1
      have hg1b := HLB.out g1 rfl
      have hmb : wr.heap[gm]? = some (Obj.cells #[Value.string { data := M.toArray }, Value.string { data := #[] }] 29) := (hgr.block gm hgm2 (by simp [Value.ownBlock]; omega)).trans HMB.out
      have m0 : wr.cell? ⟨gm, 0, none⟩ = some (.string ⟨M.toArray⟩) := cell_of_row wr gm 0 _ _ _ hmb
      have m1 : wr.cell? ⟨gm, 1, none⟩ = some (.string ⟨#[]⟩) := cell_of_row wr gm 1 _ _ _ hmb
      have hpr := own_pair hown k (by rw [mixed_length _ _ _ hk]; exact hlt)
      obtain ⟨p0, p1⟩ := hpr
      have f0 := hown.frozenAt (k * 2)
      have f1 := hown.frozenAt (k * 2 + 1)
      have hs1 := hown.stored (k * 2) (.string ⟨M.toArray⟩)
      have hs2 := hs1.1.stored (k * 2 + 1) (.string ⟨#[]⟩)
      rw [mixed_set M out k hlt] at hs2
      have HS : Hid _ := hs2.1
      have HG : Hid _ := grown_trans (grown_trans hgr hs1.2) hs2.2
      clear hs1 hs2 hown hgr hmb
      have hlt' : (k : Int) < (out.length : Int) := by omega
      go_wp2
      go_roundw
      case rel => exact ⟨k + 1, by omega, by go_num, HS.out, HG.out⟩
      case measure => simp [intOf]; omega
    · have hke : k = out.length := by omega
      have hownB : wr.ownsRow B0 29 2 (.slice la out.length lcap) out.length (marks M out.length) := by
        have := hown
        rw [hke, mixed_whole _ _ _ (Nat.le_refl _)] at this
        exact this
      have hlt' : ¬ (k : Int) < (out.length : Int) := by omega
      have hgs := hgr.size
      have hlb : ∀ q, (Value.slice la out.length lcap).ownBlock = some q → B0 ≤ q := fun q hq => (HLB.out q hq).1
      have K0 : KSt w g B0 lv xv vr vp vq M wr (.slice ca ents.length ccap) ents.length ents [(.slice la out.length lcap, out.length)] := by
        refine ⟨?_, own_keep HVC2.out (own_below HL.out hb2) (by decide) hgr.block, ?_, (hb2.mono (by omega)).grown hgr (by omega) (fun q hq => by have := hlb q hq; omega), ?_⟩
        · rw [hgr.block g (by omega) (by intro hh; have := hlb g hh.symm; omega)]
          exact HW2.out
        · intro p hp
          obtain rfl := List.mem_singleton.1 hp
          exact own_base hownB hB0
        · intro e s v n' xs' he hkq hv
          refine (own_below hv hb2).kept hgr ?_
          cases hq : v.ownBlock with
          | none => exact .inl rfl
          | some q =>
            right
            intro hh
            have h1 := hlb q hh.symm
            have h2 := hkq q hq
            omega
      have hmb : wr.heap[gm]? = some (Obj.cells #[Value.string { data := M.toArray }, Value.string { data := #[] }] 29) := (hgr.block gm hgm2 (by intro h; have := HLB.out gm h.symm; omega)).trans HMB.out
      have m0 : wr.cell? ⟨gm, 0, none⟩ = some (.string ⟨M.toArray⟩) := cell_of_row wr gm 0 _ _ _ hmb
      have m1 : wr.cell? ⟨gm, 1, none⟩ = some (.string ⟨#[]⟩) := cell_of_row wr gm 1 _ _ _ hmb
      have HMB0 : Hid _ := hmb
      have hgwr : gm < wr.heap.size := by omega
      have hg1wr : g + 1 ≤ wr.heap.size := by omega
      clear hown hke hmb HVC2 HW2 HMB HW HVC hgr
      go_wp2_with (first
      | (at_builtin; refine app_marks rfl (.tmp 26) (.tmp 28) 30 rfl (g + 1) 29 Tryz.underlying30 Tryz.infoContig (Value.slice la out.length lcap) out.length 1 M _ rfl rfl rfl (by exact K0.mark _ (List.mem_cons_self ..)) (by omega) (by omega) (by decide) ?_; intro v1 w3 hv1 hst1 hgr1; obtain ⟨a1, cp1, hf1⟩ := own_form hv1; subst hf1; have hsz1 := hgr1.size; have K1 := K0.marked (own_raise (K0.mark _ (List.mem_cons_self ..)) hlb) hB0 hgr1 hst1 (by intro p hp; simp at hp; subst hp; simp) hv1; have hmb1 : w3.heap[gm]? = some (Obj.cells #[Value.string { data := M.toArray }, Value.string { data := #[] }] 29) := (hgr1.block gm (by omega) (by intro h; have := HLB.out gm h.symm; omega)).trans HMB0.out; have mm1 : w3.cell? ⟨gm, 0, none⟩ = some (.string ⟨M.toArray⟩) := cell_of_row w3 gm 0 _ _ _ hmb1; have mn1 : w3.cell? ⟨gm, 1, none⟩ = some (.string ⟨#[]⟩) := cell_of_row w3 gm 1 _ _ _ hmb1; have HMB1 : Hid _ := hmb1; clear hmb1 hst1 hgr1 hv1)
      | (at_builtin; refine app_marks rfl (.tmp 30) (.tmp 33) 30 rfl (g + 1) 29 Tryz.underlying30 Tryz.infoContig (Value.slice la out.length lcap) out.length 2 M _ rfl rfl rfl (by exact K1.mark _ (List.mem_cons_self ..)) (by omega) (by omega) (by decide) ?_; intro v2 w4 hv2 hst2 hgr2; obtain ⟨a2, cp2, hf2⟩ := own_form hv2; subst hf2; have hsz2 := hgr2.size; have K2 := K1.marked (own_raise (K1.mark _ (List.mem_cons_self ..)) hlb) hB0 hgr2 hst2 (by intro p hp; simp at hp; rcases hp with rfl | rfl <;> simp) hv2; have hmb2 : w4.heap[gm]? = some (Obj.cells #[Value.string { data := M.toArray }, Value.string { data := #[] }] 29) := (hgr2.block gm (by omega) (by intro h; have := HLB.out gm h.symm; omega)).trans HMB1.out; have mm2 : w4.cell? ⟨gm, 0, none⟩ = some (.string ⟨M.toArray⟩) := cell_of_row w4 gm 0 _ _ _ hmb2; have mn2 : w4.cell? ⟨gm, 1, none⟩ = some (.string ⟨#[]⟩) := cell_of_row w4 gm 1 _ _ _ hmb2; have HMB2 : Hid _ := hmb2; clear hmb2 hst2 hgr2 hv2)
      | (at_builtin; refine app_marks rfl (.tmp 35) (.tmp 39) 30 rfl (g + 1) 29 Tryz.underlying30 Tryz.infoContig (Value.slice la out.length lcap) out.length 3 M _ rfl rfl rfl (by exact K2.mark _ (List.mem_cons_self ..)) (by omega) (by omega) (by decide) ?_; intro v3 w5 hv3 hst3 hgr3; obtain ⟨a3, cp3, hf3⟩ := own_form hv3; subst hf3; have hsz3 := hgr3.size; have K3 := K2.marked (own_raise (K2.mark _ (List.mem_cons_self ..)) hlb) hB0 hgr3 hst3 (by intro p hp; simp at hp; rcases hp with rfl | rfl | rfl <;> simp) hv3; have hmb3 : w5.heap[gm]? = some (Obj.cells #[Value.string { data := M.toArray }, Value.string { data := #[] }] 29) := (hgr3.block gm (by omega) (by intro h; have := HLB.out gm h.symm; omega)).trans HMB2.out; have mm3 : w5.cell? ⟨gm, 0, none⟩ = some (.string ⟨M.toArray⟩) := cell_of_row w5 gm 0 _ _ _ hmb3; have mn3 : w5.cell? ⟨gm, 1, none⟩ = some (.string ⟨#[]⟩) := cell_of_row w5 gm 1 _ _ _ hmb3; have HMB3 : Hid _ := hmb3; clear hmb3 hst3 hgr3 hv3; have cc3 : w5.cell? ⟨g, 2, none⟩ = some (.slice ca ents.length ccap) := cell_of_row w5 g 2 _ _ _ K3.world)
      | (at_builtin; refine app_list rfl (.tmp 45) (.tmp 47) rfl (g + 1) (.slice ca ents.length ccap) ents.length (ents) (Value.slice la out.length lcap) (by rfl) _ (by rfl) (by first | rfl | simp [World.setCell]) (by exact K3.list) (Array.getElem?_eq_some_iff.1 K3.world).1 rfl (by omega) ?_; intro u4 w6 hu4 hb4 hk4; obtain ⟨b4, bc4, hq4⟩ := own_form hu4; subst hq4; have K4 := K3.listed hu4 hb4 hk4; have hwb4 := (hb4.block g (by omega)).trans K3.world; have cw4 : w6.cell? ⟨g, 2, none⟩ = some (.slice ca ents.length ccap) := cell_of_row w6 g 2 _ _ _ hwb4; have fw4 : w6.frozen? ⟨g, 2, none⟩ = false := frozen_of_row w6 g 2 _ _ hwb4; have hsl4 := hb4.size; have HWB4 : Hid _ := hwb4; clear hwb4 hu4 hb4 hk4)
      | (at_builtin; refine app_list rfl (.tmp 55) (.tmp 57) rfl (g + 1) (.slice b4 (ents.length + 1) bc4) (ents.length + 1) (ents ++ [(Value.slice la out.length lcap)]) (.slice a1 (out.length + 1) cp1) (by rfl) _ (by rfl) (by first | rfl | simp [World.setCell]) (by exact K4.list) (Array.getElem?_eq_some_iff.1 K4.world).1 rfl (by omega) ?_; intro u5 w7 hu5 hb5 hk5; obtain ⟨b5, bc5, hq5⟩ := own_form hu5; subst hq5; have K5 := K4.listed hu5 hb5 hk5; have hwb5 := (hb5.block g (by omega)).trans K4.world; have cw5 : w7.cell? ⟨g, 2, none⟩ = some (.slice b4 (ents.length + 1) bc4) := cell_of_row w7 g 2 _ _ _ hwb5; have fw5 : w7.frozen? ⟨g, 2, none⟩ = false := frozen_of_row w7 g 2 _ _ hwb5; have hsl5 := hb5.size; have HWB5 : Hid _ := hwb5; clear hwb5 hu5 hb5 hk5)
      | (at_builtin; refine app_list rfl (.tmp 65) (.tmp 67) rfl (g + 1) (.slice b5 (ents.length + 1 + 1) bc5) (ents.length + 1 + 1) (ents ++ [(Value.slice la out.length lcap)] ++ [(.slice a1 (out.length + 1) cp1)]) (.slice a2 (out.length + 2) cp2) (by rfl) _ (by rfl) (by first | rfl | simp [World.setCell]) (by exact K5.list) (Array.getElem?_eq_some_iff.1 K5.world).1 rfl (by omega) ?_; intro u6 w8 hu6 hb6 hk6; obtain ⟨b6, bc6, hq6⟩ := own_form hu6; subst hq6; have K6 := K5.listed hu6 hb6 hk6; have hwb6 := (hb6.block g (by omega)).trans K5.world; have cw6 : w8.cell? ⟨g, 2, none⟩ = some (.slice b5 (ents.length + 1 + 1) bc5) := cell_of_row w8 g 2 _ _ _ hwb6; have fw6 : w8.frozen? ⟨g, 2, none⟩ = false := frozen_of_row w8 g 2 _ _ hwb6; have hsl6 := hb6.size; have HWB6 : Hid _ := hwb6; clear hwb6 hu6 hb6 hk6)
      | (at_builtin; refine app_list rfl (.tmp 75) (.tmp 77) rfl (g + 1) (.slice b6 (ents.length + 1 + 1 + 1) bc6) (ents.length + 1 + 1 + 1) (ents ++ [(Value.slice la out.length lcap)] ++ [(.slice a1 (out.length + 1) cp1)] ++ [(.slice a2 (out.length + 2) cp2)]) (.slice a3 (out.length + 3) cp3) (by rfl) _ (by rfl) (by first | rfl | simp [World.setCell]) (by exact K6.list) (Array.getElem?_eq_some_iff.1 K6.world).1 rfl (by omega) ?_; intro u7 w9 hu7 hb7 hk7; obtain ⟨b7, bc7, hq7⟩ := own_form hu7; subst hq7; have K7 := K6.listed hu7 hb7 hk7; have hwb7 := (hb7.block g (by omega)).trans K6.world; have cw7 : w9.cell? ⟨g, 2, none⟩ = some (.slice b6 (ents.length + 1 + 1 + 1) bc6) := cell_of_row w9 g 2 _ _ _ hwb7; have fw7 : w9.frozen? ⟨g, 2, none⟩ = false := frozen_of_row w9 g 2 _ _ hwb7; have hsl7 := hb7.size; have HWB7 : Hid _ := hwb7; clear hwb7 hu7 hb7 hk7))
      go_end0
      refine ⟨rfl, _, K7.world, .slice a1 (out.length + 1) cp1, .slice a2 (out.length + 2) cp2, .slice a3 (out.length + 3) cp3, ?_, K7.mark (_, _) (by simp), K7.mark (_, _) (by simp), K7.mark (_, _) (by simp), K7.mark (_, _) (by simp), K7.below, K7.pres⟩
      have := K7.list
      simp only [List.append_assoc, List.cons_append, List.nil_append] at this
      exact this

end Go.Proofs.YtfcbgfomhmcikaaGreatDoor

namespace Go.Proofs.YtfcbgfomhmcikaaGreatDoor
open Go.RowKit

/-- the record that marks a list -/
def mkR (M : List UInt8) : Rc := ⟨M, 0, 0, [], 0, 0, [], []⟩
/-- n marks, as cells -/
def marksR (M : List UInt8) (n : Nat) : List Value := Rcs (List.replicate n (mkR M))

theorem marksR_length (M : List UInt8) (n : Nat) : (marksR M n).length = n * 8 := by rw [marksR, Rcs_length, List.length_replicate]
theorem marksR_add (M : List UInt8) (n m : Nat) : marksR M (n + m) = marksR M n ++ marksR M m := by rw [marksR, marksR, marksR, ← Rcs_append, List.replicate_append_replicate]
theorem marksR_one (M : List UInt8) (n : Nat) : ∀ u ∈ marksR M n, u.oneCell' = true := Rcs_one _
theorem marksR_take (M : List UInt8) (n m : Nat) (h : n ≤ m) : (marksR M m).take (n * 8) = marksR M n := by
  obtain ⟨k, rfl⟩ : ∃ k, m = n + k := ⟨m - n, by omega⟩
  rw [marksR_add, List.take_append_of_le_length (by rw [marksR_length]; exact Nat.le_refl _), List.take_of_length_le (by rw [marksR_length]; exact Nat.le_refl _)]

/-- a marked list stays marked while another that shares its row is written up to at least its end -/
theorem marksR_stay {w w' : World} {base e g n N cap : Nat} {M : List UInt8} (hl : w.ownsRow base e 8 (.slice (some ⟨g, 0, none⟩) n cap) n (marksR M n)) (hl' : w'.ownsRow base e 8 (.slice (some ⟨g, 0, none⟩) N cap) N (marksR M N)) (hg : w.grownBy w' (some g))
    {v0 : Value} {n0 : Nat} (h0 : w.ownsRow base e 8 v0 n0 (marksR M n0)) (hn : n0 ≤ N) : w'.ownsRow base e 8 v0 n0 (marksR M n0) := by
  refine ⟨h0.1, ?_⟩
  rcases h0.2 with h | ⟨g0, cap0, cur0, rfl, hb0, hg0, hnc0, hcm0, hcs0, ht0⟩
  · exact .inl h
  · by_cases he : g0 = g
    · subst he
      rcases hl.2 with ⟨h, _⟩ | ⟨g1, cap1, cur1, hv1, _, hg1, _, _, hcs1, _⟩
      · simp at h
      rcases hl'.2 with ⟨h, _⟩ | ⟨g2, cap2, cur2, hv2, _, hg2, hnc2, hcm2, hcs2, ht2⟩
      · simp at h
      simp only [Value.slice.injEq, Option.some.injEq, Addr.mk.injEq, and_true, true_and] at hv1 hv2
      obtain ⟨rfl, rfl⟩ := hv1
      obtain ⟨rfl, rfl⟩ := hv2
      rw [hg0] at hg1
      simp only [Option.some.injEq, Obj.cells.injEq] at hg1
      have hcc : cap0 = cap := by have := hg1.1; rw [this] at hcs0; omega
      subst hcc
      refine .inr ⟨g0, cap0, cur2, rfl, hb0, hg2, hnc0, hcm0, hcs2, ?_⟩
      rw [← marksR_take M n0 N hn, ← ht2, List.take_take, Nat.min_eq_left (by omega)]
    · refine .inr ⟨g0, cap0, cur0, rfl, hb0, ?_, hnc0, hcm0, hcs0, ht0⟩
      rw [hg.block g0 (Array.getElem?_eq_some_iff.1 hg0).1 (by simpa using he)]
      exact hg0

/-- 'x = append(l, m, ..)', l marked, as many marks more -/
theorem app_marksR {w : World} {ops : Array Oper} {rest : List Oper} {o : Oper} {a : Act} {Q : Exit → Act → World → Prop} (hgd : o.guard = none) (s x : Operand) (t : TypeId)
    (ho : o.op = .call { callee := .builtin .append, args := #[s, x], argTypes := #[t, t] })
    (base : Nat) (e : TypeId) (ht : Tryz.prog.underlying t = some (.slice e)) (hinfo : (Tryz.prog.info? e).map (fun i => (i.zero, i.size, i.bytes)) = some (some (.agg #[.string ⟨#[]⟩, .int .i64 0, .int .i64 0, .string ⟨#[]⟩, .int .i64 0, .int .i64 0, .string ⟨#[]⟩, .string ⟨#[]⟩]), 8, 96))
    (lv : Value) (n m : Nat) (M : List UInt8) (C : Array Value) (hs : a.eval s = lv) (hx : a.eval x = .slice (some ⟨w.heap.size, 0, none⟩) m m) (hC : C.toList = marksR M m)
    (hown : w.ownsRow base e 8 lv n (marksR M n)) (hbase : base ≤ w.heap.size) (hlen : n + m ≤ 1000000000) (hm : 0 < m)
    (h : ∀ v' w', w'.ownsRow base e 8 v' (n + m) (marksR M (n + m)) → (∀ v0 n0, n0 ≤ n + m → w.ownsRow base e 8 v0 n0 (marksR M n0) → w'.ownsRow base e 8 v0 n0 (marksR M n0)) → w.grownBy w' lv.ownBlock → wpList Tryz.prog ops Q rest (a.put o.dst v') w') :
    wpList Tryz.prog ops Q (o :: rest) a (w.alloc (.cells C e)) := by
  obtain ⟨i0, hi, hz0, hz1, hz2⟩ := info_parts hinfo
  have hnews : ∀ j u, (marksR M m)[j]? = some u → (w.alloc (.cells C e)).cell? ((⟨w.heap.size, 0, none⟩ : Addr).add j) = some u := by
    intro j u hj
    rw [Addr.add_lit, Nat.zero_add, cell_of_row _ _ j C e (0, 0) (heap_alloc_new w _), ← hj, ← hC]
    simp
  have hal := hown.alloc (.cells C e)
  rcases hown.2 with ⟨hv, h0⟩ | ⟨g, cap, cur, hv, hb, hg, hnc, hcm, hcs, htk⟩
  · subst hv h0
    refine wpList_append_grows _ hgd s x t ho e i0 _ 8 96 ht hi hz0 hz1 hz2 rfl (by decide) none 0 0 [] hs (fun _ => ⟨rfl, rfl⟩) rfl (fun b hb => by cases hb) ⟨w.heap.size, 0, none⟩ m m (marksR M m) hx (marksR_length M m) hnews (marksR_one M m) ?_ (by unfold maxLen; omega) (by omega) ?_
    · omega
    · intro v' w' h1 h2
      have h3 := grown_alloc h2
      refine h v' w' ?_ (fun v0 n0 _ hv0 => hv0.kept h3 ?_) (grown_weak h3)
      · rw [marksR_add]; exact own_base h1 (by simp; omega)
      · cases hq : v0.ownBlock <;> simp
  · subst hv
    by_cases hroom : n + m ≤ cap
    · refine wpList_append_fits _ hgd s x t ho base e i0 8 ht hi hz1 g n cap (marksR M n) hs hal ⟨w.heap.size, 0, none⟩ m m (marksR M m) hx (marksR_length M m) hnews (marksR_one M m) hroom ?_
      intro w' h1 h2
      rw [← marksR_add] at h1
      have h3 := grown_alloc h2
      exact h _ w' h1 (fun v0 n0 hn0 hv0 => marksR_stay hown h1 h3 hv0 hn0) h3
    · refine wpList_append_grows _ hgd s x t ho e i0 _ 8 96 ht hi hz0 hz1 hz2 rfl (by decide) (some ⟨g, 0, none⟩) n cap (marksR M n) hs (fun h => by cases h) (marksR_length M n) (fun b hb j u hj => ?_) ⟨w.heap.size, 0, none⟩ m m (marksR M m) hx (marksR_length M m) hnews (marksR_one M m) (by omega) (by unfold maxLen; omega) (by omega) ?_
      · obtain rfl := Option.some.inj hb
        exact hal.cells rfl j u hj
      · intro v' w' h1 h2
        have h3 := grown_alloc h2
        refine h v' w' ?_ (fun v0 n0 _ hv0 => hv0.kept h3 ?_) (grown_weak h3)
        · rw [marksR_add]; exact own_base h1 (by simp; omega)
        · cases hq : v0.ownBlock <;> simp

/-- the first k of a list's elements marked -/
def mixedR (M : List UInt8) (out : List Rc) (k : Nat) : List Rc := List.replicate k (mkR M) ++ out.drop k

theorem mixedR_zero (M : List UInt8) (out : List Rc) : mixedR M out 0 = out := by simp [mixedR]
theorem mixedR_whole (M : List UInt8) (out : List Rc) (k : Nat) (h : out.length ≤ k) : Rcs (mixedR M out k) = marksR M k := by
  rw [mixedR, List.drop_of_length_le h, List.append_nil]; rfl
theorem mixedR_length (M : List UInt8) (out : List Rc) (k : Nat) (h : k ≤ out.length) : (mixedR M out k).length = out.length := by simp [mixedR]; omega
theorem mixedR_set (M : List UInt8) (out : List Rc) (k : Nat) (h : k < out.length) : (mixedR M out k).set k (mkR M) = mixedR M out (k + 1) := by
  rw [mixedR, mixedR, List.set_append, if_neg (by simp), List.length_replicate, Nat.sub_self]
  rw [List.drop_eq_getElem_cons h, List.set_cons_zero, List.replicate_succ']
  simp

theorem Tryz.infoRecs : (Tryz.prog.info? 40).map (fun i => (i.zero, i.size, i.bytes)) = some (some (.slice none 0 0), 1, 24) := by kernel_rfl

/-- how it stands while a list is written into the book: the World's block, the book's list of lists, the lists that are marked, and what else is as it was -/
structure KRt (w : World) (g B0 : Nat) (lv xv vr vp vq : Value) (M : List UInt8) (X : World) (vc : Value) (N : Nat) (es : List Value) (ms : List (Value × Nat)) : Prop where
  world : X.heap[g]? = some (.cells #[lv, xv, vr, vp, vq, vc] 39 (0, 0))
  list : X.ownsRow (g + 1) 40 1 vc N es
  mark : ∀ p ∈ ms, X.ownsRow (g + 1) 47 8 p.1 p.2 (marksR M p.2)
  below : Below g w X
  pres : ∀ e s v n xs, e ≠ 40 → (∀ k, v.ownBlock = some k → k < B0) → w.ownsRow (g + 1) e s v n xs → X.ownsRow (g + 1) e s v n xs

theorem below_grownR {g : Nat} {w wr w3 : World} {lb : Option Nat} (h : Below g w wr) (hg : g ≤ wr.heap.size) (hgr : wr.grownBy w3 lb) (hlb : ∀ k, lb = some k → g ≤ k) : Below g w w3 := h.grown hgr hg hlb

theorem KRt.marked {w wr w3 : World} {g B0 N L : Nat} {lv xv vr vp vq vc l v1 : Value} {M : List UInt8} {es : List Value} {ms : List (Value × Nat)} (h : KRt w g B0 lv xv vr vp vq M wr vc L es ms) {n : Nat} {xs : List Value}
    (hl : wr.ownsRow B0 47 8 l n xs) (hB : g + 1 ≤ B0) (hgr : wr.grownBy w3 l.ownBlock) (hst : ∀ v0 n0, n0 ≤ N → wr.ownsRow (g + 1) 47 8 v0 n0 (marksR M n0) → w3.ownsRow (g + 1) 47 8 v0 n0 (marksR M n0))
    (hms : ∀ p ∈ ms, p.2 ≤ N) (hv1 : w3.ownsRow (g + 1) 47 8 v1 N (marksR M N)) : KRt w g B0 lv xv vr vp vq M w3 vc L es (ms ++ [(v1, N)]) := by
  have hgl : g < wr.heap.size := (Array.getElem?_eq_some_iff.1 h.world).1
  have hlb : ∀ k, l.ownBlock = some k → B0 ≤ k := fun k hk => (hl.lt k hk).1
  refine ⟨?_, own_keep h.list hl (by decide) hgr.block, ?_, h.below.grown hgr (by omega) (fun k hk => by have := hlb k hk; omega), fun e s v n' xs' he hk hv => ?_⟩
  · rw [hgr.block g hgl (by intro hh; have := hlb g hh.symm; omega)]
    exact h.world
  · intro p hp
    rcases List.mem_append.1 hp with hp | hp
    · exact hst p.1 p.2 (hms p hp) (h.mark p hp)
    · obtain rfl := List.mem_singleton.1 hp
      exact hv1
  · refine (h.pres e s v n' xs' he hk hv).kept hgr ?_
    cases hq : v.ownBlock with
    | none => exact .inl rfl
    | some q =>
      right
      intro hh
      have h1 := hlb q hh.symm
      have h2 := hk q hq
      omega

theorem KRt.listed {w X X2 : World} {g B0 L : Nat} {lv xv vr vp vq vc v2 x : Value} {M : List UInt8} {es : List Value} {ms : List (Value × Nat)} (h : KRt w g B0 lv xv vr vp vq M X vc L es ms)
    (hv : X2.ownsRow (g + 1) 40 1 v2 (L + 1) (es ++ [x])) (hbel : Below (g + 1) X X2) (hkeep : ∀ k, k < X.heap.size → some k ≠ vc.ownBlock → X2.heap[k]? = X.heap[k]?) :
    KRt w g B0 lv xv vr vp vq M (X2.setCell ⟨g, 5, none⟩ v2) v2 (L + 1) (es ++ [x]) ms := by
  have hgl : g < X.heap.size := (Array.getElem?_eq_some_iff.1 h.world).1
  have hgX2 : X2.heap[g]? = some (.cells #[lv, xv, vr, vp, vq, vc] 39 (0, 0)) := (hbel.block g (by omega)).trans h.world
  refine ⟨heap_setCell_same X2 g 5 _ _ v2 hgX2, ?_, ?_, (h.below.trans (hbel.mono (by omega))).setCell (p := ⟨g, 5, none⟩) (Nat.le_refl _) v2, ?_⟩
  · exact ownsRow_setCell_below hv (a := ⟨g, 5, none⟩) (by simp) v2
  · intro p hp
    exact ownsRow_setCell_below (own_keep (h.mark p hp) h.list (by decide) hkeep) (a := ⟨g, 5, none⟩) (by simp) v2
  · intro e s v n' xs' he hk hv'
    exact ownsRow_setCell_below (own_keep (h.pres e s v n' xs' he hk hv') h.list he hkeep) (a := ⟨g, 5, none⟩) (by simp) v2

/-- 'k.records = append(k.records, x)': the append -/
theorem app_listR {w : World} {ops : Array Oper} {rest : List Oper} {o : Oper} {a : Act} {Q : Exit → Act → World → Prop} (hgd : o.guard = none) (s x : Operand)
    (ho : o.op = .call { callee := .builtin .append, args := #[s, x], argTypes := #[35, 35] })
    (base : Nat) (vc : Value) (L : Nat) (es : List Value) (y : Value) (hs : a.eval s = vc) (z : Nat) (hx : a.eval x = .slice (some ⟨z, 0, none⟩) 1 1) (hz : w.heap.size = z) (hown : w.ownsRow base 40 1 vc L es) (hbase : base ≤ w.heap.size) (hone : y.oneCell' = true) (hlen : L ≤ 7000000000000)
    (h : ∀ v' w', w'.ownsRow base 40 1 v' (L + 1) (es ++ [y]) → Below base w w' → (∀ k, k < w.heap.size → some k ≠ vc.ownBlock → w'.heap[k]? = w.heap[k]?) → wpList Tryz.prog ops Q rest (a.put o.dst v') w') :
    wpList Tryz.prog ops Q (o :: rest) a (w.alloc (.cells #[y] 40)) := by
  subst hz
  refine app_own_one hgd s x 35 ho base 40 (.slice none 0 0) Tryz.underlying35 Tryz.infoRecs rfl vc L es hs (hown.alloc _) ⟨w.heap.size, 0, none⟩ 1 y hx (by simp) hone (by simp; omega) (by omega) ?_
  intro v' w' h1 h2
  refine h v' w' h1 (((Below.refl _ _).alloc hbase _).grown h2 (by simp; omega) (fun k hk => (hown.lt k hk).1)) (fun k hk hn => ?_)
  rw [h2.block k (by simp; omega) hn, Below.heap_alloc _ _ _ hk]

set_option maxRecDepth 100000 in
set_option maxHeartbeats 4000000 in
theorem keepsRecords_any (w : World) (g : Nat) (lv xv vc vr vp vq : Value) (ents : List Value) (l : Value) (out : List Rc) (B0 : Nat)
    (hW : w.heap[g]? = some (.cells #[lv, xv, vr, vp, vq, vc] 39 (0, 0))) (hvc : w.ownsRow (g + 1) 40 1 vc ents.length ents) (hel : ents.length + 4 ≤ 7000000000000)
    (hl : w.ownsRow B0 47 8 l out.length (Rcs out)) (hB0 : g + 1 ≤ B0) (ho : out.length ≤ 900000000) :
    Calls Tryz.prog 48 #[.pointer (some ⟨g, 2, none⟩), l] w fun e w' => e = .returned (.tuple #[]) ∧
      ∃ vc' v1 v2 v3, w'.heap[g]? = some (.cells #[lv, xv, vr, vp, vq, vc'] 39 (0, 0)) ∧ w'.ownsRow (g + 1) 40 1 vc' (ents.length + 4) (ents ++ [l, v1, v2, v3]) ∧
        w'.ownsRow (g + 1) 47 8 l out.length (marksR (mk ents.length) out.length) ∧ w'.ownsRow (g + 1) 47 8 v1 (out.length + 1) (marksR (mk ents.length) (out.length + 1)) ∧
        w'.ownsRow (g + 1) 47 8 v2 (out.length + 2) (marksR (mk ents.length) (out.length + 2)) ∧ w'.ownsRow (g + 1) 47 8 v3 (out.length + 3) (marksR (mk ents.length) (out.length + 3)) ∧
        Below g w w' ∧ ∀ e s v n xs, e ≠ 40 → (∀ k, v.ownBlock = some k → k < B0) → w.ownsRow (g + 1) e s v n xs → w'.ownsRow (g + 1) e s v n xs := by
  have hgw : g < w.heap.size := (Array.getElem?_eq_some_iff.1 hW).1
  obtain ⟨M, hM⟩ : ∃ M, M = mk ents.length := ⟨_, rfl⟩
  have HM : Hid _ := hM
  rw [← hM]
  clear hM
  obtain ⟨ca, ccap, hvcf⟩ := own_form hvc
  obtain ⟨la, lcap, hlf⟩ := own_form hl
  subst hvcf hlf
  have c2 : w.cell? ⟨g, 5, none⟩ = some (.slice ca ents.length ccap) := cell_of_row w g 5 _ _ _ hW
  have HW : Hid _ := hW
  have HVC : Hid _ := hvc
  have HL : Hid _ := hl
  clear hW hvc hl
  go_enter Tryz.func48, Tryz.ntmps48
  go_wp2_with fail
  refine (mark_any ents.length _ (by omega)).mono ?_
  rintro e w1 ⟨rfl, hb1⟩
  rw [← HM.out]
  go_wp2
  have hbw : Below w1.heap.size w1 (w1.alloc (Obj.cells #[Value.string { data := M.toArray }, Value.int IntKind.i64 0, Value.int IntKind.i64 0, Value.string { data := #[] }, Value.int IntKind.i64 0, Value.int IntKind.i64 0, Value.string { data := #[] }, Value.string { data := #[] }] 47)) := (Below.refl _ _).alloc (Nat.le_refl _) _
  have hmb : (w1.alloc (Obj.cells #[Value.string { data := M.toArray }, Value.int IntKind.i64 0, Value.int IntKind.i64 0, Value.string { data := #[] }, Value.int IntKind.i64 0, Value.int IntKind.i64 0, Value.string { data := #[] }, Value.string { data := #[] }] 47)).heap[w1.heap.size]? = some (Obj.cells #[Value.string { data := M.toArray }, Value.int IntKind.i64 0, Value.int IntKind.i64 0, Value.string { data := #[] }, Value.int IntKind.i64 0, Value.int IntKind.i64 0, Value.string { data := #[] }, Value.string { data := #[] }] 47) := heap_alloc_new w1 _
  have hgm := hb1.size
  have hb2 := hb1.trans (hbw.mono hgm)
  generalize (w1.alloc (Obj.cells #[Value.string { data := M.toArray }, Value.int IntKind.i64 0, Value.int IntKind.i64 0, Value.string { data := #[] }, Value.int IntKind.i64 0, Value.int IntKind.i64 0, Value.string { data := #[] }, Value.string { data := #[] }] 47)) = W2 at *
  generalize w1.heap.size = gm at *
  have hgm2 : gm < W2.heap.size := (Array.getElem?_eq_some_iff.1 hmb).1
  have HMB : Hid _ := hmb
  have HL2 : Hid _ := own_below HL.out hb2
  have HVC2 : Hid _ := own_below HVC.out hb2
  have HW2 : Hid (W2.heap[g]? = some (.cells #[lv, xv, vr, vp, vq, .slice ca ents.length ccap] 39 (0, 0))) := (hb2.block g hgw).trans HW.out
  clear hbw hmb hb1 c2
  have HLB : Hid (∀ k, (Value.slice la out.length lcap).ownBlock = some k → B0 ≤ k ∧ k < w.heap.size) := World.ownsRow.lt HL.out
  go_loopw [5] (fun i wr => ∃ k : Nat, k ≤ out.length ∧ i = .int .i64 (k : Int) ∧ wr.ownsRow B0 47 8 (.slice la out.length lcap) out.length (Rcs (mixedR M out k)) ∧ W2.grownBy wr (Value.slice la out.length lcap).ownBlock)
    (fun i _ => out.length - (intOf i).toNat)
  case atStart => exact ⟨0, by omega, rfl, by rw [mixedR_zero]; exact HL2.out, World.grownBy.refl _ _⟩
  case round =>
    clear HL2
    obtain ⟨k, hk, rfl, hown, hgr⟩ := hrel
    by_cases hlt : k < out.length
    · obtain ⟨g1, hg1⟩ : ∃ g1, la = some ⟨g1, 0, none⟩ := by
        rcases hown.2 with ⟨_, h0⟩ | ⟨g1, cap, cur, hv, _⟩
        · omega
        · simp only [Value.slice.injEq] at hv
          exact ⟨g1, hv.1⟩
      subst hg1
      have hg1b := HLB.out g1 rfl
      have hmb : wr.heap[gm]? = some (Obj.cells #[Value.string { data := M.toArray }, Value.int IntKind.i64 0, Value.int IntKind.i64 0, Value.string { data := #[] }, Value.int IntKind.i64 0, Value.int IntKind.i64 0, Value.string { data := #[] }, Value.string { data := #[] }] 47) := (hgr.block gm hgm2 (by simp [Value.ownBlock]; omega)).trans HMB.out
      have m0 : wr.cell? ⟨gm, 0, none⟩ = some (.string ⟨M.toArray⟩) := cell_of_row wr gm 0 _ _ _ hmb
      have m1 : wr.cell? ⟨gm, 1, none⟩ = some (.int .i64 0) := cell_of_row wr gm 1 _ _ _ hmb
      have m2 : wr.cell? ⟨gm, 2, none⟩ = some (.int .i64 0) := cell_of_row wr gm 2 _ _ _ hmb
      have m3 : wr.cell? ⟨gm, 3, none⟩ = some (.string ⟨#[]⟩) := cell_of_row wr gm 3 _ _ _ hmb
      have m4 : wr.cell? ⟨gm, 4, none⟩ = some (.int .i64 0) := cell_of_row wr gm 4 _ _ _ hmb
      have m5 : wr.cell? ⟨gm, 5, none⟩ = some (.int .i64 0) := cell_of_row wr gm 5 _ _ _ hmb
      have m6 : wr.cell? ⟨gm, 6, none⟩ = some (.string ⟨#[]⟩) := cell_of_row wr gm 6 _ _ _ hmb
      have m7 : wr.cell? ⟨gm, 7, none⟩ = some (.string ⟨#[]⟩) := cell_of_row wr gm 7 _ _ _ hmb
      have hkl : k < (mixedR M out k).length := by rw [mixedR_length _ _ _ hk]; exact hlt
      obtain ⟨p0, p1, p2, p3, p4, p5, p6, p7⟩ := own_rec hown k hkl
      have f := fun i => hown.frozenAt (k * 8 + i)
      have f0 := f 0
      have f1 := f 1
      have f2 := f 2
      have f3 := f 3
      have f4 := f 4
      have f5 := f 5
      have f6 := f 6
      have f7 := f 7
      rw [Nat.add_zero] at f0
      have hs2 := own_set8 hown k hkl (mkR M)
      rw [mixedR_set M out k hlt] at hs2
      have HS : Hid _ := hs2.1
      have HG : Hid _ := grown_trans hgr hs2.2
      clear hs2 hown hgr hmb f
      have hlt' : (k : Int) < (out.length : Int) := by omega
      go_wp2
      go_roundw
      case rel => exact ⟨k + 1, by omega, by go_num, HS.out, HG.out⟩
      case measure => simp [intOf]; omega
    · have hke : k = out.length := by omega
      have hownB : wr.ownsRow B0 47 8 (.slice la out.length lcap) out.length (marksR M out.length) := by
        have := hown
        rw [hke, mixedR_whole _ _ _ (Nat.le_refl _)] at this
        exact this
      have hlt' : ¬ (k : Int) < (out.length : Int) := by omega
      have hgs := hgr.size
      have hlb : ∀ q, (Value.slice la out.length lcap).ownBlock = some q → B0 ≤ q := fun q hq => (HLB.out q hq).1
      have K0 : KRt w g B0 lv xv vr vp vq M wr (.slice ca ents.length ccap) ents.length ents [(.slice la out.length lcap, out.length)] := by
        refine ⟨?_, own_keep HVC2.out (own_below HL.out hb2) (by decide) hgr.block, ?_, (hb2.mono (by omega)).grown hgr (by omega) (fun q hq => by have := hlb q hq; omega), ?_⟩
        · rw [hgr.block g (by omega) (by intro hh; have := hlb g hh.symm; omega)]
          exact HW2.out
        · intro p hp
          obtain rfl := List.mem_singleton.1 hp
          exact own_base hownB hB0
        · intro e s v n' xs' he hkq hv
          refine (own_below hv hb2).kept hgr ?_
          cases hq : v.ownBlock with
          | none => exact .inl rfl
          | some q =>
            right
            intro hh
            have h1 := hlb q hh.symm
            have h2 := hkq q hq
            omega
      have hmb : wr.heap[gm]? = some (Obj.cells #[Value.string { data := M.toArray }, Value.int IntKind.i64 0, Value.int IntKind.i64 0, Value.string { data := #[] }, Value.int IntKind.i64 0, Value.int IntKind.i64 0, Value.string { data := #[] }, Value.string { data := #[] }] 47) := (hgr.block gm hgm2 (by intro h; have := HLB.out gm h.symm; omega)).trans HMB.out
      have m0 : wr.cell? ⟨gm, 0, none⟩ = some (.string ⟨M.toArray⟩) := cell_of_row wr gm 0 _ _ _ hmb
      have m1 : wr.cell? ⟨gm, 1, none⟩ = some (.int .i64 0) := cell_of_row wr gm 1 _ _ _ hmb
      have m2 : wr.cell? ⟨gm, 2, none⟩ = some (.int .i64 0) := cell_of_row wr gm 2 _ _ _ hmb
      have m3 : wr.cell? ⟨gm, 3, none⟩ = some (.string ⟨#[]⟩) := cell_of_row wr gm 3 _ _ _ hmb
      have m4 : wr.cell? ⟨gm, 4, none⟩ = some (.int .i64 0) := cell_of_row wr gm 4 _ _ _ hmb
      have m5 : wr.cell? ⟨gm, 5, none⟩ = some (.int .i64 0) := cell_of_row wr gm 5 _ _ _ hmb
      have m6 : wr.cell? ⟨gm, 6, none⟩ = some (.string ⟨#[]⟩) := cell_of_row wr gm 6 _ _ _ hmb
      have m7 : wr.cell? ⟨gm, 7, none⟩ = some (.string ⟨#[]⟩) := cell_of_row wr gm 7 _ _ _ hmb
      have HMB0 : Hid _ := hmb
      have hgwr : gm < wr.heap.size := by omega
      have hg1wr : g + 1 ≤ wr.heap.size := by omega
      clear hown hke hmb HVC2 HW2 HMB HW HVC hgr
      go_wp2_with (first
      | (at_builtin; refine app_marksR rfl (.tmp 26) (.tmp 28) 40 rfl (g + 1) 47 Tryz.underlying40 Tryz.infoRec2 (Value.slice la out.length lcap) out.length 1 M _ rfl rfl rfl (by exact K0.mark _ (List.mem_cons_self ..)) (by omega) (by omega) (by decide) ?_; intro v1 w3 hv1 hst1 hgr1; obtain ⟨a1, cp1, hf1⟩ := own_form hv1; subst hf1; have hsz1 := hgr1.size; have K1 := K0.marked (own_raise (K0.mark _ (List.mem_cons_self ..)) hlb) hB0 hgr1 hst1 (by intro p hp; simp at hp; subst hp; simp) hv1; have hmb1 : w3.heap[gm]? = some (Obj.cells #[Value.string { data := M.toArray }, Value.int IntKind.i64 0, Value.int IntKind.i64 0, Value.string { data := #[] }, Value.int IntKind.i64 0, Value.int IntKind.i64 0, Value.string { data := #[] }, Value.string { data := #[] }] 47) := (hgr1.block gm (by omega) (by intro h; have := HLB.out gm h.symm; omega)).trans HMB0.out; have mm1_0 : w3.cell? ⟨gm, 0, none⟩ = some (.string ⟨M.toArray⟩) := cell_of_row w3 gm 0 _ _ _ hmb1; have mm1_1 : w3.cell? ⟨gm, 1, none⟩ = some (.int .i64 0) := cell_of_row w3 gm 1 _ _ _ hmb1; have mm1_2 : w3.cell? ⟨gm, 2, none⟩ = some (.int .i64 0) := cell_of_row w3 gm 2 _ _ _ hmb1; have mm1_3 : w3.cell? ⟨gm, 3, none⟩ = some (.string ⟨#[]⟩) := cell_of_row w3 gm 3 _ _ _ hmb1; have mm1_4 : w3.cell? ⟨gm, 4, none⟩ = some (.int .i64 0) := cell_of_row w3 gm 4 _ _ _ hmb1; have mm1_5 : w3.cell? ⟨gm, 5, none⟩ = some (.int .i64 0) := cell_of_row w3 gm 5 _ _ _ hmb1; have mm1_6 : w3.cell? ⟨gm, 6, none⟩ = some (.string ⟨#[]⟩) := cell_of_row w3 gm 6 _ _ _ hmb1; have mm1_7 : w3.cell? ⟨gm, 7, none⟩ = some (.string ⟨#[]⟩) := cell_of_row w3 gm 7 _ _ _ hmb1; have HMB1 : Hid _ := hmb1; clear hmb1 hst1 hgr1 hv1)
      | (at_builtin; refine app_marksR rfl (.tmp 30) (.tmp 33) 40 rfl (g + 1) 47 Tryz.underlying40 Tryz.infoRec2 (Value.slice la out.length lcap) out.length 2 M _ rfl rfl rfl (by exact K1.mark _ (List.mem_cons_self ..)) (by omega) (by omega) (by decide) ?_; intro v2 w4 hv2 hst2 hgr2; obtain ⟨a2, cp2, hf2⟩ := own_form hv2; subst hf2; have hsz2 := hgr2.size; have K2 := K1.marked (own_raise (K1.mark _ (List.mem_cons_self ..)) hlb) hB0 hgr2 hst2 (by intro p hp; simp at hp; rcases hp with rfl | rfl <;> simp) hv2; have hmb2 : w4.heap[gm]? = some (Obj.cells #[Value.string { data := M.toArray }, Value.int IntKind.i64 0, Value.int IntKind.i64 0, Value.string { data := #[] }, Value.int IntKind.i64 0, Value.int IntKind.i64 0, Value.string { data := #[] }, Value.string { data := #[] }] 47) := (hgr2.block gm (by omega) (by intro h; have := HLB.out gm h.symm; omega)).trans HMB1.out; have mm2_0 : w4.cell? ⟨gm, 0, none⟩ = some (.string ⟨M.toArray⟩) := cell_of_row w4 gm 0 _ _ _ hmb2; have mm2_1 : w4.cell? ⟨gm, 1, none⟩ = some (.int .i64 0) := cell_of_row w4 gm 1 _ _ _ hmb2; have mm2_2 : w4.cell? ⟨gm, 2, none⟩ = some (.int .i64 0) := cell_of_row w4 gm 2 _ _ _ hmb2; have mm2_3 : w4.cell? ⟨gm, 3, none⟩ = some (.string ⟨#[]⟩) := cell_of_row w4 gm 3 _ _ _ hmb2; have mm2_4 : w4.cell? ⟨gm, 4, none⟩ = some (.int .i64 0) := cell_of_row w4 gm 4 _ _ _ hmb2; have mm2_5 : w4.cell? ⟨gm, 5, none⟩ = some (.int .i64 0) := cell_of_row w4 gm 5 _ _ _ hmb2; have mm2_6 : w4.cell? ⟨gm, 6, none⟩ = some (.string ⟨#[]⟩) := cell_of_row w4 gm 6 _ _ _ hmb2; have mm2_7 : w4.cell? ⟨gm, 7, none⟩ = some (.string ⟨#[]⟩) := cell_of_row w4 gm 7 _ _ _ hmb2; have HMB2 : Hid _ := hmb2; clear hmb2 hst2 hgr2 hv2)
      | (at_builtin; refine app_marksR rfl (.tmp 35) (.tmp 39) 40 rfl (g + 1) 47 Tryz.underlying40 Tryz.infoRec2 (Value.slice la out.length lcap) out.length 3 M _ rfl rfl rfl (by exact K2.mark _ (List.mem_cons_self ..)) (by omega) (by omega) (by decide) ?_; intro v3 w5 hv3 hst3 hgr3; obtain ⟨a3, cp3, hf3⟩ := own_form hv3; subst hf3; have hsz3 := hgr3.size; have K3 := K2.marked (own_raise (K2.mark _ (List.mem_cons_self ..)) hlb) hB0 hgr3 hst3 (by intro p hp; simp at hp; rcases hp with rfl | rfl | rfl <;> simp) hv3; have hmb3 : w5.heap[gm]? = some (Obj.cells #[Value.string { data := M.toArray }, Value.int IntKind.i64 0, Value.int IntKind.i64 0, Value.string { data := #[] }, Value.int IntKind.i64 0, Value.int IntKind.i64 0, Value.string { data := #[] }, Value.string { data := #[] }] 47) := (hgr3.block gm (by omega) (by intro h; have := HLB.out gm h.symm; omega)).trans HMB2.out; have mm3_0 : w5.cell? ⟨gm, 0, none⟩ = some (.string ⟨M.toArray⟩) := cell_of_row w5 gm 0 _ _ _ hmb3; have mm3_1 : w5.cell? ⟨gm, 1, none⟩ = some (.int .i64 0) := cell_of_row w5 gm 1 _ _ _ hmb3; have mm3_2 : w5.cell? ⟨gm, 2, none⟩ = some (.int .i64 0) := cell_of_row w5 gm 2 _ _ _ hmb3; have mm3_3 : w5.cell? ⟨gm, 3, none⟩ = some (.string ⟨#[]⟩) := cell_of_row w5 gm 3 _ _ _ hmb3; have mm3_4 : w5.cell? ⟨gm, 4, none⟩ = some (.int .i64 0) := cell_of_row w5 gm 4 _ _ _ hmb3; have mm3_5 : w5.cell? ⟨gm, 5, none⟩ = some (.int .i64 0) := cell_of_row w5 gm 5 _ _ _ hmb3; have mm3_6 : w5.cell? ⟨gm, 6, none⟩ = some (.string ⟨#[]⟩) := cell_of_row w5 gm 6 _ _ _ hmb3; have mm3_7 : w5.cell? ⟨gm, 7, none⟩ = some (.string ⟨#[]⟩) := cell_of_row w5 gm 7 _ _ _ hmb3; have HMB3 : Hid _ := hmb3; clear hmb3 hst3 hgr3 hv3; have cc3 : w5.cell? ⟨g, 5, none⟩ = some (.slice ca ents.length ccap) := cell_of_row w5 g 5 _ _ _ K3.world)
      | (at_builtin; refine app_listR rfl (.tmp 45) (.tmp 47) rfl (g + 1) (.slice ca ents.length ccap) ents.length (ents) (Value.slice la out.length lcap) (by rfl) _ (by rfl) (by first | rfl | simp [World.setCell]) (by exact K3.list) (Array.getElem?_eq_some_iff.1 K3.world).1 rfl (by omega) ?_; intro u4 w6 hu4 hb4 hk4; obtain ⟨b4, bc4, hq4⟩ := own_form hu4; subst hq4; have K4 := K3.listed hu4 hb4 hk4; have hwb4 := (hb4.block g (by omega)).trans K3.world; have cw4 : w6.cell? ⟨g, 5, none⟩ = some (.slice ca ents.length ccap) := cell_of_row w6 g 5 _ _ _ hwb4; have fw4 : w6.frozen? ⟨g, 5, none⟩ = false := frozen_of_row w6 g 5 _ _ hwb4; have hsl4 := hb4.size; have HWB4 : Hid _ := hwb4; clear hwb4 hu4 hb4 hk4)
      | (at_builtin; refine app_listR rfl (.tmp 55) (.tmp 57) rfl (g + 1) (.slice b4 (ents.length + 1) bc4) (ents.length + 1) (ents ++ [(Value.slice la out.length lcap)]) (.slice a1 (out.length + 1) cp1) (by rfl) _ (by rfl) (by first | rfl | simp [World.setCell]) (by exact K4.list) (Array.getElem?_eq_some_iff.1 K4.world).1 rfl (by omega) ?_; intro u5 w7 hu5 hb5 hk5; obtain ⟨b5, bc5, hq5⟩ := own_form hu5; subst hq5; have K5 := K4.listed hu5 hb5 hk5; have hwb5 := (hb5.block g (by omega)).trans K4.world; have cw5 : w7.cell? ⟨g, 5, none⟩ = some (.slice b4 (ents.length + 1) bc4) := cell_of_row w7 g 5 _ _ _ hwb5; have fw5 : w7.frozen? ⟨g, 5, none⟩ = false := frozen_of_row w7 g 5 _ _ hwb5; have hsl5 := hb5.size; have HWB5 : Hid _ := hwb5; clear hwb5 hu5 hb5 hk5)
      | (at_builtin; refine app_listR rfl (.tmp 65) (.tmp 67) rfl (g + 1) (.slice b5 (ents.length + 1 + 1) bc5) (ents.length + 1 + 1) (ents ++ [(Value.slice la out.length lcap)] ++ [(.slice a1 (out.length + 1) cp1)]) (.slice a2 (out.length + 2) cp2) (by rfl) _ (by rfl) (by first | rfl | simp [World.setCell]) (by exact K5.list) (Array.getElem?_eq_some_iff.1 K5.world).1 rfl (by omega) ?_; intro u6 w8 hu6 hb6 hk6; obtain ⟨b6, bc6, hq6⟩ := own_form hu6; subst hq6; have K6 := K5.listed hu6 hb6 hk6; have hwb6 := (hb6.block g (by omega)).trans K5.world; have cw6 : w8.cell? ⟨g, 5, none⟩ = some (.slice b5 (ents.length + 1 + 1) bc5) := cell_of_row w8 g 5 _ _ _ hwb6; have fw6 : w8.frozen? ⟨g, 5, none⟩ = false := frozen_of_row w8 g 5 _ _ hwb6; have hsl6 := hb6.size; have HWB6 : Hid _ := hwb6; clear hwb6 hu6 hb6 hk6)
      | (at_builtin; refine app_listR rfl (.tmp 75) (.tmp 77) rfl (g + 1) (.slice b6 (ents.length + 1 + 1 + 1) bc6) (ents.length + 1 + 1 + 1) (ents ++ [(Value.slice la out.length lcap)] ++ [(.slice a1 (out.length + 1) cp1)] ++ [(.slice a2 (out.length + 2) cp2)]) (.slice a3 (out.length + 3) cp3) (by rfl) _ (by rfl) (by first | rfl | simp [World.setCell]) (by exact K6.list) (Array.getElem?_eq_some_iff.1 K6.world).1 rfl (by omega) ?_; intro u7 w9 hu7 hb7 hk7; obtain ⟨b7, bc7, hq7⟩ := own_form hu7; subst hq7; have K7 := K6.listed hu7 hb7 hk7; have hwb7 := (hb7.block g (by omega)).trans K6.world; have cw7 : w9.cell? ⟨g, 5, none⟩ = some (.slice b6 (ents.length + 1 + 1 + 1) bc6) := cell_of_row w9 g 5 _ _ _ hwb7; have fw7 : w9.frozen? ⟨g, 5, none⟩ = false := frozen_of_row w9 g 5 _ _ hwb7; have hsl7 := hb7.size; have HWB7 : Hid _ := hwb7; clear hwb7 hu7 hb7 hk7))
      go_end0
      refine ⟨rfl, _, K7.world, .slice a1 (out.length + 1) cp1, .slice a2 (out.length + 2) cp2, .slice a3 (out.length + 3) cp3, ?_, K7.mark (_, _) (by simp), K7.mark (_, _) (by simp), K7.mark (_, _) (by simp), K7.mark (_, _) (by simp), K7.below, K7.pres⟩
      have := K7.list
      simp only [List.append_assoc, List.cons_append, List.nil_append] at this
      exact this

end Go.Proofs.YtfcbgfomhmcikaaGreatDoor
