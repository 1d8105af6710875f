/-
  LISTS OF ONE STRUCT OF TWO CELLS, many times: laws on rows that share their room (as TxMarks, for whatever two cells). Own text of the verifier.
  THE WALK of 'keepsPlaces': a list that came out is marked, appended to thrice, and written into the book. Own text of the verifier.
  THE WALK of 'looks', at a book of places alone. Own text of the verifier.
  PLAIN MATHEMATICS of the program's search: letters that are bleached already, held against each other. Own text of the verifier.
-/
import Derived.Test.YtfcbgfomhmcikaaGreatDoorBun10
import Derived.Test.YtfcbgfomhmcikaaGreatDoorBun12
namespace Go.Proofs.YtfcbgfomhmcikaaGreatDoor
open Go.RowKit

/-- n times the cells A, B -/
def reps (A B : Value) (n : Nat) : List Value := (List.replicate n [A, B]).flatten

theorem reps_add (A B : Value) (n m : Nat) : reps A B (n + m) = reps A B n ++ reps A B m := by rw [reps, reps, reps, ← List.flatten_append, List.replicate_append_replicate]
theorem reps_succ (A B : Value) (n : Nat) : reps A B (n + 1) = reps A B n ++ [A, B] := by rw [reps_add]; rfl
theorem reps_length (A B : Value) (n : Nat) : (reps A B n).length = n * 2 := by
  induction n with
  | zero => rfl
  | succ n ih => rw [reps_succ, List.length_append, ih]; simp; omega
theorem reps_one (A B : Value) (hA : A.oneCell' = true) (hB : B.oneCell' = true) (n : Nat) : ∀ u ∈ reps A B n, u.oneCell' = true := by
  induction n with
  | zero => intro u hu; simp [reps] at hu
  | succ n ih =>
    intro u hu
    rw [reps_succ, List.mem_append] at hu
    rcases hu with hu | hu
    · exact ih u hu
    · simp at hu
      rcases hu with rfl | rfl
      · exact hA
      · exact hB
theorem reps_take (A B : Value) (n m : Nat) (h : n ≤ m) : (reps A B m).take (n * 2) = reps A B n := by
  obtain ⟨k, rfl⟩ : ∃ k, m = n + k := ⟨m - n, by omega⟩
  rw [reps_add, List.take_append_of_le_length (by rw [reps_length]; exact Nat.le_refl _), List.take_of_length_le (by rw [reps_length]; exact Nat.le_refl _)]

/-- a marked list stays marked while another that shares its row is written up to at least its end -/
theorem reps_stay {w w' : World} {base e g n N cap : Nat} {A B : Value} (hl : w.ownsRow base e 2 (.slice (some ⟨g, 0, none⟩) n cap) n (reps A B n)) (hl' : w'.ownsRow base e 2 (.slice (some ⟨g, 0, none⟩) N cap) N (reps A B N)) (hg : w.grownBy w' (some g))
    {v0 : Value} {n0 : Nat} (h0 : w.ownsRow base e 2 v0 n0 (reps A B n0)) (hn : n0 ≤ N) : w'.ownsRow base e 2 v0 n0 (reps A B n0) := by
  refine ⟨h0.1, ?_⟩
  rcases h0.2 with h | ⟨g0, cap0, cur0, rfl, hb0, hg0, hnc0, hcm0, hcs0, ht0⟩
  · exact .inl h
  · by_cases he : g0 = g
    · subst he
      rcases hl.2 with ⟨h, _⟩ | ⟨g1, cap1, cur1, hv1, _, hg1, _, _, hcs1, _⟩
      · simp at h
      rcases hl'.2 with ⟨h, _⟩ | ⟨g2, cap2, cur2, hv2, _, hg2, hnc2, hcm2, hcs2, ht2⟩
      · simp at h
      simp only [Value.slice.injEq, Option.some.injEq, Addr.mk.injEq, and_true, true_and] at hv1 hv2
      obtain ⟨rfl, rfl⟩ := hv1
      obtain ⟨rfl, rfl⟩ := hv2
      rw [hg0] at hg1
      simp only [Option.some.injEq, Obj.cells.injEq] at hg1
      have hcc : cap0 = cap := by have := hg1.1; rw [this] at hcs0; omega
      subst hcc
      refine .inr ⟨g0, cap0, cur2, rfl, hb0, hg2, hnc0, hcm0, hcs2, ?_⟩
      rw [← reps_take A B n0 N hn, ← ht2, List.take_take, Nat.min_eq_left (by omega)]
    · refine .inr ⟨g0, cap0, cur0, rfl, hb0, ?_, hnc0, hcm0, hcs0, ht0⟩
      rw [hg.block g0 (Array.getElem?_eq_some_iff.1 hg0).1 (by simpa using he)]
      exact hg0

/-- 'x = append(l, m, ..)', l marked, as many marks more -/
theorem app_reps {w : World} {ops : Array Oper} {rest : List Oper} {o : Oper} {a : Act} {Q : Exit → Act → World → Prop} (hgd : o.guard = none) (s x : Operand) (t : TypeId)
    (ho : o.op = .call { callee := .builtin .append, args := #[s, x], argTypes := #[t, t] })
    (base : Nat) (e : TypeId) (ht : Tryz.prog.underlying t = some (.slice e)) (hinfo : (Tryz.prog.info? e).map (fun i => (i.zero, i.size, i.bytes)) = some (some (.agg #[.int .i64 0, .int .i64 0]), 2, 16))
    (lv : Value) (n m : Nat) (A B : Value) (hA : A.oneCell' = true) (hB : B.oneCell' = true) (C : Array Value) (hs : a.eval s = lv) (hx : a.eval x = .slice (some ⟨w.heap.size, 0, none⟩) m m) (hC : C.toList = reps A B m)
    (hown : w.ownsRow base e 2 lv n (reps A B n)) (hbase : base ≤ w.heap.size) (hlen : n + m ≤ 100000) (hm : 0 < m)
    (h : ∀ v' w', w'.ownsRow base e 2 v' (n + m) (reps A B (n + m)) → (∀ v0 n0, n0 ≤ n + m → w.ownsRow base e 2 v0 n0 (reps A B n0) → w'.ownsRow base e 2 v0 n0 (reps A B n0)) → w.grownBy w' lv.ownBlock → wpList Tryz.prog ops Q rest (a.put o.dst v') w') :
    wpList Tryz.prog ops Q (o :: rest) a (w.alloc (.cells C e)) := by
  obtain ⟨i0, hi, hz0, hz1, hz2⟩ := info_parts hinfo
  have hnews : ∀ j u, (reps A B m)[j]? = some u → (w.alloc (.cells C e)).cell? ((⟨w.heap.size, 0, none⟩ : Addr).add j) = some u := by
    intro j u hj
    rw [Addr.add_lit, Nat.zero_add, cell_of_row _ _ j C e (0, 0) (heap_alloc_new w _), ← hj, ← hC]
    simp
  have hal := hown.alloc (.cells C e)
  rcases hown.2 with ⟨hv, h0⟩ | ⟨g, cap, cur, hv, hb, hg, hnc, hcm, hcs, htk⟩
  · subst hv h0
    refine wpList_append_grows _ hgd s x t ho e i0 _ 2 16 ht hi hz0 hz1 hz2 rfl (by decide) none 0 0 [] hs (fun _ => ⟨rfl, rfl⟩) rfl (fun b hb => by cases hb) ⟨w.heap.size, 0, none⟩ m m (reps A B m) hx (reps_length A B m) hnews (reps_one A B hA hB m) ?_ (by unfold maxLen; omega) (by omega) ?_
    · omega
    · intro v' w' h1 h2
      have h3 := grown_alloc h2
      refine h v' w' ?_ (fun v0 n0 _ hv0 => hv0.kept h3 ?_) (grown_weak h3)
      · rw [reps_add]; exact own_base h1 (by simp; omega)
      · cases hq : v0.ownBlock <;> simp
  · subst hv
    by_cases hroom : n + m ≤ cap
    · refine wpList_append_fits _ hgd s x t ho base e i0 2 ht hi hz1 g n cap (reps A B n) hs hal ⟨w.heap.size, 0, none⟩ m m (reps A B m) hx (reps_length A B m) hnews (reps_one A B hA hB m) hroom ?_
      intro w' h1 h2
      rw [← reps_add] at h1
      have h3 := grown_alloc h2
      exact h _ w' h1 (fun v0 n0 hn0 hv0 => reps_stay hown h1 h3 hv0 hn0) h3
    · refine wpList_append_grows _ hgd s x t ho e i0 _ 2 16 ht hi hz0 hz1 hz2 rfl (by decide) (some ⟨g, 0, none⟩) n cap (reps A B n) hs (fun h => by cases h) (reps_length A B n) (fun b hb j u hj => ?_) ⟨w.heap.size, 0, none⟩ m m (reps A B m) hx (reps_length A B m) hnews (reps_one A B hA hB m) (by omega) (by unfold maxLen; omega) (by omega) ?_
      · obtain rfl := Option.some.inj hb
        exact hal.cells rfl j u hj
      · intro v' w' h1 h2
        have h3 := grown_alloc h2
        refine h v' w' ?_ (fun v0 n0 _ hv0 => hv0.kept h3 ?_) (grown_weak h3)
        · rw [reps_add]; exact own_base h1 (by simp; omega)
        · cases hq : v0.ownBlock <;> simp

end Go.Proofs.YtfcbgfomhmcikaaGreatDoor

namespace Go.Proofs.YtfcbgfomhmcikaaGreatDoor
open Go.RowKit

theorem Tryz.infoPls : (Tryz.prog.info? 65).map (fun i => (i.zero, i.size, i.bytes)) = some (some (.slice none 0 0), 1, 24) := by kernel_rfl

/-- the mark of the n-th list of places -/
def mp (n : Nat) : Value := .int .i64 (-1 - ((n / 4 : Nat) : Int))
theorem mp_one (n : Nat) : (mp n).oneCell' = true := rfl
theorem mp_same (n i : Nat) (h : n % 4 = 0) (hi : i < 4) : mp (n + i) = mp n := by
  unfold mp
  rw [show (n + i) / 4 = n / 4 by omega]

/-- the first k of a list's elements marked -/
def mixp (M : Value) (out : List (Nat × Nat)) (k : Nat) : List Value := reps M (.int .i64 0) k ++ (Se.pls out).drop (k * 2)
theorem mixp_zero (M : Value) (out : List (Nat × Nat)) : mixp M out 0 = Se.pls out := by simp [mixp, reps]
theorem mixp_whole (M : Value) (out : List (Nat × Nat)) (k : Nat) (h : out.length ≤ k) : mixp M out k = reps M (.int .i64 0) k := by
  rw [mixp, List.drop_of_length_le (by rw [Se.pls_length]; omega), List.append_nil]
theorem mixp_length (M : Value) (out : List (Nat × Nat)) (k : Nat) (h : k ≤ out.length) : (mixp M out k).length = out.length * 2 := by
  rw [mixp, List.length_append, reps_length, List.length_drop, Se.pls_length]; omega
theorem mixp_set (M : Value) (out : List (Nat × Nat)) (k : Nat) (h : k < out.length) : ((mixp M out k).set (k * 2) M).set (k * 2 + 1) (.int .i64 0) = mixp M out (k + 1) := by
  have hl := reps_length M (.int .i64 0) k
  have hp := Se.pls_length out
  rw [mixp, mixp, reps_succ, List.set_append, if_neg (by omega), hl, Nat.sub_self, List.set_append, if_neg (by omega), hl, show k * 2 + 1 - k * 2 = 1 by omega, List.append_assoc]
  congr 1
  rw [List.drop_eq_getElem_cons (i := k * 2) (by omega), List.drop_eq_getElem_cons (i := k * 2 + 1) (by omega), show k * 2 + 1 + 1 = (k + 1) * 2 by omega]
  simp only [List.set_cons_zero, List.set_cons_succ, List.cons_append, List.nil_append]

/-- how it stands while a list is written into the book: the World's block, the book's list of lists, the lists that are marked, and what else is as it was -/
structure KPt (w : World) (g B0 : Nat) (lv xv vr vp vq : Value) (M : Value) (X : World) (vc : Value) (N : Nat) (es : List Value) (ms : List (Value × Nat)) : Prop where
  world : X.heap[g]? = some (.cells #[lv, xv, vr, vp, vc, vq] 39 (0, 0))
  list : X.ownsRow (g + 1) 65 1 vc N es
  mark : ∀ p ∈ ms, X.ownsRow (g + 1) 67 2 p.1 p.2 (reps M (.int .i64 0) p.2)
  below : Below g w X
  pres : ∀ e s v n xs, e ≠ 65 → (∀ k, v.ownBlock = some k → k < B0) → w.ownsRow (g + 1) e s v n xs → X.ownsRow (g + 1) e s v n xs

theorem KPt.marked {w wr w3 : World} {g B0 N L : Nat} {lv xv vr vp vq vc l v1 : Value} {M : Value} {es : List Value} {ms : List (Value × Nat)} (h : KPt w g B0 lv xv vr vp vq M wr vc L es ms) {n : Nat} {xs : List Value}
    (hl : wr.ownsRow B0 67 2 l n xs) (hB : g + 1 ≤ B0) (hgr : wr.grownBy w3 l.ownBlock) (hst : ∀ v0 n0, n0 ≤ N → wr.ownsRow (g + 1) 67 2 v0 n0 (reps M (.int .i64 0) n0) → w3.ownsRow (g + 1) 67 2 v0 n0 (reps M (.int .i64 0) n0))
    (hms : ∀ p ∈ ms, p.2 ≤ N) (hv1 : w3.ownsRow (g + 1) 67 2 v1 N (reps M (.int .i64 0) N)) : KPt w g B0 lv xv vr vp vq M w3 vc L es (ms ++ [(v1, N)]) := by
  have hgl : g < wr.heap.size := (Array.getElem?_eq_some_iff.1 h.world).1
  have hlb : ∀ k, l.ownBlock = some k → B0 ≤ k := fun k hk => (hl.lt k hk).1
  refine ⟨?_, own_keep h.list hl (by decide) hgr.block, ?_, h.below.grown hgr (by omega) (fun k hk => by have := hlb k hk; omega), fun e s v n' xs' he hk hv => ?_⟩
  · rw [hgr.block g hgl (by intro hh; have := hlb g hh.symm; omega)]
    exact h.world
  · intro p hp
    rcases List.mem_append.1 hp with hp | hp
    · exact hst p.1 p.2 (hms p hp) (h.mark p hp)
    · obtain rfl := List.mem_singleton.1 hp
      exact hv1
  · refine (h.pres e s v n' xs' he hk hv).kept hgr ?_
    cases hq : v.ownBlock with
    | none => exact .inl rfl
    | some q =>
      right
      intro hh
      have h1 := hlb q hh.symm
      have h2 := hk q hq
      omega

theorem KPt.listed {w X X2 : World} {g B0 L : Nat} {lv xv vr vp vq vc v2 x : Value} {M : Value} {es : List Value} {ms : List (Value × Nat)} (h : KPt w g B0 lv xv vr vp vq M X vc L es ms)
    (hv : X2.ownsRow (g + 1) 65 1 v2 (L + 1) (es ++ [x])) (hbel : Below (g + 1) X X2) (hkeep : ∀ k, k < X.heap.size → some k ≠ vc.ownBlock → X2.heap[k]? = X.heap[k]?) :
    KPt w g B0 lv xv vr vp vq M (X2.setCell ⟨g, 4, none⟩ v2) v2 (L + 1) (es ++ [x]) ms := by
  have hgl : g < X.heap.size := (Array.getElem?_eq_some_iff.1 h.world).1
  have hgX2 : X2.heap[g]? = some (.cells #[lv, xv, vr, vp, vc, vq] 39 (0, 0)) := (hbel.block g (by omega)).trans h.world
  refine ⟨heap_setCell_same X2 g 4 _ _ v2 hgX2, ?_, ?_, (h.below.trans (hbel.mono (by omega))).setCell (p := ⟨g, 4, none⟩) (Nat.le_refl _) v2, ?_⟩
  · exact ownsRow_setCell_below hv (a := ⟨g, 4, none⟩) (by simp) v2
  · intro p hp
    exact ownsRow_setCell_below (own_keep (h.mark p hp) h.list (by decide) hkeep) (a := ⟨g, 4, none⟩) (by simp) v2
  · intro e s v n' xs' he hk hv'
    exact ownsRow_setCell_below (own_keep (h.pres e s v n' xs' he hk hv') h.list he hkeep) (a := ⟨g, 4, none⟩) (by simp) v2

/-- 'k.places = append(k.places, x)': the append -/
theorem app_listP {w : World} {ops : Array Oper} {rest : List Oper} {o : Oper} {a : Act} {Q : Exit → Act → World → Prop} (hgd : o.guard = none) (s x : Operand)
    (ho : o.op = .call { callee := .builtin .append, args := #[s, x], argTypes := #[34, 34] })
    (base : Nat) (vc : Value) (L : Nat) (es : List Value) (y : Value) (hs : a.eval s = vc) (z : Nat) (hx : a.eval x = .slice (some ⟨z, 0, none⟩) 1 1) (hz : w.heap.size = z) (hown : w.ownsRow base 65 1 vc L es) (hbase : base ≤ w.heap.size) (hone : y.oneCell' = true) (hlen : L ≤ 7000000000000)
    (h : ∀ v' w', w'.ownsRow base 65 1 v' (L + 1) (es ++ [y]) → Below base w w' → (∀ k, k < w.heap.size → some k ≠ vc.ownBlock → w'.heap[k]? = w.heap[k]?) → wpList Tryz.prog ops Q rest (a.put o.dst v') w') :
    wpList Tryz.prog ops Q (o :: rest) a (w.alloc (.cells #[y] 65)) := by
  subst hz
  refine app_own_one hgd s x 34 ho base 65 (.slice none 0 0) Tryz.underlying34 Tryz.infoPls rfl vc L es hs (hown.alloc _) ⟨w.heap.size, 0, none⟩ 1 y hx (by simp) hone (by simp; omega) (by omega) ?_
  intro v' w' h1 h2
  refine h v' w' h1 (((Below.refl _ _).alloc hbase _).grown h2 (by simp; omega) (fun k hk => (hown.lt k hk).1)) (fun k hk hn => ?_)
  rw [h2.block k (by simp; omega) hn, Below.heap_alloc _ _ _ hk]

set_option maxRecDepth 100000 in
set_option maxHeartbeats 8000000 in
theorem keepsPlaces_any (w : World) (g : Nat) (lv xv vc vr vp vq : Value) (ents : List Value) (l : Value) (out : List (Nat × Nat)) (B0 : Nat)
    (hW : w.heap[g]? = some (.cells #[lv, xv, vr, vp, vc, vq] 39 (0, 0))) (hvc : w.ownsRow (g + 1) 65 1 vc ents.length ents) (hel : ents.length + 4 ≤ 7000000000000)
    (hl : w.ownsRow B0 67 2 l out.length (Se.pls out)) (hB0 : g + 1 ≤ B0) (ho : out.length ≤ 90000) :
    Calls Tryz.prog 57 #[.pointer (some ⟨g, 2, none⟩), l] w fun e w' => e = .returned (.tuple #[]) ∧
      ∃ vc' v1 v2 v3, w'.heap[g]? = some (.cells #[lv, xv, vr, vp, vc', vq] 39 (0, 0)) ∧ w'.ownsRow (g + 1) 65 1 vc' (ents.length + 4) (ents ++ [l, v1, v2, v3]) ∧
        w'.ownsRow (g + 1) 67 2 l out.length (reps (mp ents.length) (.int .i64 0) out.length) ∧ w'.ownsRow (g + 1) 67 2 v1 (out.length + 1) (reps (mp ents.length) (.int .i64 0) (out.length + 1)) ∧
        w'.ownsRow (g + 1) 67 2 v2 (out.length + 2) (reps (mp ents.length) (.int .i64 0) (out.length + 2)) ∧ w'.ownsRow (g + 1) 67 2 v3 (out.length + 3) (reps (mp ents.length) (.int .i64 0) (out.length + 3)) ∧
        Below g w w' ∧ ∀ e s v n xs, e ≠ 65 → (∀ k, v.ownBlock = some k → k < B0) → w.ownsRow (g + 1) e s v n xs → w'.ownsRow (g + 1) e s v n xs := by
  have hgw : g < w.heap.size := (Array.getElem?_eq_some_iff.1 hW).1
  obtain ⟨M, hM⟩ : ∃ M : Int, M = -1 - ((ents.length / 4 : Nat) : Int) := ⟨_, rfl⟩
  rw [show mp ents.length = .int .i64 M from by rw [hM]; rfl]
  have HM : Hid (-1 - (ents.length : Int) / 4 = M) := by show _ = _; rw [hM]; omega
  clear hM
  obtain ⟨ca, ccap, hvcf⟩ := own_form hvc
  obtain ⟨la, lcap, hlf⟩ := own_form hl
  subst hvcf hlf
  have c2 : w.cell? ⟨g, 4, none⟩ = some (.slice ca ents.length ccap) := cell_of_row w g 4 _ _ _ hW
  have HW : Hid _ := hW
  have HVC : Hid _ := hvc
  have HL : Hid _ := hl
  clear hW hvc hl
  go_enter Tryz.func57, Tryz.ntmps57
  go_wp2
  rw [HM.out]
  have hbw : Below w.heap.size w (w.alloc (Obj.cells #[Value.int IntKind.i64 M, Value.int IntKind.i64 0] 67)) := (Below.refl _ _).alloc (Nat.le_refl _) _
  have hmb : (w.alloc (Obj.cells #[Value.int IntKind.i64 M, Value.int IntKind.i64 0] 67)).heap[w.heap.size]? = some (Obj.cells #[Value.int IntKind.i64 M, Value.int IntKind.i64 0] 67) := heap_alloc_new w _
  have hb2 := hbw
  have hgm : w.heap.size ≤ w.heap.size := Nat.le_refl _
  generalize (w.alloc (Obj.cells #[Value.int IntKind.i64 M, Value.int IntKind.i64 0] 67)) = W2 at *
  obtain ⟨gm, hgmw⟩ : ∃ gm, gm = w.heap.size := ⟨_, rfl⟩
  rw [← hgmw] at hmb ⊢
  replace hgm : w.heap.size ≤ gm := by omega
  clear hgmw
  have hgm2 : gm < W2.heap.size := (Array.getElem?_eq_some_iff.1 hmb).1
  have HMB : Hid _ := hmb
  have HL2 : Hid _ := own_below HL.out hb2
  have HVC2 : Hid _ := own_below HVC.out hb2
  have HW2 : Hid (W2.heap[g]? = some (.cells #[lv, xv, vr, vp, .slice ca ents.length ccap, vq] 39 (0, 0))) := (hb2.block g hgw).trans HW.out
  clear hbw hmb c2
  have HLB : Hid (∀ k, (Value.slice la out.length lcap).ownBlock = some k → B0 ≤ k ∧ k < w.heap.size) := World.ownsRow.lt HL.out
  go_loopw [5] (fun i wr => ∃ k : Nat, k ≤ out.length ∧ i = .int .i64 (k : Int) ∧ wr.ownsRow B0 67 2 (.slice la out.length lcap) out.length (mixp (.int .i64 M) out k) ∧ W2.grownBy wr (Value.slice la out.length lcap).ownBlock)
    (fun i _ => out.length - (intOf i).toNat)
  case atStart => exact ⟨0, by omega, rfl, by rw [mixp_zero]; exact HL2.out, World.grownBy.refl _ _⟩
  case round =>
    clear HL2
    obtain ⟨k, hk, rfl, hown, hgr⟩ := hrel
    by_cases hlt : k < out.length
    · obtain ⟨g1, hg1⟩ : ∃ g1, la = some ⟨g1, 0, none⟩ := by
        rcases hown.2 with ⟨_, h0⟩ | ⟨g1, cap, cur, hv, _⟩
        · omega
        · simp only [Value.slice.injEq] at hv
          exact ⟨g1, hv.1⟩
      subst hg1
      have hg1b := HLB.out g1 rfl
      have hmb : wr.heap[gm]? = some (Obj.cells #[Value.int IntKind.i64 M, Value.int IntKind.i64 0] 67) := (hgr.block gm hgm2 (by simp [Value.ownBlock]; omega)).trans HMB.out
      have m0 : wr.cell? ⟨gm, 0, none⟩ = some (.int .i64 M) := cell_of_row wr gm 0 _ _ _ hmb
      have m1 : wr.cell? ⟨gm, 1, none⟩ = some (.int .i64 0) := cell_of_row wr gm 1 _ _ _ hmb
      have hml := mixp_length (.int .i64 M) out k hk
      have p0 : wr.cell? ⟨g1, k * 2, none⟩ = some _ := (hown.cellAt (k * 2) (by omega)).trans (List.getElem?_eq_getElem (by omega))
      have p1 : wr.cell? ⟨g1, k * 2 + 1, none⟩ = some _ := (hown.cellAt (k * 2 + 1) (by omega)).trans (List.getElem?_eq_getElem (by omega))
      have f0 := hown.frozenAt (k * 2)
      have f1 := hown.frozenAt (k * 2 + 1)
      have hs1 := hown.stored (k * 2) (.int .i64 M)
      have hs2 := hs1.1.stored (k * 2 + 1) (.int .i64 0)
      rw [mixp_set (.int .i64 M) out k hlt] at hs2
      have HS : Hid _ := hs2.1
      have HG : Hid _ := grown_trans (grown_trans hgr hs1.2) hs2.2
      clear hs1 hs2 hown hgr hmb
      have hlt' : (k : Int) < (out.length : Int) := by omega
      go_wp2
      go_roundw
      case rel => exact ⟨k + 1, by omega, by go_num, HS.out, HG.out⟩
      case measure => simp [intOf]; omega
    · have hke : k = out.length := by omega
      have hownB : wr.ownsRow B0 67 2 (.slice la out.length lcap) out.length (reps (.int .i64 M) (.int .i64 0) out.length) := by
        have := hown
        rw [hke, mixp_whole _ _ _ (Nat.le_refl _)] at this
        exact this
      have hlt' : ¬ (k : Int) < (out.length : Int) := by omega
      have hgs := hgr.size
      have hlb : ∀ q, (Value.slice la out.length lcap).ownBlock = some q → B0 ≤ q := fun q hq => (HLB.out q hq).1
      have K0 : KPt w g B0 lv xv vr vp vq (.int .i64 M) wr (.slice ca ents.length ccap) ents.length ents [(.slice la out.length lcap, out.length)] := by
        refine ⟨?_, own_keep HVC2.out (own_below HL.out hb2) (by decide) hgr.block, ?_, (hb2.mono (by omega)).grown hgr (by omega) (fun q hq => by have := hlb q hq; omega), ?_⟩
        · rw [hgr.block g (by omega) (by intro hh; have := hlb g hh.symm; omega)]
          exact HW2.out
        · intro p hp
          obtain rfl := List.mem_singleton.1 hp
          exact own_base hownB hB0
        · intro e s v n' xs' he hkq hv
          refine (own_below hv hb2).kept hgr ?_
          cases hq : v.ownBlock with
          | none => exact .inl rfl
          | some q =>
            right
            intro hh
            have h1 := hlb q hh.symm
            have h2 := hkq q hq
            omega
      have hmb : wr.heap[gm]? = some (Obj.cells #[Value.int IntKind.i64 M, Value.int IntKind.i64 0] 67) := (hgr.block gm hgm2 (by intro h; have := HLB.out gm h.symm; omega)).trans HMB.out
      have m0 : wr.cell? ⟨gm, 0, none⟩ = some (.int .i64 M) := cell_of_row wr gm 0 _ _ _ hmb
      have m1 : wr.cell? ⟨gm, 1, none⟩ = some (.int .i64 0) := cell_of_row wr gm 1 _ _ _ hmb
      have HMB0 : Hid _ := hmb
      have hgwr : gm < wr.heap.size := by omega
      have hg1wr : g + 1 ≤ wr.heap.size := by omega
      clear hown hke hmb HVC2 HW2 HMB HW HVC hgr
      go_wp2_with (first
      | (at_builtin; refine app_reps rfl (.tmp 27) (.tmp 29) 65 rfl (g + 1) 67 Tryz.underlying65 Tryz.infoPlace (Value.slice la out.length lcap) out.length 1 (.int .i64 M) (.int .i64 0) rfl rfl _ rfl rfl rfl (by exact K0.mark _ (List.mem_cons_self ..)) (by omega) (by omega) (by decide) ?_; intro v1 w3 hv1 hst1 hgr1; obtain ⟨a1, cp1, hf1⟩ := own_form hv1; subst hf1; have hsz1 := hgr1.size; have K1 := K0.marked (own_raise (K0.mark _ (List.mem_cons_self ..)) hlb) hB0 hgr1 hst1 (by intro p hp; simp at hp; subst hp; simp) hv1; have hmb1 : w3.heap[gm]? = some (Obj.cells #[Value.int IntKind.i64 M, Value.int IntKind.i64 0] 67) := (hgr1.block gm (by omega) (by intro h; have := HLB.out gm h.symm; omega)).trans HMB0.out; have mm1 : w3.cell? ⟨gm, 0, none⟩ = some (.int .i64 M) := cell_of_row w3 gm 0 _ _ _ hmb1; have mn1 : w3.cell? ⟨gm, 1, none⟩ = some (.int .i64 0) := cell_of_row w3 gm 1 _ _ _ hmb1; have HMB1 : Hid _ := hmb1; clear hmb1 hst1 hgr1 hv1)
      | (at_builtin; refine app_reps rfl (.tmp 31) (.tmp 34) 65 rfl (g + 1) 67 Tryz.underlying65 Tryz.infoPlace (Value.slice la out.length lcap) out.length 2 (.int .i64 M) (.int .i64 0) rfl rfl _ rfl rfl rfl (by exact K1.mark _ (List.mem_cons_self ..)) (by omega) (by omega) (by decide) ?_; intro v2 w4 hv2 hst2 hgr2; obtain ⟨a2, cp2, hf2⟩ := own_form hv2; subst hf2; have hsz2 := hgr2.size; have K2 := K1.marked (own_raise (K1.mark _ (List.mem_cons_self ..)) hlb) hB0 hgr2 hst2 (by intro p hp; simp at hp; rcases hp with rfl | rfl <;> simp) hv2; have hmb2 : w4.heap[gm]? = some (Obj.cells #[Value.int IntKind.i64 M, Value.int IntKind.i64 0] 67) := (hgr2.block gm (by omega) (by intro h; have := HLB.out gm h.symm; omega)).trans HMB1.out; have mm2 : w4.cell? ⟨gm, 0, none⟩ = some (.int .i64 M) := cell_of_row w4 gm 0 _ _ _ hmb2; have mn2 : w4.cell? ⟨gm, 1, none⟩ = some (.int .i64 0) := cell_of_row w4 gm 1 _ _ _ hmb2; have HMB2 : Hid _ := hmb2; clear hmb2 hst2 hgr2 hv2)
      | (at_builtin; refine app_reps rfl (.tmp 36) (.tmp 40) 65 rfl (g + 1) 67 Tryz.underlying65 Tryz.infoPlace (Value.slice la out.length lcap) out.length 3 (.int .i64 M) (.int .i64 0) rfl rfl _ rfl rfl rfl (by exact K2.mark _ (List.mem_cons_self ..)) (by omega) (by omega) (by decide) ?_; intro v3 w5 hv3 hst3 hgr3; obtain ⟨a3, cp3, hf3⟩ := own_form hv3; subst hf3; have hsz3 := hgr3.size; have K3 := K2.marked (own_raise (K2.mark _ (List.mem_cons_self ..)) hlb) hB0 hgr3 hst3 (by intro p hp; simp at hp; rcases hp with rfl | rfl | rfl <;> simp) hv3; have hmb3 : w5.heap[gm]? = some (Obj.cells #[Value.int IntKind.i64 M, Value.int IntKind.i64 0] 67) := (hgr3.block gm (by omega) (by intro h; have := HLB.out gm h.symm; omega)).trans HMB2.out; have mm3 : w5.cell? ⟨gm, 0, none⟩ = some (.int .i64 M) := cell_of_row w5 gm 0 _ _ _ hmb3; have mn3 : w5.cell? ⟨gm, 1, none⟩ = some (.int .i64 0) := cell_of_row w5 gm 1 _ _ _ hmb3; have HMB3 : Hid _ := hmb3; clear hmb3 hst3 hgr3 hv3; have cc3 : w5.cell? ⟨g, 4, none⟩ = some (.slice ca ents.length ccap) := cell_of_row w5 g 4 _ _ _ K3.world)
      | (at_builtin; refine app_listP rfl (.tmp 46) (.tmp 48) rfl (g + 1) (.slice ca ents.length ccap) ents.length (ents) (Value.slice la out.length lcap) (by rfl) _ (by rfl) (by first | rfl | simp [World.setCell]) (by exact K3.list) (Array.getElem?_eq_some_iff.1 K3.world).1 rfl (by omega) ?_; intro u4 w6 hu4 hb4 hk4; obtain ⟨b4, bc4, hq4⟩ := own_form hu4; subst hq4; have K4 := K3.listed hu4 hb4 hk4; have hwb4 := (hb4.block g (by omega)).trans K3.world; have cw4 : w6.cell? ⟨g, 4, none⟩ = some (.slice ca ents.length ccap) := cell_of_row w6 g 4 _ _ _ hwb4; have fw4 : w6.frozen? ⟨g, 4, none⟩ = false := frozen_of_row w6 g 4 _ _ hwb4; have hsl4 := hb4.size; have HWB4 : Hid _ := hwb4; clear hwb4 hu4 hb4 hk4)
      | (at_builtin; refine app_listP rfl (.tmp 56) (.tmp 58) rfl (g + 1) (.slice b4 (ents.length + 1) bc4) (ents.length + 1) (ents ++ [(Value.slice la out.length lcap)]) (.slice a1 (out.length + 1) cp1) (by rfl) _ (by rfl) (by first | rfl | simp [World.setCell]) (by exact K4.list) (Array.getElem?_eq_some_iff.1 K4.world).1 rfl (by omega) ?_; intro u5 w7 hu5 hb5 hk5; obtain ⟨b5, bc5, hq5⟩ := own_form hu5; subst hq5; have K5 := K4.listed hu5 hb5 hk5; have hwb5 := (hb5.block g (by omega)).trans K4.world; have cw5 : w7.cell? ⟨g, 4, none⟩ = some (.slice b4 (ents.length + 1) bc4) := cell_of_row w7 g 4 _ _ _ hwb5; have fw5 : w7.frozen? ⟨g, 4, none⟩ = false := frozen_of_row w7 g 4 _ _ hwb5; have hsl5 := hb5.size; have HWB5 : Hid _ := hwb5; clear hwb5 hu5 hb5 hk5)
      | (at_builtin; refine app_listP rfl (.tmp 66) (.tmp 68) rfl (g + 1) (.slice b5 (ents.length + 1 + 1) bc5) (ents.length + 1 + 1) (ents ++ [(Value.slice la out.length lcap)] ++ [(.slice a1 (out.length + 1) cp1)]) (.slice a2 (out.length + 2) cp2) (by rfl) _ (by rfl) (by first | rfl | simp [World.setCell]) (by exact K5.list) (Array.getElem?_eq_some_iff.1 K5.world).1 rfl (by omega) ?_; intro u6 w8 hu6 hb6 hk6; obtain ⟨b6, bc6, hq6⟩ := own_form hu6; subst hq6; have K6 := K5.listed hu6 hb6 hk6; have hwb6 := (hb6.block g (by omega)).trans K5.world; have cw6 : w8.cell? ⟨g, 4, none⟩ = some (.slice b5 (ents.length + 1 + 1) bc5) := cell_of_row w8 g 4 _ _ _ hwb6; have fw6 : w8.frozen? ⟨g, 4, none⟩ = false := frozen_of_row w8 g 4 _ _ hwb6; have hsl6 := hb6.size; have HWB6 : Hid _ := hwb6; clear hwb6 hu6 hb6 hk6)
      | (at_builtin; refine app_listP rfl (.tmp 76) (.tmp 78) rfl (g + 1) (.slice b6 (ents.length + 1 + 1 + 1) bc6) (ents.length + 1 + 1 + 1) (ents ++ [(Value.slice la out.length lcap)] ++ [(.slice a1 (out.length + 1) cp1)] ++ [(.slice a2 (out.length + 2) cp2)]) (.slice a3 (out.length + 3) cp3) (by rfl) _ (by rfl) (by first | rfl | simp [World.setCell]) (by exact K6.list) (Array.getElem?_eq_some_iff.1 K6.world).1 rfl (by omega) ?_; intro u7 w9 hu7 hb7 hk7; obtain ⟨b7, bc7, hq7⟩ := own_form hu7; subst hq7; have K7 := K6.listed hu7 hb7 hk7; have hwb7 := (hb7.block g (by omega)).trans K6.world; have cw7 : w9.cell? ⟨g, 4, none⟩ = some (.slice b6 (ents.length + 1 + 1 + 1) bc6) := cell_of_row w9 g 4 _ _ _ hwb7; have fw7 : w9.frozen? ⟨g, 4, none⟩ = false := frozen_of_row w9 g 4 _ _ hwb7; have hsl7 := hb7.size; have HWB7 : Hid _ := hwb7; clear hwb7 hu7 hb7 hk7))
      go_end0
      refine ⟨rfl, _, K7.world, .slice a1 (out.length + 1) cp1, .slice a2 (out.length + 2) cp2, .slice a3 (out.length + 3) cp3, ?_, K7.mark (_, _) (by simp), K7.mark (_, _) (by simp), K7.mark (_, _) (by simp), K7.mark (_, _) (by simp), K7.below, K7.pres⟩
      have := K7.list
      simp only [List.append_assoc, List.cons_append, List.nil_append] at this
      exact this

end Go.Proofs.YtfcbgfomhmcikaaGreatDoor

namespace Go.Proofs.YtfcbgfomhmcikaaGreatDoor
open Go.RowKit

/-- lists of places that came out, each as its owner has marked it -/
structure ShelfP (X : World) (g : Nat) (v : Value) (es : List Value) : Prop where
  list : X.ownsRow (g + 1) 65 1 v es.length es
  ent : ∀ i (h : i < es.length), ∃ n, n ≤ 100000 ∧ X.ownsRow (g + 1) 67 2 es[i] n (reps (mp i) (.int .i64 0) n)
  len : es.length ≤ 7000000000000

theorem shelfP_below {X Y : World} {g : Nat} {v : Value} {es : List Value} (h : ShelfP X g v es) (hb : Below X.heap.size X Y) : ShelfP Y g v es :=
  ⟨own_below h.list hb, fun i hi => let ⟨n, hn, ho⟩ := h.ent i hi; ⟨n, hn, own_below ho hb⟩, h.len⟩

theorem reps_at (A B : Value) (n q : Nat) (h : q < n) : (reps A B n)[q * 2]? = some A := by
  obtain ⟨m, rfl⟩ : ∃ m, n = q + (1 + m) := ⟨n - q - 1, by omega⟩
  rw [reps_add, reps_add, List.getElem?_append_right (by rw [reps_length]; exact Nat.le_refl _), reps_length, Nat.sub_self]
  rfl

theorem shelfP_at {X : World} {g : Nat} {a : Option Addr} {cap : Nat} {es : List Value} (h : ShelfP X g (.slice a es.length cap) es) (k : Nat) (hk : k < es.length) :
    ∃ (g1 : Nat) (la : Option Addr) (n lcap : Nat), a = some ⟨g1, 0, none⟩ ∧ X.cell? ⟨g1, k, none⟩ = some (.slice la n lcap) ∧ n ≤ 100000 ∧
      (0 < n → ∃ g2, la = some ⟨g2, 0, none⟩ ∧ ∀ q, q < n → X.cell? ⟨g2, q * 2, none⟩ = some (mp k)) := by
  obtain ⟨g1, cap1, hv, _, hg1⟩ := own_pos h.list (by omega)
  simp only [Value.slice.injEq, true_and] at hv
  obtain ⟨rfl, rfl⟩ := hv
  obtain ⟨n, hn, ho⟩ := h.ent k hk
  obtain ⟨la, lcap, hf⟩ := own_form ho
  refine ⟨g1, la, n, lcap, rfl, ?_, hn, ?_⟩
  · rw [h.list.cellAt k (by omega), List.getElem?_eq_getElem hk, hf]
  · intro hpos
    rw [hf] at ho
    obtain ⟨g2, cap2, hv2, _, hg2⟩ := own_pos ho hpos
    simp only [Value.slice.injEq, true_and] at hv2
    obtain ⟨rfl, rfl⟩ := hv2
    exact ⟨g2, rfl, fun q hq => (ho.cellAt (q * 2) (by omega)).trans (reps_at _ _ _ _ hq)⟩

set_option maxRecDepth 100000 in
set_option maxHeartbeats 4000000 in
theorem looks_places (w : World) (g : Nat) (lv xv vc : Value) (cs : List Value)
    (hW : w.heap[g]? = some (.cells #[lv, xv, .slice none 0 0, .slice none 0 0, vc, .slice none 0 0] 39 (0, 0))) (hc : ShelfP w g vc cs) :
    Calls Tryz.prog 12 #[.pointer (some ⟨g, 2, none⟩)] w fun e w' => e = .returned (.bool true) ∧ w' = w := by
  obtain ⟨ca, ccap, hcf⟩ := own_form hc.list
  subst hcf
  have c2 : w.cell? ⟨g, 2, none⟩ = some (.slice none 0 0) := cell_of_row w g 2 _ _ _ hW
  have c3 : w.cell? ⟨g, 3, none⟩ = some (.slice none 0 0) := cell_of_row w g 3 _ _ _ hW
  have c4 : w.cell? ⟨g, 4, none⟩ = some (.slice ca cs.length ccap) := cell_of_row w g 4 _ _ _ hW
  have c5 : w.cell? ⟨g, 5, none⟩ = some (.slice none 0 0) := cell_of_row w g 5 _ _ _ hW
  have HS : Hid _ := hc
  have hcl := hc.len
  clear hW hc
  go_enter Tryz.func12, Tryz.ntmps12
  go_wp2
  refine wp_loop_rounds 1 ?_
  rw [rounds_succ]
  go_wp2
  refine wp_loop_rounds 1 ?_
  rw [rounds_succ]
  go_wp2
  go_loop [9] (fun i => ∃ k : Nat, k ≤ cs.length ∧ i = .int .i64 (k : Int)) (fun i => cs.length - (intOf i).toNat)
  case atStart => exact ⟨0, Nat.zero_le _, rfl⟩
  case round =>
    obtain ⟨k, hk, rfl⟩ := hrel
    by_cases hlt : k < cs.length
    · have hlt' : (k : Int) < (cs.length : Int) := by omega
      obtain ⟨g1, la, n, lcap, hca, ck, hn, hnext⟩ := shelfP_at HS.out k hlt
      rw [hca] at c4
      clear HS
      have HNX : Hid _ := hnext
      clear hnext
      go_wp2
      go_loop [10] (fun j => ∃ q : Nat, q ≤ 100000 ∧ j = .int .i64 (q : Int)) (fun j => 100000 - (intOf j).toNat)
      case atStart => exact ⟨0, by omega, rfl⟩
      case round =>
        obtain ⟨q, hq, rfl⟩ := hrel
        by_cases hqn : q < n
        · obtain ⟨g2, hla, hce⟩ := HNX.out (by omega)
          have p0 := hce q hqn
          unfold mp at p0
          clear hce HNX
          subst hla
          have hqn' : (q : Int) < (n : Int) := by omega
          have hmk : (-1 - ((k / 4 : Nat) : Int) != -1 - (k : Int) / 4) = false := by rw [bne_eq_false_iff_eq]; omega
          go_wp2
          go_round
          case rel => exact ⟨q + 1, by omega, by go_num⟩
          case measure => simp [intOf]; omega
        · have hqn' : ¬ (q : Int) < (n : Int) := by omega
          go_wp2
          go_round
          case rel => exact ⟨k + 1, by omega, by go_num⟩
          case measure => simp [intOf]; omega
    · have hlt' : ¬ (k : Int) < (cs.length : Int) := by omega
      go_wp2
      refine wp_loop_rounds 1 ?_
      rw [rounds_succ]
      go_wp2
      go_ret
      exact ⟨rfl, rfl⟩

end Go.Proofs.YtfcbgfomhmcikaaGreatDoor

namespace Go.Proofs.YtfcbgfomhmcikaaGreatDoor
open Go.RowKit

/-- the positions at which letters differ, or the first is N -/
def Ix.miss : List UInt8 → List UInt8 → Nat
  | a :: s, b :: t => (if a == b && a != 78 then 0 else 1) + Ix.miss s t
  | _, _ => 0

theorem Ix.miss_take : ∀ (s t : List UInt8) (k : Nat) (h1 : k < s.length) (h2 : k < t.length), Ix.miss (s.take (k + 1)) (t.take (k + 1)) = Ix.miss (s.take k) (t.take k) + (if s[k] == t[k] && s[k] != 78 then 0 else 1) := by
  intro s
  induction s with
  | nil => intro t k h1; simp at h1
  | cons a s ih =>
    intro t k h1 h2
    cases t with
    | nil => simp at h2
    | cons b t =>
      cases k with
      | zero => simp [Ix.miss]
      | succ k =>
        have := ih t k (by simpa using h1) (by simpa using h2)
        simp only [List.take_succ_cons, Ix.miss, List.getElem_cons_succ] at this ⊢
        omega

theorem Ix.miss_whole : ∀ (s t : List UInt8) (k : Nat), s.length ≤ k → Ix.miss (s.take k) (t.take k) = Ix.miss s t := by
  intro s
  induction s with
  | nil => intro t k _; simp [Ix.miss]
  | cons a s ih =>
    intro t k h
    obtain ⟨k, rfl⟩ : ∃ j, k = j + 1 := ⟨k - 1, by simp at h; omega⟩
    cases t with
    | nil => simp [Ix.miss]
    | cons b t => simp only [List.take_succ_cons, Ix.miss]; rw [ih t k (by simpa using h)]

theorem Ix.miss_part : ∀ (s t : List UInt8) (k : Nat), Ix.miss (s.take k) (t.take k) ≤ Ix.miss s t := by
  intro s
  induction s with
  | nil => intro t k; simp [Ix.miss]
  | cons a s ih =>
    intro t k
    cases k with
    | zero => simp [Ix.miss]
    | succ k =>
      cases t with
      | nil => simp [Ix.miss]
      | cons b t => have := ih t k; simp only [List.take_succ_cons, Ix.miss]; omega

theorem Ix.trn_sub {n : Int} (hn : Lt.strandB n = true) (c : UInt8) : Lt.trn c n = Lt.sub (Lt.frm n) (Lt.tow n) c := by
  have h4 : n = 1 ∨ n = 2 ∨ n = 3 ∨ n = 4 := by
    simp only [Lt.strandB, Bool.and_eq_true, decide_eq_true_eq] at hn
    omega
  rcases h4 with rfl | rfl | rfl | rfl <;> simp [Lt.trn, Lt.sub, Lt.frm, Lt.tow, Lt.topB]

theorem Ix.sub_78 {n : Int} (hn : Lt.strandB n = true) (c : UInt8) : (Lt.sub (Lt.frm n) (Lt.tow n) c = 78) ↔ c = 78 := by
  have h4 : n = 1 ∨ n = 2 ∨ n = 3 ∨ n = 4 := by
    simp only [Lt.strandB, Bool.and_eq_true, decide_eq_true_eq] at hn
    omega
  rcases h4 with rfl | rfl | rfl | rfl
  · exact Lt.every (p := fun c => (Lt.sub (Lt.frm 1) (Lt.tow 1) c = 78) ↔ c = 78) (by decide +kernel) c
  · exact Lt.every (p := fun c => (Lt.sub (Lt.frm 2) (Lt.tow 2) c = 78) ↔ c = 78) (by decide +kernel) c
  · exact Lt.every (p := fun c => (Lt.sub (Lt.frm 3) (Lt.tow 3) c = 78) ↔ c = 78) (by decide +kernel) c
  · exact Lt.every (p := fun c => (Lt.sub (Lt.frm 4) (Lt.tow 4) c = 78) ↔ c = 78) (by decide +kernel) c

theorem Ix.off_sub {n : Int} (hn : Lt.strandB n = true) (a b : UInt8) :
    (Lt.sub (Lt.frm n) (Lt.tow n) a == Lt.sub (Lt.frm n) (Lt.tow n) b && Lt.sub (Lt.frm n) (Lt.tow n) a != 78) = !Se.off n a b := by
  have ha := Ix.sub_78 hn a
  have hb := Ix.sub_78 hn b
  unfold Se.off
  rw [Ix.trn_sub hn, Ix.trn_sub hn]
  generalize Lt.sub (Lt.frm n) (Lt.tow n) a = A at *
  generalize Lt.sub (Lt.frm n) (Lt.tow n) b = B at *
  rw [Bool.eq_iff_iff]
  simp only [Bool.and_eq_true, beq_iff_eq, bne_iff_ne, Bool.not_eq_true', Bool.or_eq_false_iff, beq_eq_false_iff_ne, ne_eq, bne_eq_false_iff_eq]
  constructor
  · rintro ⟨h1, h2⟩
    exact ⟨⟨fun h => h2 (ha.2 h), fun h => h2 (h1.trans (hb.2 h))⟩, h1⟩
  · rintro ⟨⟨h1, _⟩, h2⟩
    exact ⟨h2, fun h => h1 (ha.1 h)⟩

theorem Ix.miss_conv {n : Int} (hn : Lt.strandB n = true) : ∀ (s t : List UInt8), Ix.miss (Lt.conv (Lt.frm n) (Lt.tow n) s) (Lt.conv (Lt.frm n) (Lt.tow n) t) = Se.three n s t := by
  intro s
  induction s with
  | nil => intro t; simp [Ix.miss, Se.three, Lt.conv]
  | cons a s ih =>
    intro t
    cases t with
    | nil => simp [Ix.miss, Se.three, Lt.conv]
    | cons b t =>
      have := ih t
      simp only [Lt.conv, List.map_cons, Ix.miss, Se.three] at this ⊢
      rw [this, Ix.off_sub hn]
      cases Se.off n a b <;> simp

theorem Ix.conv_drop (f t : UInt8) (l : List UInt8) (k : Nat) : Lt.conv f t (l.drop k) = (Lt.conv f t l).drop k := by simp [Lt.conv]

theorem Ix.conv_drop_miss {n : Int} (hn : Lt.strandB n = true) (s t : List UInt8) (p : Nat) (b : Int) :
    decide ((Ix.miss (Lt.conv (Lt.frm n) (Lt.tow n) s) ((Lt.conv (Lt.frm n) (Lt.tow n) t).drop p) : Int) ≤ b) = Se.stands n b s t p := by
  rw [← Ix.conv_drop, Ix.miss_conv hn, Se.stands]

end Go.Proofs.YtfcbgfomhmcikaaGreatDoor
