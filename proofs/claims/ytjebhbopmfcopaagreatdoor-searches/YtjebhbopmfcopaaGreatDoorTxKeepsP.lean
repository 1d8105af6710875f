/-
  THE WALK of 'keepsPlaces': a list that came out is marked, appended to thrice, and written into the book. Own text of the verifier.
-/
import Derived.Test.YtjebhbopmfcopaaGreatDoorTxKeeps
import Derived.Test.YtjebhbopmfcopaaGreatDoorTxReps
import Derived.Test.YtjebhbopmfcopaaGreatDoorSeFind
namespace Go.Proofs.YtjebhbopmfcopaaGreatDoor
open Go.RowKit

theorem Tryz.infoPls : (Tryz.prog.info? 119).map (fun i => (i.zero, i.size, i.bytes)) = some (some (.slice none 0 0), 1, 24) := by kernel_rfl

/-- the mark of the n-th list of places -/
def mp (n : Nat) : Value := .int .i64 (-1 - ((n / 4 : Nat) : Int))
theorem mp_one (n : Nat) : (mp n).oneCell' = true := rfl
theorem mp_same (n i : Nat) (h : n % 4 = 0) (hi : i < 4) : mp (n + i) = mp n := by
  unfold mp
  rw [show (n + i) / 4 = n / 4 by omega]

/-- the first k of a list's elements marked -/
def mixp (M : Value) (out : List (Nat × Nat)) (k : Nat) : List Value := reps M (.int .i64 0) k ++ (Se.pls out).drop (k * 2)
theorem mixp_zero (M : Value) (out : List (Nat × Nat)) : mixp M out 0 = Se.pls out := by simp [mixp, reps]
theorem mixp_whole (M : Value) (out : List (Nat × Nat)) (k : Nat) (h : out.length ≤ k) : mixp M out k = reps M (.int .i64 0) k := by
  rw [mixp, List.drop_of_length_le (by rw [Se.pls_length]; omega), List.append_nil]
theorem mixp_length (M : Value) (out : List (Nat × Nat)) (k : Nat) (h : k ≤ out.length) : (mixp M out k).length = out.length * 2 := by
  rw [mixp, List.length_append, reps_length, List.length_drop, Se.pls_length]; omega
theorem mixp_set (M : Value) (out : List (Nat × Nat)) (k : Nat) (h : k < out.length) : ((mixp M out k).set (k * 2) M).set (k * 2 + 1) (.int .i64 0) = mixp M out (k + 1) := by
  have hl := reps_length M (.int .i64 0) k
  have hp := Se.pls_length out
  rw [mixp, mixp, reps_succ, List.set_append, if_neg (by omega), hl, Nat.sub_self, List.set_append, if_neg (by omega), hl, show k * 2 + 1 - k * 2 = 1 by omega, List.append_assoc]
  congr 1
  rw [List.drop_eq_getElem_cons (i := k * 2) (by omega), List.drop_eq_getElem_cons (i := k * 2 + 1) (by omega), show k * 2 + 1 + 1 = (k + 1) * 2 by omega]
  simp only [List.set_cons_zero, List.set_cons_succ, List.cons_append, List.nil_append]

/-- how it stands while a list is written into the book: the World's block, the book's list of lists, the lists that are marked, and what else is as it was -/
structure KPt (w : World) (g B0 : Nat) (lv xv vr vp vq : Value) (M : Value) (X : World) (vc : Value) (N : Nat) (es : List Value) (ms : List (Value × Nat)) : Prop where
  world : X.heap[g]? = some (.cells #[lv, xv, vr, vp, vc, vq] 68 (0, 0))
  list : X.ownsRow (g + 1) 119 1 vc N es
  mark : ∀ p ∈ ms, X.ownsRow (g + 1) 78 2 p.1 p.2 (reps M (.int .i64 0) p.2)
  below : Below g w X
  pres : ∀ e s v n xs, e ≠ 119 → (∀ k, v.ownBlock = some k → k < B0) → w.ownsRow (g + 1) e s v n xs → X.ownsRow (g + 1) e s v n xs

theorem KPt.marked {w wr w3 : World} {g B0 N L : Nat} {lv xv vr vp vq vc l v1 : Value} {M : Value} {es : List Value} {ms : List (Value × Nat)} (h : KPt w g B0 lv xv vr vp vq M wr vc L es ms) {n : Nat} {xs : List Value}
    (hl : wr.ownsRow B0 78 2 l n xs) (hB : g + 1 ≤ B0) (hgr : wr.grownBy w3 l.ownBlock) (hst : ∀ v0 n0, n0 ≤ N → wr.ownsRow (g + 1) 78 2 v0 n0 (reps M (.int .i64 0) n0) → w3.ownsRow (g + 1) 78 2 v0 n0 (reps M (.int .i64 0) n0))
    (hms : ∀ p ∈ ms, p.2 ≤ N) (hv1 : w3.ownsRow (g + 1) 78 2 v1 N (reps M (.int .i64 0) N)) : KPt w g B0 lv xv vr vp vq M w3 vc L es (ms ++ [(v1, N)]) := by
  have hgl : g < wr.heap.size := (Array.getElem?_eq_some_iff.1 h.world).1
  have hlb : ∀ k, l.ownBlock = some k → B0 ≤ k := fun k hk => (hl.lt k hk).1
  refine ⟨?_, own_keep h.list hl (by decide) hgr.block, ?_, h.below.grown hgr (by omega) (fun k hk => by have := hlb k hk; omega), fun e s v n' xs' he hk hv => ?_⟩
  · rw [hgr.block g hgl (by intro hh; have := hlb g hh.symm; omega)]
    exact h.world
  · intro p hp
    rcases List.mem_append.1 hp with hp | hp
    · exact hst p.1 p.2 (hms p hp) (h.mark p hp)
    · obtain rfl := List.mem_singleton.1 hp
      exact hv1
  · refine (h.pres e s v n' xs' he hk hv).kept hgr ?_
    cases hq : v.ownBlock with
    | none => exact .inl rfl
    | some q =>
      right
      intro hh
      have h1 := hlb q hh.symm
      have h2 := hk q hq
      omega

theorem KPt.listed {w X X2 : World} {g B0 L : Nat} {lv xv vr vp vq vc v2 x : Value} {M : Value} {es : List Value} {ms : List (Value × Nat)} (h : KPt w g B0 lv xv vr vp vq M X vc L es ms)
    (hv : X2.ownsRow (g + 1) 119 1 v2 (L + 1) (es ++ [x])) (hbel : Below (g + 1) X X2) (hkeep : ∀ k, k < X.heap.size → some k ≠ vc.ownBlock → X2.heap[k]? = X.heap[k]?) :
    KPt w g B0 lv xv vr vp vq M (X2.setCell ⟨g, 4, none⟩ v2) v2 (L + 1) (es ++ [x]) ms := by
  have hgl : g < X.heap.size := (Array.getElem?_eq_some_iff.1 h.world).1
  have hgX2 : X2.heap[g]? = some (.cells #[lv, xv, vr, vp, vc, vq] 68 (0, 0)) := (hbel.block g (by omega)).trans h.world
  refine ⟨heap_setCell_same X2 g 4 _ _ v2 hgX2, ?_, ?_, (h.below.trans (hbel.mono (by omega))).setCell (p := ⟨g, 4, none⟩) (Nat.le_refl _) v2, ?_⟩
  · exact ownsRow_setCell_below hv (a := ⟨g, 4, none⟩) (by simp) v2
  · intro p hp
    exact ownsRow_setCell_below (own_keep (h.mark p hp) h.list (by decide) hkeep) (a := ⟨g, 4, none⟩) (by simp) v2
  · intro e s v n' xs' he hk hv'
    exact ownsRow_setCell_below (own_keep (h.pres e s v n' xs' he hk hv') h.list he hkeep) (a := ⟨g, 4, none⟩) (by simp) v2

/-- 'k.places = append(k.places, x)': the append -/
theorem app_listP {w : World} {ops : Array Oper} {rest : List Oper} {o : Oper} {a : Act} {Q : Exit → Act → World → Prop} (hgd : o.guard = none) (s x : Operand)
    (ho : o.op = .call { callee := .builtin .append, args := #[s, x], argTypes := #[63, 63] })
    (base : Nat) (vc : Value) (L : Nat) (es : List Value) (y : Value) (hs : a.eval s = vc) (z : Nat) (hx : a.eval x = .slice (some ⟨z, 0, none⟩) 1 1) (hz : w.heap.size = z) (hown : w.ownsRow base 119 1 vc L es) (hbase : base ≤ w.heap.size) (hone : y.oneCell' = true) (hlen : L ≤ 7000000000000)
    (h : ∀ v' w', w'.ownsRow base 119 1 v' (L + 1) (es ++ [y]) → Below base w w' → (∀ k, k < w.heap.size → some k ≠ vc.ownBlock → w'.heap[k]? = w.heap[k]?) → wpList Tryz.prog ops Q rest (a.put o.dst v') w') :
    wpList Tryz.prog ops Q (o :: rest) a (w.alloc (.cells #[y] 119)) := by
  subst hz
  refine app_own_one hgd s x 63 ho base 119 (.slice none 0 0) Tryz.underlying63 Tryz.infoPls rfl vc L es hs (hown.alloc _) ⟨w.heap.size, 0, none⟩ 1 y hx (by simp) hone (by simp; omega) (by omega) ?_
  intro v' w' h1 h2
  refine h v' w' h1 (((Below.refl _ _).alloc hbase _).grown h2 (by simp; omega) (fun k hk => (hown.lt k hk).1)) (fun k hk hn => ?_)
  rw [h2.block k (by simp; omega) hn, Below.heap_alloc _ _ _ hk]

set_option maxRecDepth 100000 in
set_option maxHeartbeats 8000000 in
theorem keepsPlaces_any (w : World) (g : Nat) (lv xv vc vr vp vq : Value) (ents : List Value) (l : Value) (out : List (Nat × Nat)) (B0 : Nat)
    (hW : w.heap[g]? = some (.cells #[lv, xv, vr, vp, vc, vq] 68 (0, 0))) (hvc : w.ownsRow (g + 1) 119 1 vc ents.length ents) (hel : ents.length + 4 ≤ 7000000000000)
    (hl : w.ownsRow B0 78 2 l out.length (Se.pls out)) (hB0 : g + 1 ≤ B0) (ho : out.length ≤ 90000) :
    Calls Tryz.prog 115 #[.pointer (some ⟨g, 2, none⟩), l] w fun e w' => e = .returned (.tuple #[]) ∧
      ∃ vc' v1 v2 v3, w'.heap[g]? = some (.cells #[lv, xv, vr, vp, vc', vq] 68 (0, 0)) ∧ w'.ownsRow (g + 1) 119 1 vc' (ents.length + 4) (ents ++ [l, v1, v2, v3]) ∧
        w'.ownsRow (g + 1) 78 2 l out.length (reps (mp ents.length) (.int .i64 0) out.length) ∧ w'.ownsRow (g + 1) 78 2 v1 (out.length + 1) (reps (mp ents.length) (.int .i64 0) (out.length + 1)) ∧
        w'.ownsRow (g + 1) 78 2 v2 (out.length + 2) (reps (mp ents.length) (.int .i64 0) (out.length + 2)) ∧ w'.ownsRow (g + 1) 78 2 v3 (out.length + 3) (reps (mp ents.length) (.int .i64 0) (out.length + 3)) ∧
        Below g w w' ∧ ∀ e s v n xs, e ≠ 119 → (∀ k, v.ownBlock = some k → k < B0) → w.ownsRow (g + 1) e s v n xs → w'.ownsRow (g + 1) e s v n xs := by
  have hgw : g < w.heap.size := (Array.getElem?_eq_some_iff.1 hW).1
  obtain ⟨M, hM⟩ : ∃ M : Int, M = -1 - ((ents.length / 4 : Nat) : Int) := ⟨_, rfl⟩
  rw [show mp ents.length = .int .i64 M from by rw [hM]; rfl]
  have HM : Hid (-1 - (ents.length : Int) / 4 = M) := by show _ = _; rw [hM]; omega
  clear hM
  obtain ⟨ca, ccap, hvcf⟩ := own_form hvc
  obtain ⟨la, lcap, hlf⟩ := own_form hl
  subst hvcf hlf
  have c2 : w.cell? ⟨g, 4, none⟩ = some (.slice ca ents.length ccap) := cell_of_row w g 4 _ _ _ hW
  have HW : Hid _ := hW
  have HVC : Hid _ := hvc
  have HL : Hid _ := hl
  clear hW hvc hl
  go_enter Tryz.func115, Tryz.ntmps115
  go_wp2
  rw [HM.out]
  have hbw : Below w.heap.size w (w.alloc (Obj.cells #[Value.int IntKind.i64 M, Value.int IntKind.i64 0] 78)) := (Below.refl _ _).alloc (Nat.le_refl _) _
  have hmb : (w.alloc (Obj.cells #[Value.int IntKind.i64 M, Value.int IntKind.i64 0] 78)).heap[w.heap.size]? = some (Obj.cells #[Value.int IntKind.i64 M, Value.int IntKind.i64 0] 78) := heap_alloc_new w _
  have hb2 := hbw
  have hgm : w.heap.size ≤ w.heap.size := Nat.le_refl _
  generalize (w.alloc (Obj.cells #[Value.int IntKind.i64 M, Value.int IntKind.i64 0] 78)) = W2 at *
  obtain ⟨gm, hgmw⟩ : ∃ gm, gm = w.heap.size := ⟨_, rfl⟩
  rw [← hgmw] at hmb ⊢
  replace hgm : w.heap.size ≤ gm := by omega
  clear hgmw
  have hgm2 : gm < W2.heap.size := (Array.getElem?_eq_some_iff.1 hmb).1
  have HMB : Hid _ := hmb
  have HL2 : Hid _ := own_below HL.out hb2
  have HVC2 : Hid _ := own_below HVC.out hb2
  have HW2 : Hid (W2.heap[g]? = some (.cells #[lv, xv, vr, vp, .slice ca ents.length ccap, vq] 68 (0, 0))) := (hb2.block g hgw).trans HW.out
  clear hbw hmb c2
  have HLB : Hid (∀ k, (Value.slice la out.length lcap).ownBlock = some k → B0 ≤ k ∧ k < w.heap.size) := World.ownsRow.lt HL.out
  go_loopw [5] (fun i wr => ∃ k : Nat, k ≤ out.length ∧ i = .int .i64 (k : Int) ∧ wr.ownsRow B0 78 2 (.slice la out.length lcap) out.length (mixp (.int .i64 M) out k) ∧ W2.grownBy wr (Value.slice la out.length lcap).ownBlock)
    (fun i _ => out.length - (intOf i).toNat)
  case atStart => exact ⟨0, by omega, rfl, by rw [mixp_zero]; exact HL2.out, World.grownBy.refl _ _⟩
  case round =>
    clear HL2
    obtain ⟨k, hk, rfl, hown, hgr⟩ := hrel
    by_cases hlt : k < out.length
    · obtain ⟨g1, hg1⟩ : ∃ g1, la = some ⟨g1, 0, none⟩ := by
        rcases hown.2 with ⟨_, h0⟩ | ⟨g1, cap, cur, hv, _⟩
        · omega
        · simp only [Value.slice.injEq] at hv
          exact ⟨g1, hv.1⟩
      subst hg1
      have hg1b := HLB.out g1 rfl
      have hmb : wr.heap[gm]? = some (Obj.cells #[Value.int IntKind.i64 M, Value.int IntKind.i64 0] 78) := (hgr.block gm hgm2 (by simp [Value.ownBlock]; omega)).trans HMB.out
      have m0 : wr.cell? ⟨gm, 0, none⟩ = some (.int .i64 M) := cell_of_row wr gm 0 _ _ _ hmb
      have m1 : wr.cell? ⟨gm, 1, none⟩ = some (.int .i64 0) := cell_of_row wr gm 1 _ _ _ hmb
      have hml := mixp_length (.int .i64 M) out k hk
      have p0 : wr.cell? ⟨g1, k * 2, none⟩ = some _ := (hown.cellAt (k * 2) (by omega)).trans (List.getElem?_eq_getElem (by omega))
      have p1 : wr.cell? ⟨g1, k * 2 + 1, none⟩ = some _ := (hown.cellAt (k * 2 + 1) (by omega)).trans (List.getElem?_eq_getElem (by omega))
      have f0 := hown.frozenAt (k * 2)
      have f1 := hown.frozenAt (k * 2 + 1)
      have hs1 := hown.stored (k * 2) (.int .i64 M)
      have hs2 := hs1.1.stored (k * 2 + 1) (.int .i64 0)
      rw [mixp_set (.int .i64 M) out k hlt] at hs2
      have HS : Hid _ := hs2.1
      have HG : Hid _ := grown_trans (grown_trans hgr hs1.2) hs2.2
      clear hs1 hs2 hown hgr hmb
      have hlt' : (k : Int) < (out.length : Int) := by omega
      go_wp2
      go_roundw
      case rel => exact ⟨k + 1, by omega, by go_num, HS.out, HG.out⟩
      case measure => simp [intOf]; omega
    · have hke : k = out.length := by omega
      have hownB : wr.ownsRow B0 78 2 (.slice la out.length lcap) out.length (reps (.int .i64 M) (.int .i64 0) out.length) := by
        have := hown
        rw [hke, mixp_whole _ _ _ (Nat.le_refl _)] at this
        exact this
      have hlt' : ¬ (k : Int) < (out.length : Int) := by omega
      have hgs := hgr.size
      have hlb : ∀ q, (Value.slice la out.length lcap).ownBlock = some q → B0 ≤ q := fun q hq => (HLB.out q hq).1
      have K0 : KPt w g B0 lv xv vr vp vq (.int .i64 M) wr (.slice ca ents.length ccap) ents.length ents [(.slice la out.length lcap, out.length)] := by
        refine ⟨?_, own_keep HVC2.out (own_below HL.out hb2) (by decide) hgr.block, ?_, (hb2.mono (by omega)).grown hgr (by omega) (fun q hq => by have := hlb q hq; omega), ?_⟩
        · rw [hgr.block g (by omega) (by intro hh; have := hlb g hh.symm; omega)]
          exact HW2.out
        · intro p hp
          obtain rfl := List.mem_singleton.1 hp
          exact own_base hownB hB0
        · intro e s v n' xs' he hkq hv
          refine (own_below hv hb2).kept hgr ?_
          cases hq : v.ownBlock with
          | none => exact .inl rfl
          | some q =>
            right
            intro hh
            have h1 := hlb q hh.symm
            have h2 := hkq q hq
            omega
      have hmb : wr.heap[gm]? = some (Obj.cells #[Value.int IntKind.i64 M, Value.int IntKind.i64 0] 78) := (hgr.block gm hgm2 (by intro h; have := HLB.out gm h.symm; omega)).trans HMB.out
      have m0 : wr.cell? ⟨gm, 0, none⟩ = some (.int .i64 M) := cell_of_row wr gm 0 _ _ _ hmb
      have m1 : wr.cell? ⟨gm, 1, none⟩ = some (.int .i64 0) := cell_of_row wr gm 1 _ _ _ hmb
      have HMB0 : Hid _ := hmb
      have hgwr : gm < wr.heap.size := by omega
      have hg1wr : g + 1 ≤ wr.heap.size := by omega
      clear hown hke hmb HVC2 HW2 HMB HW HVC hgr
      go_wp2_with (first
      | (at_builtin; refine app_reps rfl (.tmp 27) (.tmp 29) 119 rfl (g + 1) 78 Tryz.underlying119 Tryz.infoPlace (Value.slice la out.length lcap) out.length 1 (.int .i64 M) (.int .i64 0) rfl rfl _ rfl rfl rfl (by exact K0.mark _ (List.mem_cons_self ..)) (by omega) (by omega) (by decide) ?_; intro v1 w3 hv1 hst1 hgr1; obtain ⟨a1, cp1, hf1⟩ := own_form hv1; subst hf1; have hsz1 := hgr1.size; have K1 := K0.marked (own_raise (K0.mark _ (List.mem_cons_self ..)) hlb) hB0 hgr1 hst1 (by intro p hp; simp at hp; subst hp; simp) hv1; have hmb1 : w3.heap[gm]? = some (Obj.cells #[Value.int IntKind.i64 M, Value.int IntKind.i64 0] 78) := (hgr1.block gm (by omega) (by intro h; have := HLB.out gm h.symm; omega)).trans HMB0.out; have mm1 : w3.cell? ⟨gm, 0, none⟩ = some (.int .i64 M) := cell_of_row w3 gm 0 _ _ _ hmb1; have mn1 : w3.cell? ⟨gm, 1, none⟩ = some (.int .i64 0) := cell_of_row w3 gm 1 _ _ _ hmb1; have HMB1 : Hid _ := hmb1; clear hmb1 hst1 hgr1 hv1)
      | (at_builtin; refine app_reps rfl (.tmp 31) (.tmp 34) 119 rfl (g + 1) 78 Tryz.underlying119 Tryz.infoPlace (Value.slice la out.length lcap) out.length 2 (.int .i64 M) (.int .i64 0) rfl rfl _ rfl rfl rfl (by exact K1.mark _ (List.mem_cons_self ..)) (by omega) (by omega) (by decide) ?_; intro v2 w4 hv2 hst2 hgr2; obtain ⟨a2, cp2, hf2⟩ := own_form hv2; subst hf2; have hsz2 := hgr2.size; have K2 := K1.marked (own_raise (K1.mark _ (List.mem_cons_self ..)) hlb) hB0 hgr2 hst2 (by intro p hp; simp at hp; rcases hp with rfl | rfl <;> simp) hv2; have hmb2 : w4.heap[gm]? = some (Obj.cells #[Value.int IntKind.i64 M, Value.int IntKind.i64 0] 78) := (hgr2.block gm (by omega) (by intro h; have := HLB.out gm h.symm; omega)).trans HMB1.out; have mm2 : w4.cell? ⟨gm, 0, none⟩ = some (.int .i64 M) := cell_of_row w4 gm 0 _ _ _ hmb2; have mn2 : w4.cell? ⟨gm, 1, none⟩ = some (.int .i64 0) := cell_of_row w4 gm 1 _ _ _ hmb2; have HMB2 : Hid _ := hmb2; clear hmb2 hst2 hgr2 hv2)
      | (at_builtin; refine app_reps rfl (.tmp 36) (.tmp 40) 119 rfl (g + 1) 78 Tryz.underlying119 Tryz.infoPlace (Value.slice la out.length lcap) out.length 3 (.int .i64 M) (.int .i64 0) rfl rfl _ rfl rfl rfl (by exact K2.mark _ (List.mem_cons_self ..)) (by omega) (by omega) (by decide) ?_; intro v3 w5 hv3 hst3 hgr3; obtain ⟨a3, cp3, hf3⟩ := own_form hv3; subst hf3; have hsz3 := hgr3.size; have K3 := K2.marked (own_raise (K2.mark _ (List.mem_cons_self ..)) hlb) hB0 hgr3 hst3 (by intro p hp; simp at hp; rcases hp with rfl | rfl | rfl <;> simp) hv3; have hmb3 : w5.heap[gm]? = some (Obj.cells #[Value.int IntKind.i64 M, Value.int IntKind.i64 0] 78) := (hgr3.block gm (by omega) (by intro h; have := HLB.out gm h.symm; omega)).trans HMB2.out; have mm3 : w5.cell? ⟨gm, 0, none⟩ = some (.int .i64 M) := cell_of_row w5 gm 0 _ _ _ hmb3; have mn3 : w5.cell? ⟨gm, 1, none⟩ = some (.int .i64 0) := cell_of_row w5 gm 1 _ _ _ hmb3; have HMB3 : Hid _ := hmb3; clear hmb3 hst3 hgr3 hv3; have cc3 : w5.cell? ⟨g, 4, none⟩ = some (.slice ca ents.length ccap) := cell_of_row w5 g 4 _ _ _ K3.world)
      | (at_builtin; refine app_listP rfl (.tmp 46) (.tmp 48) rfl (g + 1) (.slice ca ents.length ccap) ents.length (ents) (Value.slice la out.length lcap) (by rfl) _ (by rfl) (by first | rfl | simp [World.setCell]) (by exact K3.list) (Array.getElem?_eq_some_iff.1 K3.world).1 rfl (by omega) ?_; intro u4 w6 hu4 hb4 hk4; obtain ⟨b4, bc4, hq4⟩ := own_form hu4; subst hq4; have K4 := K3.listed hu4 hb4 hk4; have hwb4 := (hb4.block g (by omega)).trans K3.world; have cw4 : w6.cell? ⟨g, 4, none⟩ = some (.slice ca ents.length ccap) := cell_of_row w6 g 4 _ _ _ hwb4; have fw4 : w6.frozen? ⟨g, 4, none⟩ = false := frozen_of_row w6 g 4 _ _ hwb4; have hsl4 := hb4.size; have HWB4 : Hid _ := hwb4; clear hwb4 hu4 hb4 hk4)
      | (at_builtin; refine app_listP rfl (.tmp 56) (.tmp 58) rfl (g + 1) (.slice b4 (ents.length + 1) bc4) (ents.length + 1) (ents ++ [(Value.slice la out.length lcap)]) (.slice a1 (out.length + 1) cp1) (by rfl) _ (by rfl) (by first | rfl | simp [World.setCell]) (by exact K4.list) (Array.getElem?_eq_some_iff.1 K4.world).1 rfl (by omega) ?_; intro u5 w7 hu5 hb5 hk5; obtain ⟨b5, bc5, hq5⟩ := own_form hu5; subst hq5; have K5 := K4.listed hu5 hb5 hk5; have hwb5 := (hb5.block g (by omega)).trans K4.world; have cw5 : w7.cell? ⟨g, 4, none⟩ = some (.slice b4 (ents.length + 1) bc4) := cell_of_row w7 g 4 _ _ _ hwb5; have fw5 : w7.frozen? ⟨g, 4, none⟩ = false := frozen_of_row w7 g 4 _ _ hwb5; have hsl5 := hb5.size; have HWB5 : Hid _ := hwb5; clear hwb5 hu5 hb5 hk5)
      | (at_builtin; refine app_listP rfl (.tmp 66) (.tmp 68) rfl (g + 1) (.slice b5 (ents.length + 1 + 1) bc5) (ents.length + 1 + 1) (ents ++ [(Value.slice la out.length lcap)] ++ [(.slice a1 (out.length + 1) cp1)]) (.slice a2 (out.length + 2) cp2) (by rfl) _ (by rfl) (by first | rfl | simp [World.setCell]) (by exact K5.list) (Array.getElem?_eq_some_iff.1 K5.world).1 rfl (by omega) ?_; intro u6 w8 hu6 hb6 hk6; obtain ⟨b6, bc6, hq6⟩ := own_form hu6; subst hq6; have K6 := K5.listed hu6 hb6 hk6; have hwb6 := (hb6.block g (by omega)).trans K5.world; have cw6 : w8.cell? ⟨g, 4, none⟩ = some (.slice b5 (ents.length + 1 + 1) bc5) := cell_of_row w8 g 4 _ _ _ hwb6; have fw6 : w8.frozen? ⟨g, 4, none⟩ = false := frozen_of_row w8 g 4 _ _ hwb6; have hsl6 := hb6.size; have HWB6 : Hid _ := hwb6; clear hwb6 hu6 hb6 hk6)
      | (at_builtin; refine app_listP rfl (.tmp 76) (.tmp 78) rfl (g + 1) (.slice b6 (ents.length + 1 + 1 + 1) bc6) (ents.length + 1 + 1 + 1) (ents ++ [(Value.slice la out.length lcap)] ++ [(.slice a1 (out.length + 1) cp1)] ++ [(.slice a2 (out.length + 2) cp2)]) (.slice a3 (out.length + 3) cp3) (by rfl) _ (by rfl) (by first | rfl | simp [World.setCell]) (by exact K6.list) (Array.getElem?_eq_some_iff.1 K6.world).1 rfl (by omega) ?_; intro u7 w9 hu7 hb7 hk7; obtain ⟨b7, bc7, hq7⟩ := own_form hu7; subst hq7; have K7 := K6.listed hu7 hb7 hk7; have hwb7 := (hb7.block g (by omega)).trans K6.world; have cw7 : w9.cell? ⟨g, 4, none⟩ = some (.slice b6 (ents.length + 1 + 1 + 1) bc6) := cell_of_row w9 g 4 _ _ _ hwb7; have fw7 : w9.frozen? ⟨g, 4, none⟩ = false := frozen_of_row w9 g 4 _ _ hwb7; have hsl7 := hb7.size; have HWB7 : Hid _ := hwb7; clear hwb7 hu7 hb7 hk7))
      go_end0
      refine ⟨rfl, _, K7.world, .slice a1 (out.length + 1) cp1, .slice a2 (out.length + 2) cp2, .slice a3 (out.length + 3) cp3, ?_, K7.mark (_, _) (by simp), K7.mark (_, _) (by simp), K7.mark (_, _) (by simp), K7.mark (_, _) (by simp), K7.below, K7.pres⟩
      have := K7.list
      simp only [List.append_assoc, List.cons_append, List.nil_append] at this
      exact this

end Go.Proofs.YtjebhbopmfcopaaGreatDoor
