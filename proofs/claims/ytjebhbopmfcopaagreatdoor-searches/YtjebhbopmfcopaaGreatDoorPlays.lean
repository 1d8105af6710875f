/-
  'plays', ONCE FOR ALL SCRIPTS: whatever invariant the steps in play keep. Own text of the verifier.
-/
import Derived.Test.YtjebhbopmfcopaaGreatDoorFirst
import Derived.Test.YtjebhbopmfcopaaGreatDoorAmong
import Derived.Test.YtjebhbopmfcopaaGreatDoorSource
namespace Go.Proofs.YtjebhbopmfcopaaGreatDoor
open Go.RowKit

theorem Tryz.infoOp : (Tryz.prog.info? 70).map (fun i => (i.zero, i.size, i.bytes)) = some (some (.agg #[.int .i64 0, .int .i64 0, .int .i64 0, .int .i64 0, .string ⟨#[]⟩, .string ⟨#[]⟩, .slice none 0 0]), 7, 88) := by kernel_rfl
theorem Tryz.infoConts : (Tryz.prog.info? 29).map (fun i => (i.zero, i.size, i.bytes)) = some (some (.slice none 0 0), 1, 24) := by kernel_rfl

theorem cells_length (l : List OpV) : (l.flatMap OpV.cells).length = l.length * 7 := by
  induction l with
  | nil => rfl
  | cons o l ih => rw [List.flatMap_cons, List.length_append, ih, List.length_cons]; simp [OpV.cells]; omega

theorem cells_at (l : List OpV) (k : Nat) (h : k < l.length) (j : Nat) (hj : j < 7) : (l.flatMap OpV.cells)[k * 7 + j]? = (l[k].cells)[j]? := by
  induction l generalizing k with
  | nil => simp at h
  | cons o l ih =>
    rw [List.flatMap_cons]
    cases k with
    | zero => rw [List.getElem?_append_left (by simp [OpV.cells]; omega)]; simp
    | succ k =>
      rw [List.getElem?_append_right (by simp [OpV.cells]; omega)]
      have e : (k + 1) * 7 + j - o.cells.length = k * 7 + j := by simp [OpV.cells]; omega
      rw [e, ih k (by simpa using h)]
      simp

theorem cells_one (l : List OpV) : ∀ u ∈ l.flatMap OpV.cells, u.oneCell' = true := by
  intro u hu
  obtain ⟨o, ho, hu⟩ := List.mem_flatMap.1 hu
  simp only [OpV.cells, List.mem_cons, List.not_mem_nil, or_false] at hu
  rcases hu with rfl | rfl | rfl | rfl | rfl | rfl | rfl <;> rfl

/-- how it stands when the first step is about to be played: w0, the World at block g; h1: the block of the reference's one contig; h: that of the one record; lv: the references -/
structure PlayStart (w w0 : World) (g h h1 : Nat) (lv : Value) (rs : List Value) : Prop where
  world : w0.heap[g]? = some (.cells #[lv, .slice none 0 0, .slice none 0 0, .slice none 0 0, .slice none 0 0, .slice none 0 0] 68 (0, 0))
  refs : w0.ownsRow w.heap.size 29 1 lv (1 + rs.length) ([.slice (some ⟨h1, 0, none⟩) 1 1] ++ rs)
  contig : w0.heap[h1]? = some (.cells #[.string ⟨#[111, 110, 101]⟩, .string ⟨#[65, 67, 71, 84, 84, 67, 71, 65]⟩] 59 (0, 0))
  record : w0.heap[h]? = some (.cells recordCells 52 (0, 0))
  below : Below w.heap.size w w0
  h_lt : h < g
  h1_lt : h1 < g
  size : w0.heap.size = g + 1
  old : w.heap.size ≤ g

theorem own_pos {w : World} {base e size n : Nat} {v : Value} {xs : List Value} (h : w.ownsRow base e size v n xs) (hn : 0 < n) : ∃ g cap, v = .slice (some ⟨g, 0, none⟩) n cap ∧ base ≤ g ∧ g < w.heap.size := by
  rcases h.2 with ⟨_, rfl⟩ | ⟨g, cap, cur, rfl, hb, hg, _⟩
  · omega
  · exact ⟨g, cap, rfl, hb, (Array.getElem?_eq_some_iff.1 hg).1⟩

/-- the reference of the law's own, just made -/
def contigObj : Obj := .cells #[.string ⟨#[111, 110, 101]⟩, .string ⟨#[65, 67, 71, 84, 84, 67, 71, 65]⟩] 59

theorem lit3 (w w2 : World) (hbel2 : Below w.heap.size w w2) :
    ((w2.alloc (.cells #[.string ⟨#[111, 110, 101]⟩, .string ⟨#[65, 67, 71, 84, 84, 67, 71, 65]⟩] 59)).alloc (.cells #[.slice (some ⟨w2.heap.size, 0, none⟩) 1 1] 29)).ownsRow w.heap.size 29 1 (.slice (some ⟨w2.heap.size + 1, 0, none⟩) 1 1) 1 [.slice (some ⟨w2.heap.size, 0, none⟩) 1 1] ∧
    Below w.heap.size w ((w2.alloc (.cells #[.string ⟨#[111, 110, 101]⟩, .string ⟨#[65, 67, 71, 84, 84, 67, 71, 65]⟩] 59)).alloc (.cells #[.slice (some ⟨w2.heap.size, 0, none⟩) 1 1] 29)) ∧
    ((w2.alloc (.cells #[.string ⟨#[111, 110, 101]⟩, .string ⟨#[65, 67, 71, 84, 84, 67, 71, 65]⟩] 59)).alloc (.cells #[.slice (some ⟨w2.heap.size, 0, none⟩) 1 1] 29)).heap[w2.heap.size]? = some contigObj := by
  have hs := hbel2.size
  generalize hA : (Obj.cells #[.string ⟨#[111, 110, 101]⟩, .string ⟨#[65, 67, 71, 84, 84, 67, 71, 65]⟩] 59) = A
  have hn : (w2.alloc A).heap.size = w2.heap.size + 1 := World.size_alloc ..
  have ho := World.ownsRow_lit (base := w.heap.size) (e := 29) (size := 1) (w2.alloc A) #[.slice (some ⟨w2.heap.size, 0, none⟩) 1 1] 1 (by rw [hn]; omega) (by decide) rfl
  rw [hn] at ho
  refine ⟨ho, (hbel2.alloc hs _).alloc (by rw [hn]; omega) _, ?_⟩
  refine (Below.heap_alloc _ _ _ (by rw [hn]; omega)).trans ?_
  rw [contigObj, hA]
  exact heap_alloc_new w2 _

theorem start_of {w w1 w2 W3 w4 : World} {v a4v : Value} {n2 ga capa : Nat} {rs xs1 xs2 xs4 : List Value} {C : Array Value}
    (hown1 : w1.ownsRow w.heap.size 70 7 v 10 xs1) (hrec : w1.heap[w.heap.size]? = some (.cells recordCells 52 (0, 0))) (hs1 : w1.heap.size = w.heap.size + 2)
    (_hown2 : w2.ownsRow w.heap.size 70 7 (.slice (some ⟨ga, 0, none⟩) n2 capa) n2 xs2) (hga : ga < w2.heap.size) (hs2 : w1.heap.size ≤ w2.heap.size) (hk2 : ∀ k, k < w1.heap.size → some k ≠ v.ownBlock → w2.heap[k]? = w1.heap[k]?)
    (hs3 : W3.heap.size = w2.heap.size + 2) (h3 : ∀ k, k < w2.heap.size → W3.heap[k]? = w2.heap[k]?) (hc3 : W3.heap[w2.heap.size]? = some contigObj)
    (hs4 : W3.heap.size ≤ w4.heap.size) (hk4 : ∀ k, k < W3.heap.size → some k ≠ some (w2.heap.size + 1) → w4.heap[k]? = W3.heap[k]?)
    (hown4 : w4.ownsRow w.heap.size 29 1 a4v (1 + rs.length) xs4) (hx4 : xs4 = [.slice (some ⟨w2.heap.size, 0, none⟩) 1 1] ++ rs) (hbel4 : Below w.heap.size w w4)
    (hC : C = #[a4v, .slice none 0 0, .slice none 0 0, .slice none 0 0, .slice none 0 0, .slice none 0 0]) :
    PlayStart w (w4.alloc (.cells C 68)) w4.heap.size w.heap.size w2.heap.size a4v rs ∧ (w4.alloc (.cells C 68)).heap[ga]? = w2.heap[ga]? ∧ ga < w4.heap.size := by
  subst hC hx4
  have hrow : some w.heap.size ≠ v.ownBlock := by
    rcases hown1.2 with ⟨_, h0⟩ | ⟨g, cap, cur, rfl, _, hg, _⟩
    · omega
    · intro he
      simp [Value.ownBlock] at he
      rw [← he, hrec] at hg
      simp at hg
  refine ⟨⟨heap_alloc_new _ _, hown4.alloc _, ?_, ?_, hbel4.alloc hbel4.size _, by omega, by omega, by rw [World.size_alloc], hbel4.size⟩, ?_, by omega⟩
  · rw [Below.heap_alloc _ _ _ (by omega), hk4 _ (by omega) (by simp)]
    exact hc3
  · rw [Below.heap_alloc _ _ _ (by omega), hk4 _ (by omega) (by simp; omega), h3 _ (by omega), hk2 _ (by omega) hrow]
    exact hrec
  · rw [Below.heap_alloc _ _ _ (by omega), hk4 _ (by omega) (by simp; omega), h3 _ hga]

/-- a step's cells, where the list of all steps lies -/
theorem all_cells {w2 wr : World} {base ga n capa : Nat} {l : List OpV} (hown : w2.ownsRow base 70 7 (.slice (some ⟨ga, 0, none⟩) n capa) n (l.flatMap OpV.cells)) (hn : l.length = n) (h : wr.heap[ga]? = w2.heap[ga]?) (k : Nat) (hk : k < l.length) :
    ∀ j, j < 7 → wr.cell? ⟨ga, k * 7 + j, none⟩ = (l[k].cells)[j]? := by
  intro j hj
  rw [World.cell?_of_block (w := w2) (a := ⟨ga, k * 7 + j, none⟩) h, hown.cellAt _ (by omega), cells_at l k hk j hj]

set_option maxRecDepth 100000 in
set_option maxHeartbeats 4000000 in
theorem plays_any (w : World) (refsV scriptV : Value) (rs : List Value) (ss : List OpV) (pl : List Int) (bp np : Nat)
    (hrefs : Src w refsV rs.length rs) (hrs : ∀ u ∈ rs, u.oneCell' = true) (hrl : (1 + rs.length) * 24 ≤ 140737488355328)
    (hscr : Src w scriptV ss.length (ss.flatMap OpV.cells)) (hsl : (10 + ss.length) * 88 ≤ 140737488355328)
    (hnp : pl.length = np) (hp100 : np ≤ 100) (hpl : ∀ j (h : j < pl.length), w.cell? ⟨bp, j, none⟩ = some (.int .i64 pl[j]))
    (H : ∀ (w0 : World) (g h h1 : Nat) (lv : Value), PlayStart w w0 g h h1 lv rs → ∃ Inv : Nat → World → Prop, Inv 0 w0 ∧ (∀ k w1 w2, Inv k w1 → Below w1.heap.size w1 w2 → Inv k w2 ∧ Inv (k + 1) w2) ∧
      (∀ o, o ∈ firstOps h ++ ss → inL pl o.k = true → ∀ k w1, k < 10 + ss.length → Inv k w1 → Below g w0 w1 → g < w1.heap.size →
        Calls Tryz.prog 23 #[.pointer (some ⟨g, 0, none⟩), .agg #[.int .i64 o.k, .int .i64 o.a, .int .i64 o.b, .int .i64 o.c, .string o.s, .string o.t, .slice o.la o.ln o.lc]] w1 fun e w2 => e = .returned (.bool true) ∧ Inv (k + 1) w2 ∧ Below g w1 w2) ∧
      (∀ k w1, k ≤ 10 + ss.length → Inv k w1 → Below g w0 w1 → g < w1.heap.size → Calls Tryz.prog 24 #[.pointer (some ⟨g, 2, none⟩)] w1 fun e w2 => e = .returned (.bool true) ∧ Inv k w2 ∧ Below g w1 w2)) :
    Calls Tryz.prog 10 #[refsV, scriptV, .slice (some ⟨bp, 0, none⟩) np np] w fun e w' => e = .returned (.bool true) ∧ Below w.heap.size w w' := by
  have HH : Hid _ := H
  have HPL : Hid _ := hpl
  have HNP : Hid _ := hnp
  clear H hpl hnp
  go_enter Tryz.func10, Tryz.ntmps10
  go_wp2_with fail
  refine (first_any _).mono ?_
  rintro e w1 ⟨v, rfl, hown1, hrec1, hbel1, hsize1⟩
  have HR1 : Hid _ := hrec1
  have HS1 : Hid _ := hsize1
  clear hrec1 hsize1
  go_wp2_with (first
    | (at_builtin; refine app_src rfl _ _ 23 rfl w.heap.size 70 _ 7 88 Tryz.underlying23 Tryz.infoOp rfl (by decide) v 10 _ scriptV ss.length (ss.flatMap OpV.cells) rfl rfl (by exact hown1) (hscr.mono hbel1) (cells_length ss) (cells_one ss) hbel1 (by have := hbel1.size; omega) hsl (by decide) ?_; intro v2 w2 hown2 hbel2 hsize2 hkeep2; obtain ⟨ga, capa, hv2, hga1, hga2⟩ := own_pos hown2 (by omega); subst hv2; have HK2 : Hid _ := hkeep2; clear hkeep2; have h3 := lit3 w w2 hbel2; obtain ⟨hown3, hbel3, hcont3⟩ := h3; have HC3 : Hid _ := hcont3; clear hcont3)
    | (at_builtin; refine app_src rfl _ _ 22 rfl w.heap.size 29 _ 1 24 Tryz.underlying22 Tryz.infoConts rfl (by decide) (.slice (some ⟨w2.heap.size + 1, 0, none⟩) 1 1) 1 _ refsV rs.length rs rfl rfl (by exact hown3) (hrefs.mono hbel3) (by omega) hrs hbel3 (by have := hbel3.size; omega) hrl (by decide) ?_; intro v4 w4 hown4 hbel4 hsize4 hkeep4; obtain ⟨a4, cap4, hv4⟩ := own_form hown4; subst hv4; have HK4 : Hid _ := hkeep4; clear hkeep4))
  have hfl : (firstOps w.heap.size).length = 10 := rfl
  rw [← List.flatMap_append] at hown2
  obtain ⟨hst, hga0, hga4⟩ := start_of hown1 HR1.out HS1.out hown2 hga2 hsize2 HK2.out (by simp) (fun k hk => by rw [Below.heap_alloc _ _ _ (by rw [World.size_alloc]; omega), Below.heap_alloc _ _ _ hk]) HC3.out hsize4 HK4.out hown4 rfl hbel4 rfl
  obtain ⟨Inv, hI0, hIst, hIstep, hIlooks⟩ := HH.out _ _ _ _ _ hst
  have hs0 := hst.size
  have hb0 := hst.below
  have HL : Hid ((firstOps w.heap.size ++ ss).length = 10 + ss.length) := by show _ = _; rw [List.length_append, hfl]
  have HCs : Hid _ := fun (wr : World) (h : wr.heap[ga]? = w2.heap[ga]?) k hk => all_cells hown2 HL.out h k hk
  have HG0 : Hid _ := hga0
  have HST : Hid _ := hIst
  have HSP : Hid _ := hIstep
  have HLK : Hid _ := hIlooks
  clear hst hIst hIstep hIlooks hown1 hown2 hown3 hown4 hrefs hscr hga0 hbel1 hbel2 hbel3 hbel4 hsize2 hsize4 HK2 HK4 HC3 HR1 HS1 HH hfl
  generalize hw0 : (w4.alloc (Obj.cells #[Value.slice a4 (1 + rs.length) cap4, .slice none 0 0, .slice none 0 0, .slice none 0 0, .slice none 0 0, .slice none 0 0] 68)) = w0 at *
  clear hw0
  generalize hg0 : w4.heap.size = g at *
  clear hg0
  generalize firstOps w.heap.size ++ ss = ops at *
  generalize 10 + ss.length = N at *
  go_loopw [10] (fun i wr => ∃ k : Nat, k ≤ N ∧ i = .int .i64 k ∧ Inv k wr ∧ Below g w0 wr) (fun i _ => N - (intOf i).toNat)
  case atStart => exact ⟨0, Nat.zero_le _, rfl, hI0, Below.refl _ _⟩
  case round =>
    obtain ⟨k, hk, rfl, hI, hbr⟩ := hrel
    have hsr := hbr.size
    by_cases hlt : k < N
    · have hkl : k < ops.length := by rw [HL.out]; exact hlt
      have hcs := HCs.out wr ((hbr.block _ (by omega)).trans HG0.out) k hkl
      obtain ⟨o, ho⟩ : ∃ o, o = ops[k] := ⟨_, rfl⟩
      rw [← ho] at hcs
      have hmem : o ∈ ops := by rw [ho]; exact List.getElem_mem _
      have c0 : wr.cell? ⟨ga, k * 7, none⟩ = some (.int .i64 o.k) := hcs 0 (by omega)
      have c1 : wr.cell? ⟨ga, k * 7 + 1, none⟩ = some (.int .i64 o.a) := hcs 1 (by omega)
      have c2 : wr.cell? ⟨ga, k * 7 + 2, none⟩ = some (.int .i64 o.b) := hcs 2 (by omega)
      have c3 : wr.cell? ⟨ga, k * 7 + 3, none⟩ = some (.int .i64 o.c) := hcs 3 (by omega)
      have c4 : wr.cell? ⟨ga, k * 7 + 4, none⟩ = some (.string o.s) := hcs 4 (by omega)
      have c5 : wr.cell? ⟨ga, k * 7 + 5, none⟩ = some (.string o.t) := hcs 5 (by omega)
      have c6 : wr.cell? ⟨ga, k * 7 + 6, none⟩ = some (.slice o.la o.ln o.lc) := hcs 6 (by omega)
      clear hcs ho
      have hmx : (k : Int) < 144115188075855872 := by omega
      have hkn : (k : Int) < (N : Int) := by omega
      have hb5 : Below wr.heap.size wr (wr.alloc (Obj.cells #[.int .i64 o.k, .int .i64 o.a, .int .i64 o.b, .int .i64 o.c, .string o.s, .string o.t, .slice o.la o.ln o.lc] 70)) := (Below.refl _ _).alloc (Nat.le_refl _) _
      have HI5 : Hid _ := HST.out _ _ _ hI hb5
      have HB5 : Hid _ := hbr.trans (hb5.mono (by omega))
      have HP5 : Hid _ := fun j (h : j < pl.length) => (hb5.cell (p := ⟨bp, j, none⟩) (by have := World.block_lt_of_cell? w _ (HPL.out j h); have := hb0.size; simp at *; omega)).trans ((hbr.cell (p := ⟨bp, j, none⟩) (by have := World.block_lt_of_cell? w _ (HPL.out j h); simp at *; omega)).trans ((hb0.cell (p := ⟨bp, j, none⟩) (World.block_lt_of_cell? w _ (HPL.out j h))).trans (HPL.out j h)))
      clear hb5 hI
      have HBR : Hid _ := hbr
      clear hbr
      have hgr : g < wr.heap.size + 1 := by omega
      cases hin : inL pl o.k with
      | false =>
        have HIN : Hid _ := hin
        clear hin
        go_wp2_with (go_at_call 22; refine (among_any pl bp np _ _ HNP.out hp100 HP5.out).mono ?_; rintro e w' ⟨rfl, hw⟩; subst w'; rw [HIN.out])
        go_roundw
        case rel => exact ⟨k + 1, by omega, by go_num, HI5.out.2, HB5.out⟩
        case measure => simp [intOf]; omega
      | true =>
        have HIN : Hid _ := hin
        clear hin
        go_wp2_with fail
        refine (among_any pl bp np _ _ HNP.out hp100 HP5.out).mono ?_
        rintro e w' ⟨rfl, hw⟩
        subst w'
        rw [HIN.out]
        go_wp2_with fail
        refine (HSP.out o hmem HIN.out k _ hlt HI5.out.1 HB5.out (by simp; omega)).mono ?_
        rintro e w6 ⟨rfl, hI6, hb6⟩
        have hs6 := hb6.size
        rw [World.size_alloc] at hs6
        have hb06 := HB5.out.trans hb6
        go_wp2_with fail
        refine (HLK.out (k + 1) _ hlt hI6 hb06 (by omega)).mono ?_
        rintro e w7 ⟨rfl, hI7, hb7⟩
        go_wp2
        go_roundw
        case rel => exact ⟨k + 1, by omega, by go_num, hI7, hb06.trans hb7⟩
        case measure => simp [intOf]; omega
    · have hnk : ¬ (k : Int) < (N : Int) := by omega
      go_wp2
      go_ret
      exact ⟨rfl, hb0.trans (hbr.mono (by have := hb0.size; omega))⟩

end Go.Proofs.YtjebhbopmfcopaaGreatDoor
