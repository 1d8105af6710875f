/-
  CONTIGS THAT ARE HANDED IN: with spare room, laid by the statement itself, and looked at again behind the call. Own text of the verifier.
  THE CONTIGS OF A REFERENCE THAT CAME IN, OPENED: what their reading says of the cells. Own text of the verifier.
  THE WALKS of 'lentContigs' and 'wholeContigs'. Own text of the verifier.
  THE WALK of 'wholeContigs'. Own text of the verifier.
  THE WALK of 'keepsContigs': a list that came out is marked, appended to thrice, and written into the book. Own text of the verifier.
-/
import Derived.Test.YtjebhbopmfcopaaGreatDoorBun2
import Derived.Test.YtjebhbopmfcopaaGreatDoorBun5
import Derived.BigQuiet
import Derived.Test.YtjebhbopmfcopaaGreatDoorBun4
import Derived.Test.YtjebhbopmfcopaaGreatDoorBun1
import Derived.Test.YtjebhbopmfcopaaGreatDoorBun3
namespace Go.Proofs.YtjebhbopmfcopaaGreatDoor
open Go.RowKit

/-- what lies behind them; what the caller writes over them -/
def beC : Pr := ([98, 101, 121, 111, 110, 100], [65, 65, 65, 65])
def otC : Pr := ([111, 116, 104, 101, 114], [67, 71])
def lentC (cs : List Pr) : List Pr := cs ++ List.replicate 8 beC

theorem lentC_length (cs : List Pr) : (lentC cs).length = cs.length + 8 := by simp [lentC]
theorem lentC_low (cs : List Pr) (k : Nat) (h1 : k < cs.length) (h : k < (lentC cs).length) : (lentC cs)[k] = cs[k] := by simp only [lentC, List.getElem_append_left h1]
theorem lentC_high (cs : List Pr) (k : Nat) (h1 : cs.length ≤ k) (h : k < (lentC cs).length) : (lentC cs)[k] = beC := by
  simp only [lentC, List.getElem_append_right h1, List.getElem_replicate]

theorem Prs_cons (o : Pr) (l : List Pr) : Prs (o :: l) = .string ⟨o.1.toArray⟩ :: .string ⟨o.2.toArray⟩ :: Prs l := rfl
theorem Prs_set (l : List Pr) (k : Nat) (h : k < l.length) (x : Pr) : ((Prs l).set (k * 2) (.string ⟨x.1.toArray⟩)).set (k * 2 + 1) (.string ⟨x.2.toArray⟩) = Prs (l.set k x) := by
  induction l generalizing k with
  | nil => simp at h
  | cons o l ih =>
    cases k with
    | zero => simp [Prs_cons]
    | succ k =>
      rw [Prs_cons, show (k + 1) * 2 = k * 2 + 1 + 1 by omega, List.set_cons_succ, List.set_cons_succ, List.set_cons_succ, List.set_cons_succ, List.set_cons_succ, Prs_cons, ih k (by simpa using h)]

/-- while they are laid: the first k, then empty ones -/
def filledP (l : List Pr) (n k : Nat) : List Pr := l.take k ++ List.replicate (n - k) ([], [])
theorem filledP_length (l : List Pr) (n k : Nat) (h : l.length = n) (hk : k ≤ n) : (filledP l n k).length = n := by simp [filledP]; omega
theorem filledP_whole (l : List Pr) (n : Nat) (h : l.length = n) : filledP l n n = l := by simp [filledP, ← h]
theorem filledP_set (l : List Pr) (n k : Nat) (h : l.length = n) (hk : k < n) : (filledP l n k).set k (l[k]'(by omega)) = filledP l n (k + 1) := by
  unfold filledP
  have h1 : (l.take k).length = k := by rw [List.length_take]; omega
  rw [List.set_append, if_neg (by omega), h1, Nat.sub_self, List.take_succ_eq_append_getElem (by omega)]
  obtain ⟨m, hm⟩ : ∃ m, n - k = m + 1 := ⟨n - k - 1, by omega⟩
  rw [hm, show n - (k + 1) = m by omega, List.replicate_succ, List.set_cons_zero, List.append_assoc, List.singleton_append]

/-- while they are looked at: the first k written over -/
def wipedP (cs : List Pr) (k : Nat) : List Pr := List.replicate k otC ++ (lentC cs).drop k
theorem wipedP_zero (cs : List Pr) : wipedP cs 0 = lentC cs := by simp [wipedP]
theorem wipedP_length (cs : List Pr) (k : Nat) (h : k ≤ cs.length + 8) : (wipedP cs k).length = cs.length + 8 := by simp [wipedP, lentC_length]; omega
theorem wipedP_at (cs : List Pr) (k : Nat) (h : k < cs.length + 8) (h2 : k < (wipedP cs k).length) : (wipedP cs k)[k] = (lentC cs)[k]'(by rw [lentC_length]; exact h) := by
  simp only [wipedP]
  rw [List.getElem_append_right (by simp)]
  simp
theorem wipedP_set (cs : List Pr) (k : Nat) (h : k < cs.length + 8) : (wipedP cs k).set k otC = wipedP cs (k + 1) := by
  rw [wipedP, wipedP, List.set_append, if_neg (by simp), List.length_replicate, Nat.sub_self]
  rw [List.drop_eq_getElem_cons (by rw [lentC_length]; exact h), List.set_cons_zero, List.replicate_succ']
  simp

theorem Tryz.infoContig2 : (Tryz.prog.info? 59).map (fun i => (i.zero, i.size, i.bytes)) = some (some (.agg #[.string ⟨#[]⟩, .string ⟨#[]⟩]), 2, 32) := by kernel_rfl
theorem Tryz.sizeContig : (Tryz.prog.info? 59).map (·.size) = some 2 := by kernel_rfl

/-- empty contigs, as they are made -/
theorem made_two (m : Nat) : (madeCells (Value.agg #[.string ⟨#[]⟩, .string ⟨#[]⟩]).cells (m * 2)).toList = Prs (List.replicate m ([], [])) := by
  have h1 : (madeCells (Value.agg #[.string ⟨#[]⟩, .string ⟨#[]⟩]).cells (m * 2)).toList = List.replicate (m * 2) (.string ⟨#[]⟩) := by
    apply List.ext_getElem?
    intro j
    have hc : (Value.agg #[.string ⟨#[]⟩, .string ⟨#[]⟩]).cells = #[.string ⟨#[]⟩, .string ⟨#[]⟩] := rfl
    rw [hc]
    by_cases hj : j < m * 2
    · have h2 : j % 2 = 0 ∨ j % 2 = 1 := by omega
      rcases h2 with h2 | h2 <;> simp [madeCells, hj, h2]
    · simp [madeCells, hj]
  rw [h1]
  induction m with
  | zero => rfl
  | succ m ih =>
    have hm := ih (by
      have := h1
      apply List.ext_getElem?
      intro j
      have hc : (Value.agg #[.string ⟨#[]⟩, .string ⟨#[]⟩]).cells = #[.string ⟨#[]⟩, .string ⟨#[]⟩] := rfl
      rw [hc]
      by_cases hj : j < m * 2
      · have h2 : j % 2 = 0 ∨ j % 2 = 1 := by omega
        rcases h2 with h2 | h2 <;> simp [madeCells, hj, h2]
      · simp [madeCells, hj])
    rw [show (m + 1) * 2 = m * 2 + 1 + 1 by omega, List.replicate_succ, List.replicate_succ, List.replicate_succ, Prs_cons, ← hm]

/-- 'copy(out, l)', elements of several cells -/
theorem run_copy_many {P : Program} (w : World) (dT sT ty elem : TypeId) (g o dLen dCap : Nat) (a : Addr) (sLen sCap : Nat) (cur : Array Value) (t : TypeId) (cs : List Value) (size : Nat)
    (hu : P.underlying dT = some (.slice elem)) (hs : (P.info? elem).map (·.size) = some size)
    (hg : w.heap[g]? = some (.cells cur t (0, 0))) (hn : cs.length = Nat.min sLen dLen * size)
    (hsrc : ∀ j v, cs[j]? = some v → w.cell? (a.add j) = some v) (hfit : o + cs.length ≤ cur.size) (h1 : ∀ v ∈ cs, v.oneCell' = true) :
    (Builtin.copy_ #[dT, sT] ty #[.slice (some ⟨g, o, none⟩) dLen dCap, .slice (some a) sLen sCap]).run P w =
      .ok (goInt (Nat.min sLen dLen)) (w.setRow g (cur.toList.take o ++ cs ++ cur.toList.drop (o + cs.length)).toArray) := by
  have hl := run_loadCells_list (P := P) w a cs hsrc
  have hst := run_storeCells_at P g o t cs 0 cur w hg (by simpa using hfit) h1
  cases hq : P.info? elem with
  | none => simp [hq] at hs
  | some i =>
    have hi : i.size = size := by simpa [hq] using hs
    simp [Builtin.copy_, run_underlying hu, Builtin.lenOf, Builtin.firstCells, sizeOf, typeInfo, hq, hi, ← hn, hl, hst]

/-- 'copy(out, l)' into contigs just made -/
theorem copy_lentC (cs : List Pr) (G cc : Nat) (ad : Addr) (w1 : World) (hsrc : ∀ j u, (Prs cs)[j]? = some u → w1.cell? (ad.add j) = some u)
    (hown : w1.ownsRow G 59 2 (.slice (some ⟨G, 0, none⟩) (cs.length + 8) (cs.length + 8)) (cs.length + 8) (Prs (List.replicate (cs.length + 8) ([], [])))) :
    ∃ W2, (∀ ty, (Builtin.copy_ #[29, 29] ty #[.slice (some ⟨G, 0, none⟩) (cs.length + 8) (cs.length + 8), .slice (some ad) cs.length cc]).run Tryz.prog w1 = .ok (goInt cs.length) W2) ∧
      W2.ownsRow G 59 2 (.slice (some ⟨G, 0, none⟩) (cs.length + 8) (cs.length + 8)) (cs.length + 8) (Prs (filledP (lentC cs) (cs.length + 8) cs.length)) ∧ w1.grownBy W2 (some G) := by
  rcases hown.2 with ⟨h, _⟩ | ⟨g, cap, cur, hv, hb, hg, hnc, hcm, hcs, htake⟩
  · simp at h
  · simp only [Value.slice.injEq, Option.some.injEq, Addr.mk.injEq, and_true, true_and] at hv
    obtain ⟨rfl, rfl⟩ := hv
    have hmin : Nat.min cs.length (cs.length + 8) = cs.length := Nat.min_eq_left (by omega)
    have hc : cur.toList = Prs (List.replicate (cs.length + 8) ([], [])) := by
      rw [← htake, List.take_of_length_le (by rw [Array.length_toList, hcs]; exact Nat.le_refl _)]
    have hrun := fun ty => run_copy_many (P := Tryz.prog) w1 29 29 ty 59 G 0 (cs.length + 8) (cs.length + 8) ad cs.length cc cur 59 (Prs cs) 2 Tryz.underlying29 Tryz.sizeContig hg (by rw [hmin, Prs_length]) hsrc (by rw [hcs, Prs_length]; omega) (Prs_one cs)
    rw [hmin] at hrun
    refine ⟨_, hrun, ?_, ⟨rfl, rfl, rfl, by simp [World.setRow], fun k _ hk => setRow_other w1 G k _ (fun e => hk (by simp [e]))⟩⟩
    have he : (cur.toList.take 0 ++ Prs cs ++ cur.toList.drop (0 + (Prs cs).length)) = Prs (filledP (lentC cs) (cs.length + 8) cs.length) := by
      rw [hc, filledP, lentC, List.take_zero, List.nil_append, List.take_append_of_le_length (Nat.le_refl _), List.take_length, Prs_append]
      congr 1
      rw [Nat.zero_add, show cs.length + 8 - cs.length = 8 by omega, ← List.replicate_append_replicate, Prs_append, List.drop_append_of_le_length (by rw [Prs_length, Prs_length, List.length_replicate]; exact Nat.le_refl _), List.drop_of_length_le (by rw [Prs_length, Prs_length, List.length_replicate]; exact Nat.le_refl _), List.nil_append]
    have hl : (Prs (filledP (lentC cs) (cs.length + 8) cs.length)).length = (cs.length + 8) * 2 := by
      rw [Prs_length, filledP_length _ _ _ (lentC_length cs) (by omega)]
    rw [he]
    refine ⟨hl, .inr ⟨G, cs.length + 8, _, rfl, hb, setRow_heap w1 G cur _ 59 _ hg, Nat.le_refl _, hcm, by simp [hl], ?_⟩⟩
    rw [List.take_of_length_le (by simp [hl])]

end Go.Proofs.YtjebhbopmfcopaaGreatDoor

namespace Go.Proofs.YtjebhbopmfcopaaGreatDoor
open Go.ChangeShapes Go.WideShapes Go.ChangeAt Go.RowKit Go.Deep

theorem Tryz.cellsContig : Tryz.prog.cellsOf 59 = 2 := by kernel_rfl
theorem Tryz.bytesContig : Tryz.prog.bytesOf 59 = 32 := by kernel_rfl

/-- a reference: contigs that lie somewhere, of a size that can be -/
structure RefOk (w : World) (v : Value) (cs : List Pr) : Prop where
  src : Src w v cs.length (Prs cs)
  len : cs.length * 32 ≤ 140737488351232
  txt : ∀ x ∈ cs, x.1.length ≤ 140737488351232 ∧ x.2.length ≤ 140737488351232

section
variable {H : Type} {enc : TypeId × Value → H} {w : World} {base : Nat} {spare : Nat → Bool} {held : Bool}

theorem list2 {α : Type} {l : List α} (h : l.length = 2) : ∃ a b, l = [a, b] := by
  match l, h with
  | [a, b], _ => exact ⟨a, b, rfl⟩

theorem open_contig {fuel : Nat} {cs : List Value} {x : DataW H × List MemPlace} (h : DataW.trod enc Tryz.prog w base spare held fuel 59 cs = some x) :
    ∃ p : Pr, cs = prCells p ∧ x.1 = .agg [.lit (.string p.1), .lit (.string p.2)] := by
  obtain ⟨xs, n, _, rfl, hcl, hxl, hf⟩ := DataW.trod_struct Tryz.underlying59 h
  rw [Tryz.cellsContig] at hcl
  obtain ⟨c0, c1, rfl⟩ := list2 hcl
  obtain ⟨x0, x1, rfl⟩ := list2 (show xs.length = 2 from hxl)
  have f0 : DataW.trod enc Tryz.prog w base spare held n 9 (([c0, c1].drop 0).take (Tryz.prog.cellsOf 9)) = some x0 := hf 0 _ rfl
  rw [Tryz.cellsStr] at f0
  have f1 : DataW.trod enc Tryz.prog w base spare held n 9 (([c0, c1].drop 1).take (Tryz.prog.cellsOf 9)) = some x1 := hf 1 _ rfl
  rw [Tryz.cellsStr] at f1
  obtain ⟨s, e0, rfl, w0⟩ := DataW.trod_string Tryz.underlying9 f0
  obtain ⟨t, e1, rfl, w1⟩ := DataW.trod_string Tryz.underlying9 f1
  simp only [List.drop, List.take, List.cons.injEq, and_true] at e0 e1
  subst e0 e1
  exact ⟨(s.data.toList, t.data.toList), rfl, rfl⟩

theorem open_ref {fuel l c : Nat} {ao : Option Addr} {dl : DataW H} {pl : List MemPlace} (h : DataW.trod enc Tryz.prog w 0 (fun _ => true) true fuel 29 [.slice ao l c] = some (dl, pl))
    (hs : ∀ n ∈ dl.weights Tryz.prog 29, n ≤ reachBytes) : ∃ cs, RefOk w (.slice ao l c) cs := by
  rcases open_slice Tryz.underlying29 h with ⟨hcs, hx⟩ | ⟨a, len, cap, m, n, D, Pl, hcs, _, hl, hm, hmm, hx, hel⟩
  · simp at hcs
    obtain ⟨rfl, rfl, rfl⟩ := hcs
    exact ⟨[], .inl ⟨rfl, rfl, rfl⟩, by simp, by simp⟩
  · simp at hcs
    obtain ⟨rfl, rfl, rfl⟩ := hcs
    simp only [Prod.mk.injEq] at hx
    obtain ⟨rfl, _⟩ := hx
    have hml : l ≤ m := by rw [hmm]; simpa using hl
    have hel' : ∀ i, i < l → ∃ p : Pr, w.cells? 0 (a.add (i * 2)) 2 = some (prCells p) ∧ D i = .agg [.lit (.string p.1), .lit (.string p.2)] := by
      intro i hi
      obtain ⟨cs', h1, h2⟩ := hel i (by omega)
      rw [Tryz.cellsContig] at h1
      obtain ⟨p, rfl, h3⟩ := open_contig h2
      exact ⟨p, h1, h3⟩
    have : Inhabited Pr := ⟨([], [])⟩
    obtain ⟨f, hfo⟩ := choose_lt hel'
    refine ⟨(List.range l).map f, .inr ⟨a, c, by simp, ?_⟩, ?_, ?_⟩
    · intro j u hj
      have hlen : j < l * 2 := by
        have := (List.getElem?_eq_some_iff.1 hj).1
        rw [Prs_length] at this
        simpa using this
      have hjk : j / 2 < l := by omega
      have hj' : j = j / 2 * 2 + j % 2 := by omega
      rw [hj', Prs_at _ (j / 2) (by simpa using hjk) (j % 2) (by omega)] at hj
      simp only [List.getElem_map, List.getElem_range] at hj
      obtain ⟨h1, _⟩ := hfo (j / 2) hjk
      obtain ⟨_, hlen2, hcell⟩ := World.cells?_some h1
      have := hcell (j % 2) (by omega)
      rw [add_add, hj] at this
      rw [hj']
      exact this
    · have h1 := hs ((((List.range l).map D).length + _) * Tryz.prog.bytesOf 59) (by
        simp only [DataW.weights, Tryz.underlying29]
        exact List.mem_cons_self ..)
      rw [Tryz.bytesContig] at h1
      simp only [reachBytes, List.length_map, List.length_range] at h1 ⊢
      omega
    · intro x hx
      obtain ⟨i, hi, rfl⟩ := List.mem_map.1 hx
      obtain ⟨_, h2⟩ := hfo i (List.mem_range.1 hi)
      have hw : ∀ n ∈ (D i).weights Tryz.prog 59, n ≤ reachBytes := by
        intro n hn
        refine hs n ?_
        simp only [DataW.weights, Tryz.underlying29]
        exact List.mem_cons_of_mem _ (List.mem_append_left _ (weightsAll_mem (List.mem_map.2 ⟨i, hi, rfl⟩) hn))
      rw [h2] at hw
      simp only [DataW.weights, Tryz.underlying59, DataW.weightsEach, List.map] at hw
      have w1 := hw (f i).1.length (by simp)
      have w2 := hw (f i).2.length (by simp)
      simp only [reachBytes] at w1 w2
      omega

end

end Go.Proofs.YtjebhbopmfcopaaGreatDoor

namespace Go.Proofs.YtjebhbopmfcopaaGreatDoor
open Go.RowKit

/-- what 'lentContigs' answers: nil, or a new row -/
def LentC (w w' : World) (cs : List Pr) (lv v : Value) : Prop :=
  (lv = .slice none 0 0 ∧ cs = [] ∧ v = .slice none 0 0 ∧ w' = w) ∨
  (∃ ad cc, lv = .slice (some ad) cs.length cc ∧ v = .slice (some ⟨w.heap.size, 0, none⟩) cs.length (cs.length + 8) ∧
    w'.ownsRow w.heap.size 59 2 (.slice (some ⟨w.heap.size, 0, none⟩) (cs.length + 8) (cs.length + 8)) (cs.length + 8) (Prs (lentC cs)) ∧ Below w.heap.size w w' ∧ w.heap.size < w'.heap.size)

theorem beC_set (cs : List Pr) (k : Nat) (h1 : cs.length ≤ k) (h : k < cs.length + 8) :
    ((Prs (filledP (lentC cs) (cs.length + 8) k)).set (k * 2) (.string ⟨#[98, 101, 121, 111, 110, 100]⟩)).set (k * 2 + 1) (.string ⟨#[65, 65, 65, 65]⟩) = Prs (filledP (lentC cs) (cs.length + 8) (k + 1)) := by
  have h2 := Prs_set (filledP (lentC cs) (cs.length + 8) k) k (by rw [filledP_length _ _ _ (lentC_length cs) (by omega)]; exact h) beC
  refine Eq.trans h2 ?_
  rw [← filledP_set _ _ _ (lentC_length cs) h, lentC_high cs k h1]

theorem otC_set (cs : List Pr) (k : Nat) (h : k < cs.length + 8) :
    ((Prs (wipedP cs k)).set (k * 2) (.string ⟨#[111, 116, 104, 101, 114]⟩)).set (k * 2 + 1) (.string ⟨#[67, 71]⟩) = Prs (wipedP cs (k + 1)) := by
  have h2 := Prs_set (wipedP cs k) k (by rw [wipedP_length _ _ (by omega)]; exact h) otC
  refine Eq.trans h2 ?_
  rw [wipedP_set cs k h]

theorem src_keep {w w' : World} {ad : Addr} {xs : List Value} (h : ∀ j u, xs[j]? = some u → w.cell? (ad.add j) = some u) (hb : Below w.heap.size w w') : ∀ j u, xs[j]? = some u → w'.cell? (ad.add j) = some u := by
  intro j u hj
  have h0 := h j u hj
  rw [hb.cell (World.block_lt_of_cell? w _ h0)]
  exact h0

set_option maxRecDepth 100000 in
set_option maxHeartbeats 1600000 in
theorem lentContigs_any (cs : List Pr) (lv : Value) (w : World) (hr : RefOk w lv cs) :
    Calls Tryz.prog 111 #[lv] w fun e w' => ∃ v, e = .returned v ∧ LentC w w' cs lv v := by
  have hnil := fun (wy : World) (a : Option Addr) (l c : Nat) => Lib.run_eql_slice_nil (P := Tryz.prog) wy 29 59 a l c 0 0 Tryz.underlying29
  obtain ⟨i0, hi, hz0, hz1, hz2⟩ := info_parts Tryz.infoContig2
  have hlen := hr.len
  rcases hr.src with ⟨rfl, hc0, _⟩ | ⟨ad, cc, rfl, hsrc⟩
  · obtain rfl : cs = [] := List.eq_nil_of_length_eq_zero hc0
    clear hlen hr hc0
    go_enter Tryz.func111, Tryz.ntmps111
    go_wp2
    go_ret
    exact ⟨_, rfl, .inl ⟨rfl, rfl, rfl, rfl⟩⟩
  · clear hr
    have HSRC : Hid _ := hsrc
    clear hsrc
    go_enter Tryz.func111, Tryz.ntmps111
    go_wp2_with (at_make; refine wpList_make_full _ rfl _ _ 29 rfl w.heap.size 59 i0 (.agg #[.string ⟨#[]⟩, .string ⟨#[]⟩]) 2 Tryz.underlying29 hi hz0 hz1 _ _ _ _ (cs.length + 8) rfl rfl (by omega) (by omega) (by rw [hz2]; omega) (by unfold maxLen; omega) (Nat.le_refl _) ?_; intro w1 hown0 hgrow; rw [made_two] at hown0; have hb1 : Below w.heap.size w w1 := (Below.refl _ _).grown hgrow (Nat.le_refl _) (fun k hk => by cases hk); obtain ⟨W2, hcopy, hown2, hgrow2⟩ := copy_lentC cs w.heap.size cc ad w1 (src_keep HSRC.out hb1) hown0)
    have hb2 : Below w.heap.size w W2 := hb1.grown hgrow2 (by have := hgrow.size; omega) (fun k hk => by cases hk; exact Nat.le_refl _)
    clear hcopy hown0 hgrow hgrow2 hb1 hnil
    go_loopw [5] (fun i wr => ∃ k : Nat, cs.length ≤ k ∧ k ≤ cs.length + 8 ∧ i = .int .i64 (k : Int) ∧ wr.ownsRow w.heap.size 59 2 (.slice (some ⟨w.heap.size, 0, none⟩) (cs.length + 8) (cs.length + 8)) (cs.length + 8) (Prs (filledP (lentC cs) (cs.length + 8) k)) ∧ Below w.heap.size w wr)
      (fun i _ => cs.length + 8 - (intOf i).toNat)
    case atStart => exact ⟨cs.length, Nat.le_refl _, by omega, rfl, hown2, hb2⟩
    case round =>
      clear hown2 hb2
      obtain ⟨k, hk1, hk, rfl, hown, hbel⟩ := hrel
      by_cases hlt : k < cs.length + 8
      · obtain ⟨p0, p1⟩ := own_pair hown k (by rw [filledP_length _ _ _ (lentC_length cs) (by omega)]; exact hlt)
        have f0 := hown.frozenAt (k * 2)
        have f1 := hown.frozenAt (k * 2 + 1)
        have hs1 := hown.stored (k * 2) (.string ⟨#[98, 101, 121, 111, 110, 100]⟩)
        have hs2 := hs1.1.stored (k * 2 + 1) (.string ⟨#[65, 65, 65, 65]⟩)
        rw [beC_set cs k hk1 hlt] at hs2
        have HST : Hid _ := hs2.1
        have HB1 : Hid _ := (hbel.setCell (p := ⟨w.heap.size, k * 2, none⟩) (Nat.le_refl _) (.string ⟨#[98, 101, 121, 111, 110, 100]⟩)).setCell (p := ⟨w.heap.size, k * 2 + 1, none⟩) (Nat.le_refl _) (.string ⟨#[65, 65, 65, 65]⟩)
        clear hs1 hs2 hown hbel
        have hlt' : (k : Int) < (cs.length : Int) + 8 := by omega
        go_wp2
        go_roundw
        case rel => exact ⟨k + 1, by omega, by omega, by go_num, HST.out, HB1.out⟩
        case measure => simp [intOf]; omega
      · have hke : k = cs.length + 8 := by omega
        rw [hke, filledP_whole _ _ (lentC_length cs)] at hown
        have hlt' : ¬ (k : Int) < (cs.length : Int) + 8 := by omega
        have hlt9 : w.heap.size < wr.heap.size := by
          rcases hown.2 with ⟨h, _⟩ | ⟨g, cap, cur, hv, _, hg, _⟩
          · simp at h
          · simp only [Value.slice.injEq, Option.some.injEq, Addr.mk.injEq, and_true, true_and] at hv
            obtain ⟨rfl, _⟩ := hv
            exact (Array.getElem?_eq_some_iff.1 hg).1
        clear hke
        have HO : Hid _ := hown
        have HB : Hid _ := hbel
        clear hown hbel
        go_wp2
        go_ret
        exact ⟨_, rfl, .inr ⟨_, _, rfl, rfl, HO.out, HB.out, hlt9⟩⟩

end Go.Proofs.YtjebhbopmfcopaaGreatDoor

namespace Go.Proofs.YtjebhbopmfcopaaGreatDoor
open Go.RowKit

set_option maxRecDepth 100000 in
set_option maxHeartbeats 1600000 in
theorem wholeContigs_nil (v : Value) (w : World) :
    Calls Tryz.prog 113 #[v, .slice none 0 0] w fun e w' => e = .returned (.bool true) ∧ w' = w := by
  have hnil := fun (wy : World) (a : Option Addr) (l c : Nat) => Lib.run_eql_slice_nil (P := Tryz.prog) wy 29 59 a l c 0 0 Tryz.underlying29
  go_enter Tryz.func113, Tryz.ntmps113
  go_wp2
  go_ret
  exact ⟨rfl, rfl⟩

theorem src_first {w : World} {ad : Addr} {l : List Pr} (h : ∀ j u, (Prs l)[j]? = some u → w.cell? (ad.add j) = some u) (k : Nat) (hk : k < l.length) : w.cell? (ad.add (k * 2)) = some (.string ⟨l[k].1.toArray⟩) := by
  refine h (k * 2) _ ?_
  have := Prs_at l k hk 0 (by omega)
  rw [Nat.add_zero] at this
  rw [this]
  rfl

theorem grown_new (w : World) (o : Obj) (n : Nat) : w.grownBy ((w.alloc o).drewN n) none :=
  ⟨rfl, rfl, rfl, by show w.heap.size ≤ (w.heap.push o).size; simp, fun k hk _ => Below.heap_alloc w o k hk⟩

theorem wipe_one {w wr Y : World} {cs : List Pr} {G k : Nat} (hgr : w.grownBy wr (some G)) (hown : wr.ownsRow G 59 2 (.slice (some ⟨G, 0, none⟩) (cs.length + 8) (cs.length + 8)) (cs.length + 8) (Prs (wipedP cs k))) (hk : k < cs.length + 8) (hY : wr.grownBy Y none) :
    ((Y.setCell ⟨G, k * 2, none⟩ (.string ⟨#[111, 116, 104, 101, 114]⟩)).setCell ⟨G, k * 2 + 1, none⟩ (.string ⟨#[67, 71]⟩)).ownsRow G 59 2 (.slice (some ⟨G, 0, none⟩) (cs.length + 8) (cs.length + 8)) (cs.length + 8) (Prs (wipedP cs (k + 1))) ∧
      w.grownBy ((Y.setCell ⟨G, k * 2, none⟩ (.string ⟨#[111, 116, 104, 101, 114]⟩)).setCell ⟨G, k * 2 + 1, none⟩ (.string ⟨#[67, 71]⟩)) (some G) := by
  have h0 := hown.kept hY (.inr (by simp [Value.ownBlock]))
  have h1 := h0.stored (k * 2) (.string ⟨#[111, 116, 104, 101, 114]⟩)
  have h2 := h1.1.stored (k * 2 + 1) (.string ⟨#[67, 71]⟩)
  rw [otC_set cs k hk] at h2
  exact ⟨h2.1, grown_trans (grown_trans (grown_trans hgr (grown_weak hY)) h1.2) h2.2⟩

set_option maxRecDepth 100000 in
set_option maxHeartbeats 1600000 in
theorem wholeContigs_row (cs : List Pr) (G cc : Nat) (ad : Addr) (w : World) (hlen : cs.length * 32 ≤ 140737488351232) (hsrc : ∀ j u, (Prs cs)[j]? = some u → w.cell? (ad.add j) = some u) (hne : 0 < cs.length → ad.block ≠ G)
    (hown : w.ownsRow G 59 2 (.slice (some ⟨G, 0, none⟩) (cs.length + 8) (cs.length + 8)) (cs.length + 8) (Prs (lentC cs))) :
    Calls Tryz.prog 113 #[.slice (some ⟨G, 0, none⟩) cs.length (cs.length + 8), .slice (some ad) cs.length cc] w fun e w' => e = .returned (.bool true) ∧ w.grownBy w' (some G) := by
  have hnil := fun (wy : World) (a : Option Addr) (l c : Nat) => Lib.run_eql_slice_nil (P := Tryz.prog) wy 29 59 a l c 0 0 Tryz.underlying29
  have heq := eql_contig
  have HO : Hid _ := hown
  have HSRC : Hid _ := hsrc
  have HNE : Hid _ := hne
  have hGw : G < w.heap.size := by
    rcases hown.2 with ⟨h, _⟩ | ⟨g, cap, cur, hv, _, hg, _⟩
    · simp at h
    · simp only [Value.slice.injEq, Option.some.injEq, Addr.mk.injEq, and_true, true_and] at hv
      obtain ⟨rfl, _⟩ := hv
      exact (Array.getElem?_eq_some_iff.1 hg).1
  clear hown hsrc hne
  have hcut : (0 : Int) ≤ (cs.length : Int) + 8 := by omega
  go_enter Tryz.func113, Tryz.ntmps113
  go_wp2
  clear hnil
  go_loopw [7, 8] (fun ok i wr => ∃ k : Nat, k ≤ cs.length + 8 ∧ i = .int .i64 (k : Int) ∧ ok = .bool true ∧ wr.ownsRow G 59 2 (.slice (some ⟨G, 0, none⟩) (cs.length + 8) (cs.length + 8)) (cs.length + 8) (Prs (wipedP cs k)) ∧ w.grownBy wr (some G))
    (fun _ i _ => cs.length + 8 - (intOf i).toNat)
  case atStart => exact ⟨0, by omega, rfl, rfl, by rw [wipedP_zero]; exact HO.out, World.grownBy.refl _ _⟩
  case round =>
    obtain ⟨k, hk, rfl, rfl, hown, hgr⟩ := hrel
    by_cases hlt : k < cs.length + 8
    · have hGr : G < wr.heap.size := by have := hgr.size; omega
      have hpp := own_pair hown k (by rw [wipedP_length _ _ (by omega)]; exact hlt)
      have hat := wipedP_at cs k hlt (by rw [wipedP_length _ _ (by omega)]; exact hlt)
      rw [hat] at hpp
      have HOW : Hid _ := hown
      have HGR : Hid _ := hgr
      have hsz := hgr.size
      have f0 := hown.frozenAt (k * 2)
      have f1 := hown.frozenAt (k * 2 + 1)
      have hlt' : (k : Int) < (cs.length : Int) + 8 := by omega
      by_cases hin : k < cs.length
      · have hin' : (k : Int) < (cs.length : Int) := by omega
        rw [lentC_low cs k hin] at hpp
        have p0 := hpp.1
        have p1 := hpp.2
        have hc0 := src_first HSRC.out k hin
        have hc1 := src_pair HSRC.out k hin
        have q0 : wr.cell? (ad.add (k * 2)) = some (.string ⟨cs[k].1.toArray⟩) := hgr.cell hc0 (by
          have e : (ad.add (k * 2)).block = ad.block := by unfold Addr.add; split <;> rfl
          rw [e]; intro h; exact HNE.out (by omega) (Option.some.inj h))
        have q1 : wr.cell? (ad.add (k * 2 + 1)) = some (.string ⟨cs[k].2.toArray⟩) := hgr.cell hc1 (by
          have e : (ad.add (k * 2 + 1)).block = ad.block := by unfold Addr.add; split <;> rfl
          rw [e]; intro h; exact HNE.out (by omega) (Option.some.inj h))
        rw [← addr_next] at q1
        have hadr := World.block_lt_of_cell? wr _ q0
        clear hpp hat hown hgr hc0 hc1
        obtain ⟨y, hy⟩ : ∃ y : Pr, y = cs[k] := ⟨_, rfl⟩
        rw [← hy] at p0 p1 q0 q1
        clear hy
        go_wp2_with fail
        go_quiet (fail)
        go_wp2
        go_roundw
        case rel =>
          have hfin := wipe_one HGR.out HOW.out hlt (grown_new wr (.cells #[.string ⟨y.1.toArray⟩, .string ⟨y.2.toArray⟩] 59) nq)
          exact ⟨k + 1, by omega, by go_num, rfl, hfin.1, hfin.2⟩
        case measure => simp [intOf]; omega
      · have hin' : ¬ (k : Int) < (cs.length : Int) := by omega
        rw [lentC_high cs k (by omega)] at hpp
        have p0 : wr.cell? ⟨G, k * 2, none⟩ = some (.string ⟨#[98, 101, 121, 111, 110, 100]⟩) := hpp.1
        have p1 : wr.cell? ⟨G, k * 2 + 1, none⟩ = some (.string ⟨#[65, 65, 65, 65]⟩) := hpp.2
        clear hpp hat hown hgr
        go_wp2_with fail
        go_quiet (fail)
        go_wp2
        go_roundw
        case rel =>
          have hfin := wipe_one HGR.out HOW.out hlt (grown_new wr (.cells #[.string ⟨#[98, 101, 121, 111, 110, 100]⟩, .string ⟨#[65, 65, 65, 65]⟩] 59) nq)
          exact ⟨k + 1, by omega, by go_num, rfl, hfin.1, hfin.2⟩
        case measure => simp [intOf]; omega
    · have hlt' : ¬ (k : Int) < (cs.length : Int) + 8 := by omega
      have HGR : Hid _ := hgr
      clear hown hgr
      go_wp2
      go_ret
      exact ⟨rfl, HGR.out⟩

end Go.Proofs.YtjebhbopmfcopaaGreatDoor

namespace Go.Proofs.YtjebhbopmfcopaaGreatDoor
open Go.RowKit

/-- the first k of a list's elements marked -/
def mixed (M : List UInt8) (out : List Pr) (k : Nat) : List Pr := List.replicate k (M, []) ++ out.drop k

theorem mixed_zero (M : List UInt8) (out : List Pr) : mixed M out 0 = out := by simp [mixed]
theorem mixed_whole (M : List UInt8) (out : List Pr) (k : Nat) (h : out.length ≤ k) : Prs (mixed M out k) = marks M k := by
  rw [mixed, List.drop_of_length_le h, List.append_nil]; rfl
theorem mixed_length (M : List UInt8) (out : List Pr) (k : Nat) (h : k ≤ out.length) : (mixed M out k).length = out.length := by simp [mixed]; omega
theorem mixed_set (M : List UInt8) (out : List Pr) (k : Nat) (h : k < out.length) :
    ((Prs (mixed M out k)).set (k * 2) (.string ⟨M.toArray⟩)).set (k * 2 + 1) (.string ⟨#[]⟩) = Prs (mixed M out (k + 1)) := by
  have hl : (Prs (List.replicate k (M, ([] : List UInt8)))).length = k * 2 := by rw [Prs_length, List.length_replicate]
  rw [mixed, mixed, Prs_append, Prs_append, List.replicate_succ', Prs_append, List.append_assoc]
  rw [List.set_append, if_neg (by omega), hl, Nat.sub_self, List.set_append, if_neg (by omega), hl, show k * 2 + 1 - k * 2 = 1 by omega]
  congr 1
  rw [List.drop_eq_getElem_cons h]
  simp only [Prs, List.flatMap_cons, List.flatMap_nil, prCells, List.cons_append, List.nil_append, List.append_nil, List.set_cons_zero, List.set_cons_succ]

/-- how it stands while a list is written into the book: the World's block, the book's list of lists, the lists that are marked, and what else is as it was -/
structure KSt (w : World) (g B0 : Nat) (lv xv vr vp vq : Value) (M : List UInt8) (X : World) (vc : Value) (N : Nat) (es : List Value) (ms : List (Value × Nat)) : Prop where
  world : X.heap[g]? = some (.cells #[lv, xv, vc, vr, vp, vq] 68 (0, 0))
  list : X.ownsRow (g + 1) 29 1 vc N es
  mark : ∀ p ∈ ms, X.ownsRow (g + 1) 59 2 p.1 p.2 (marks M p.2)
  below : Below g w X
  pres : ∀ e s v n xs, e ≠ 29 → (∀ k, v.ownBlock = some k → k < B0) → w.ownsRow (g + 1) e s v n xs → X.ownsRow (g + 1) e s v n xs

theorem below_grown {g : Nat} {w wr w3 : World} {lb : Option Nat} (h : Below g w wr) (hg : g ≤ wr.heap.size) (hgr : wr.grownBy w3 lb) (hlb : ∀ k, lb = some k → g ≤ k) : Below g w w3 := h.grown hgr hg hlb

theorem KSt.marked {w wr w3 : World} {g B0 N L : Nat} {lv xv vr vp vq vc l v1 : Value} {M : List UInt8} {es : List Value} {ms : List (Value × Nat)} (h : KSt w g B0 lv xv vr vp vq M wr vc L es ms) {n : Nat} {xs : List Value}
    (hl : wr.ownsRow B0 59 2 l n xs) (hB : g + 1 ≤ B0) (hgr : wr.grownBy w3 l.ownBlock) (hst : ∀ v0 n0, n0 ≤ N → wr.ownsRow (g + 1) 59 2 v0 n0 (marks M n0) → w3.ownsRow (g + 1) 59 2 v0 n0 (marks M n0))
    (hms : ∀ p ∈ ms, p.2 ≤ N) (hv1 : w3.ownsRow (g + 1) 59 2 v1 N (marks M N)) : KSt w g B0 lv xv vr vp vq M w3 vc L es (ms ++ [(v1, N)]) := by
  have hgl : g < wr.heap.size := (Array.getElem?_eq_some_iff.1 h.world).1
  have hlb : ∀ k, l.ownBlock = some k → B0 ≤ k := fun k hk => (hl.lt k hk).1
  refine ⟨?_, own_keep h.list hl (by decide) hgr.block, ?_, h.below.grown hgr (by omega) (fun k hk => by have := hlb k hk; omega), fun e s v n' xs' he hk hv => ?_⟩
  · rw [hgr.block g hgl (by intro hh; have := hlb g hh.symm; omega)]
    exact h.world
  · intro p hp
    rcases List.mem_append.1 hp with hp | hp
    · exact hst p.1 p.2 (hms p hp) (h.mark p hp)
    · obtain rfl := List.mem_singleton.1 hp
      exact hv1
  · refine (h.pres e s v n' xs' he hk hv).kept hgr ?_
    cases hq : v.ownBlock with
    | none => exact .inl rfl
    | some q =>
      right
      intro hh
      have h1 := hlb q hh.symm
      have h2 := hk q hq
      omega

theorem KSt.listed {w X X2 : World} {g B0 L : Nat} {lv xv vr vp vq vc v2 x : Value} {M : List UInt8} {es : List Value} {ms : List (Value × Nat)} (h : KSt w g B0 lv xv vr vp vq M X vc L es ms)
    (hv : X2.ownsRow (g + 1) 29 1 v2 (L + 1) (es ++ [x])) (hbel : Below (g + 1) X X2) (hkeep : ∀ k, k < X.heap.size → some k ≠ vc.ownBlock → X2.heap[k]? = X.heap[k]?) :
    KSt w g B0 lv xv vr vp vq M (X2.setCell ⟨g, 2, none⟩ v2) v2 (L + 1) (es ++ [x]) ms := by
  have hgl : g < X.heap.size := (Array.getElem?_eq_some_iff.1 h.world).1
  have hgX2 : X2.heap[g]? = some (.cells #[lv, xv, vc, vr, vp, vq] 68 (0, 0)) := (hbel.block g (by omega)).trans h.world
  refine ⟨heap_setCell_same X2 g 2 _ _ v2 hgX2, ?_, ?_, (h.below.trans (hbel.mono (by omega))).setCell (p := ⟨g, 2, none⟩) (Nat.le_refl _) v2, ?_⟩
  · exact ownsRow_setCell_below hv (a := ⟨g, 2, none⟩) (by simp) v2
  · intro p hp
    exact ownsRow_setCell_below (own_keep (h.mark p hp) h.list (by decide) hkeep) (a := ⟨g, 2, none⟩) (by simp) v2
  · intro e s v n' xs' he hk hv'
    exact ownsRow_setCell_below (own_keep (h.pres e s v n' xs' he hk hv') h.list he hkeep) (a := ⟨g, 2, none⟩) (by simp) v2

/-- an append of one element more never doubles a long row -/
theorem next_one (n : Nat) : Builtin.nextslicecap (n + 1) n ≤ n + (n + 768) / 4 + 1 := by
  unfold Builtin.nextslicecap
  split
  · omega
  · split
    · omega
    · simp only [Builtin.growBy]
      rw [if_neg (by omega), if_pos (by omega)]
      omega

/-- 'own = append(own, x)': one element more, as far as the model bears it -/
theorem app_own_one {w : World} {ops : Array Oper} {rest : List Oper} {o : Oper} {a : Act} {Q : Exit → Act → World → Prop} (hgd : o.guard = none) (s x : Operand) (t : TypeId)
    (ho : o.op = .call { callee := .builtin .append, args := #[s, x], argTypes := #[t, t] })
    (base : Nat) (e : TypeId) (z : Value) (ht : Tryz.prog.underlying t = some (.slice e)) (hinfo : (Tryz.prog.info? e).map (fun i => (i.zero, i.size, i.bytes)) = some (some z, 1, 24)) (hzs : z.cells.size = 1)
    (v : Value) (n : Nat) (xs : List Value) (hs : a.eval s = v) (hown : w.ownsRow base e 1 v n xs) (ad : Addr) (c : Nat) (y : Value) (hx : a.eval x = .slice (some ad) 1 c) (hy : w.cell? ad = some y) (hone : y.oneCell' = true)
    (hbase : base ≤ w.heap.size) (hlen : n ≤ 7000000000000)
    (h : ∀ v' w', w'.ownsRow base e 1 v' (n + 1) (xs ++ [y]) → w.grownBy w' v.ownBlock → wpList Tryz.prog ops Q rest (a.put o.dst v') w') :
    wpList Tryz.prog ops Q (o :: rest) a w := by
  obtain ⟨i0, hi, hz0, hz1, hz2⟩ := info_parts hinfo
  have hnews : ∀ j u, [y][j]? = some u → w.cell? (ad.add j) = some u := by
    intro j u hj
    match j, hj with
    | 0, hj =>
      simp at hj
      subst hj
      obtain ⟨b, off, k⟩ := ad
      simpa [Addr.add] using hy
  have h1 : ∀ u ∈ [y], u.oneCell' = true := by intro u hu; simp at hu; subst hu; exact hone
  by_cases hbig : n ≤ 1000000000
  · exact wpList_append_own _ hgd s x t ho base e i0 z 1 24 ht hi hz0 hz1 hz2 hzs (by decide) v n xs hs hown ad 1 c [y] hx rfl hnews h1 (by unfold maxLen; omega) (by omega) hbase (fun v' w' g1 g2 _ => h v' w' g1 g2)
  · rcases hown.2 with ⟨_, h0⟩ | ⟨g, cap, cur, hv, hb, hg, hnc, hcm, hcs, htk⟩
    · omega
    · subst hv
      by_cases hroom : n + 1 ≤ cap
      · exact wpList_append_fits _ hgd s x t ho base e i0 1 ht hi hz1 g n cap xs hs hown ad 1 c [y] hx rfl hnews h1 hroom (fun w' g1 g2 => h _ w' g1 g2)
      · have hcap : cap = n := by omega
        subst hcap
        have hxl : xs.length = cap * 1 := hown.1
        have hr := run_append_grow (P := Tryz.prog) w t o.type e i0 z ht hi hz0 ⟨g, 0, none⟩ cap cap xs (by rw [hz1]; exact hxl) (fun j u hj => hown.cells rfl j u hj) ad 1 c [y] (by rw [hz1]; rfl) hnews (by omega) (by omega)
          (by rw [hz2]; have := next_one cap; omega)
        have hge := grownCap_ge w (cap + 1) cap e
        have hcm' := grownCap_le_maxLen w (cap + 1) cap e (by unfold maxLen; omega)
        refine wpList_plain hgd fun K hK => ?_
        unfold Oper.wp
        simp [execOp, ho, resolve, invoke, builtin, hs, hx, hr, Result.andThen]
        refine hK _ _ (h _ _ ⟨by simp [hxl], .inr ⟨w.heap.size, _, _, rfl, hbase, heap_alloc_new w.drew _, hge, hcm', ?_, ?_⟩⟩ ⟨rfl, rfl, rfl, by simp, fun k hk _ => Below.heap_alloc w.drew _ k hk⟩)
        · have e1 : (xs ++ [y]).length = cap + 1 := by simp; omega
          simp only [Array.size_append, List.size_toArray, size_zeroCells, hzs, e1]
          omega
        · have e1 : xs.length = cap := by omega
          have e2 : (cap + 1) * 1 = (xs ++ [y]).length := by simp [e1]
          rw [e2]
          simp only [Array.toList_append]
          exact List.take_left

/-- 'k.contigs = append(k.contigs, x)': the append -/
theorem app_list {w : World} {ops : Array Oper} {rest : List Oper} {o : Oper} {a : Act} {Q : Exit → Act → World → Prop} (hgd : o.guard = none) (s x : Operand)
    (ho : o.op = .call { callee := .builtin .append, args := #[s, x], argTypes := #[22, 22] })
    (base : Nat) (vc : Value) (L : Nat) (es : List Value) (y : Value) (hs : a.eval s = vc) (z : Nat) (hx : a.eval x = .slice (some ⟨z, 0, none⟩) 1 1) (hz : w.heap.size = z) (hown : w.ownsRow base 29 1 vc L es) (hbase : base ≤ w.heap.size) (hone : y.oneCell' = true) (hlen : L ≤ 7000000000000)
    (h : ∀ v' w', w'.ownsRow base 29 1 v' (L + 1) (es ++ [y]) → Below base w w' → (∀ k, k < w.heap.size → some k ≠ vc.ownBlock → w'.heap[k]? = w.heap[k]?) → wpList Tryz.prog ops Q rest (a.put o.dst v') w') :
    wpList Tryz.prog ops Q (o :: rest) a (w.alloc (.cells #[y] 29)) := by
  subst hz
  refine app_own_one hgd s x 22 ho base 29 (.slice none 0 0) Tryz.underlying22 Tryz.infoConts rfl vc L es hs (hown.alloc _) ⟨w.heap.size, 0, none⟩ 1 y hx (by simp) hone (by simp; omega) (by omega) ?_
  intro v' w' h1 h2
  refine h v' w' h1 (((Below.refl _ _).alloc hbase _).grown h2 (by simp; omega) (fun k hk => (hown.lt k hk).1)) (fun k hk hn => ?_)
  rw [h2.block k (by simp; omega) hn, Below.heap_alloc _ _ _ hk]

theorem own_raise {w : World} {b b' e size n : Nat} {v : Value} {xs : List Value} (h : w.ownsRow b e size v n xs) (hb : ∀ k, v.ownBlock = some k → b' ≤ k) : w.ownsRow b' e size v n xs := by
  refine ⟨h.1, ?_⟩
  rcases h.2 with h0 | ⟨g, cap, cur, rfl, h1, h2⟩
  · exact .inl h0
  · exact .inr ⟨g, cap, cur, rfl, hb g rfl, h2⟩

set_option maxRecDepth 100000 in
set_option maxHeartbeats 8000000 in
theorem keepsContigs_any (w : World) (g : Nat) (lv xv vc vr vp vq : Value) (ents : List Value) (l : Value) (out : List Pr) (B0 : Nat)
    (hW : w.heap[g]? = some (.cells #[lv, xv, vc, vr, vp, vq] 68 (0, 0))) (hvc : w.ownsRow (g + 1) 29 1 vc ents.length ents) (hel : ents.length + 4 ≤ 7000000000000)
    (hl : w.ownsRow B0 59 2 l out.length (Prs out)) (hB0 : g + 1 ≤ B0) (ho : out.length ≤ 1000) :
    Calls Tryz.prog 95 #[.pointer (some ⟨g, 2, none⟩), l] w fun e w' => e = .returned (.tuple #[]) ∧
      ∃ vc' v1 v2 v3, w'.heap[g]? = some (.cells #[lv, xv, vc', vr, vp, vq] 68 (0, 0)) ∧ w'.ownsRow (g + 1) 29 1 vc' (ents.length + 4) (ents ++ [l, v1, v2, v3]) ∧
        w'.ownsRow (g + 1) 59 2 l out.length (marks (mk ents.length) out.length) ∧ w'.ownsRow (g + 1) 59 2 v1 (out.length + 1) (marks (mk ents.length) (out.length + 1)) ∧
        w'.ownsRow (g + 1) 59 2 v2 (out.length + 2) (marks (mk ents.length) (out.length + 2)) ∧ w'.ownsRow (g + 1) 59 2 v3 (out.length + 3) (marks (mk ents.length) (out.length + 3)) ∧
        Below g w w' ∧ ∀ e s v n xs, e ≠ 29 → (∀ k, v.ownBlock = some k → k < B0) → w.ownsRow (g + 1) e s v n xs → w'.ownsRow (g + 1) e s v n xs := by
  have hgw : g < w.heap.size := (Array.getElem?_eq_some_iff.1 hW).1
  obtain ⟨M, hM⟩ : ∃ M, M = mk ents.length := ⟨_, rfl⟩
  have HM : Hid _ := hM
  rw [← hM]
  clear hM
  obtain ⟨ca, ccap, hvcf⟩ := own_form hvc
  obtain ⟨la, lcap, hlf⟩ := own_form hl
  subst hvcf hlf
  have c2 : w.cell? ⟨g, 2, none⟩ = some (.slice ca ents.length ccap) := cell_of_row w g 2 _ _ _ hW
  have HW : Hid _ := hW
  have HVC : Hid _ := hvc
  have HL : Hid _ := hl
  clear hW hvc hl
  go_enter Tryz.func95, Tryz.ntmps95
  go_wp2_with fail
  refine (mark_any ents.length _ (by omega)).mono ?_
  rintro e w1 ⟨rfl, hb1⟩
  rw [← HM.out]
  go_wp2
  have hbw : Below w1.heap.size w1 (w1.alloc (Obj.cells #[Value.string { data := M.toArray }, Value.string { data := #[] }] 59)) := (Below.refl _ _).alloc (Nat.le_refl _) _
  have hmb : (w1.alloc (Obj.cells #[Value.string { data := M.toArray }, Value.string { data := #[] }] 59)).heap[w1.heap.size]? = some (Obj.cells #[Value.string { data := M.toArray }, Value.string { data := #[] }] 59) := heap_alloc_new w1 _
  have hgm := hb1.size
  have hb2 := hb1.trans (hbw.mono hgm)
  generalize (w1.alloc (Obj.cells #[Value.string { data := M.toArray }, Value.string { data := #[] }] 59)) = W2 at *
  generalize w1.heap.size = gm at *
  have hgm2 : gm < W2.heap.size := (Array.getElem?_eq_some_iff.1 hmb).1
  have HMB : Hid _ := hmb
  have HL2 : Hid _ := own_below HL.out hb2
  have HVC2 : Hid _ := own_below HVC.out hb2
  have HW2 : Hid (W2.heap[g]? = some (.cells #[lv, xv, .slice ca ents.length ccap, vr, vp, vq] 68 (0, 0))) := (hb2.block g hgw).trans HW.out
  clear hbw hmb hb1 c2
  have HLB : Hid (∀ k, (Value.slice la out.length lcap).ownBlock = some k → B0 ≤ k ∧ k < w.heap.size) := World.ownsRow.lt HL.out
  go_loopw [5] (fun i wr => ∃ k : Nat, k ≤ out.length ∧ i = .int .i64 (k : Int) ∧ wr.ownsRow B0 59 2 (.slice la out.length lcap) out.length (Prs (mixed M out k)) ∧ W2.grownBy wr (Value.slice la out.length lcap).ownBlock)
    (fun i _ => out.length - (intOf i).toNat)
  case atStart => exact ⟨0, by omega, rfl, by rw [mixed_zero]; exact HL2.out, World.grownBy.refl _ _⟩
  case round =>
    clear HL2
    obtain ⟨k, hk, rfl, hown, hgr⟩ := hrel
    by_cases hlt : k < out.length
    · obtain ⟨g1, hg1⟩ : ∃ g1, la = some ⟨g1, 0, none⟩ := by
        rcases hown.2 with ⟨_, h0⟩ | ⟨g1, cap, cur, hv, _⟩
        · omega
        · simp only [Value.slice.injEq] at hv
          exact ⟨g1, hv.1⟩
      subst hg1
      have hg1b := HLB.out g1 rfl
      have hmb : wr.heap[gm]? = some (Obj.cells #[Value.string { data := M.toArray }, Value.string { data := #[] }] 59) := (hgr.block gm hgm2 (by simp [Value.ownBlock]; omega)).trans HMB.out
      have m0 : wr.cell? ⟨gm, 0, none⟩ = some (.string ⟨M.toArray⟩) := cell_of_row wr gm 0 _ _ _ hmb
      have m1 : wr.cell? ⟨gm, 1, none⟩ = some (.string ⟨#[]⟩) := cell_of_row wr gm 1 _ _ _ hmb
      have hpr := own_pair hown k (by rw [mixed_length _ _ _ hk]; exact hlt)
      obtain ⟨p0, p1⟩ := hpr
      have f0 := hown.frozenAt (k * 2)
      have f1 := hown.frozenAt (k * 2 + 1)
      have hs1 := hown.stored (k * 2) (.string ⟨M.toArray⟩)
      have hs2 := hs1.1.stored (k * 2 + 1) (.string ⟨#[]⟩)
      rw [mixed_set M out k hlt] at hs2
      have HS : Hid _ := hs2.1
      have HG : Hid _ := grown_trans (grown_trans hgr hs1.2) hs2.2
      clear hs1 hs2 hown hgr hmb
      have hlt' : (k : Int) < (out.length : Int) := by omega
      go_wp2
      go_roundw
      case rel => exact ⟨k + 1, by omega, by go_num, HS.out, HG.out⟩
      case measure => simp [intOf]; omega
    · have hke : k = out.length := by omega
      have hownB : wr.ownsRow B0 59 2 (.slice la out.length lcap) out.length (marks M out.length) := by
        have := hown
        rw [hke, mixed_whole _ _ _ (Nat.le_refl _)] at this
        exact this
      have hlt' : ¬ (k : Int) < (out.length : Int) := by omega
      have hgs := hgr.size
      have hlb : ∀ q, (Value.slice la out.length lcap).ownBlock = some q → B0 ≤ q := fun q hq => (HLB.out q hq).1
      have K0 : KSt w g B0 lv xv vr vp vq M wr (.slice ca ents.length ccap) ents.length ents [(.slice la out.length lcap, out.length)] := by
        refine ⟨?_, own_keep HVC2.out (own_below HL.out hb2) (by decide) hgr.block, ?_, (hb2.mono (by omega)).grown hgr (by omega) (fun q hq => by have := hlb q hq; omega), ?_⟩
        · rw [hgr.block g (by omega) (by intro hh; have := hlb g hh.symm; omega)]
          exact HW2.out
        · intro p hp
          obtain rfl := List.mem_singleton.1 hp
          exact own_base hownB hB0
        · intro e s v n' xs' he hkq hv
          refine (own_below hv hb2).kept hgr ?_
          cases hq : v.ownBlock with
          | none => exact .inl rfl
          | some q =>
            right
            intro hh
            have h1 := hlb q hh.symm
            have h2 := hkq q hq
            omega
      have hmb : wr.heap[gm]? = some (Obj.cells #[Value.string { data := M.toArray }, Value.string { data := #[] }] 59) := (hgr.block gm hgm2 (by intro h; have := HLB.out gm h.symm; omega)).trans HMB.out
      have m0 : wr.cell? ⟨gm, 0, none⟩ = some (.string ⟨M.toArray⟩) := cell_of_row wr gm 0 _ _ _ hmb
      have m1 : wr.cell? ⟨gm, 1, none⟩ = some (.string ⟨#[]⟩) := cell_of_row wr gm 1 _ _ _ hmb
      have HMB0 : Hid _ := hmb
      have hgwr : gm < wr.heap.size := by omega
      have hg1wr : g + 1 ≤ wr.heap.size := by omega
      clear hown hke hmb HVC2 HW2 HMB HW HVC hgr
      go_wp2_with (first
      | (at_builtin; refine app_marks rfl (.tmp 26) (.tmp 28) 29 rfl (g + 1) 59 Tryz.underlying29 Tryz.infoContig (Value.slice la out.length lcap) out.length 1 M _ rfl rfl rfl (by exact K0.mark _ (List.mem_cons_self ..)) (by omega) (by omega) (by decide) ?_; intro v1 w3 hv1 hst1 hgr1; obtain ⟨a1, cp1, hf1⟩ := own_form hv1; subst hf1; have hsz1 := hgr1.size; have K1 := K0.marked (own_raise (K0.mark _ (List.mem_cons_self ..)) hlb) hB0 hgr1 hst1 (by intro p hp; simp at hp; subst hp; simp) hv1; have hmb1 : w3.heap[gm]? = some (Obj.cells #[Value.string { data := M.toArray }, Value.string { data := #[] }] 59) := (hgr1.block gm (by omega) (by intro h; have := HLB.out gm h.symm; omega)).trans HMB0.out; have mm1 : w3.cell? ⟨gm, 0, none⟩ = some (.string ⟨M.toArray⟩) := cell_of_row w3 gm 0 _ _ _ hmb1; have mn1 : w3.cell? ⟨gm, 1, none⟩ = some (.string ⟨#[]⟩) := cell_of_row w3 gm 1 _ _ _ hmb1; have HMB1 : Hid _ := hmb1; clear hmb1 hst1 hgr1 hv1)
      | (at_builtin; refine app_marks rfl (.tmp 30) (.tmp 33) 29 rfl (g + 1) 59 Tryz.underlying29 Tryz.infoContig (Value.slice la out.length lcap) out.length 2 M _ rfl rfl rfl (by exact K1.mark _ (List.mem_cons_self ..)) (by omega) (by omega) (by decide) ?_; intro v2 w4 hv2 hst2 hgr2; obtain ⟨a2, cp2, hf2⟩ := own_form hv2; subst hf2; have hsz2 := hgr2.size; have K2 := K1.marked (own_raise (K1.mark _ (List.mem_cons_self ..)) hlb) hB0 hgr2 hst2 (by intro p hp; simp at hp; rcases hp with rfl | rfl <;> simp) hv2; have hmb2 : w4.heap[gm]? = some (Obj.cells #[Value.string { data := M.toArray }, Value.string { data := #[] }] 59) := (hgr2.block gm (by omega) (by intro h; have := HLB.out gm h.symm; omega)).trans HMB1.out; have mm2 : w4.cell? ⟨gm, 0, none⟩ = some (.string ⟨M.toArray⟩) := cell_of_row w4 gm 0 _ _ _ hmb2; have mn2 : w4.cell? ⟨gm, 1, none⟩ = some (.string ⟨#[]⟩) := cell_of_row w4 gm 1 _ _ _ hmb2; have HMB2 : Hid _ := hmb2; clear hmb2 hst2 hgr2 hv2)
      | (at_builtin; refine app_marks rfl (.tmp 35) (.tmp 39) 29 rfl (g + 1) 59 Tryz.underlying29 Tryz.infoContig (Value.slice la out.length lcap) out.length 3 M _ rfl rfl rfl (by exact K2.mark _ (List.mem_cons_self ..)) (by omega) (by omega) (by decide) ?_; intro v3 w5 hv3 hst3 hgr3; obtain ⟨a3, cp3, hf3⟩ := own_form hv3; subst hf3; have hsz3 := hgr3.size; have K3 := K2.marked (own_raise (K2.mark _ (List.mem_cons_self ..)) hlb) hB0 hgr3 hst3 (by intro p hp; simp at hp; rcases hp with rfl | rfl | rfl <;> simp) hv3; have hmb3 : w5.heap[gm]? = some (Obj.cells #[Value.string { data := M.toArray }, Value.string { data := #[] }] 59) := (hgr3.block gm (by omega) (by intro h; have := HLB.out gm h.symm; omega)).trans HMB2.out; have mm3 : w5.cell? ⟨gm, 0, none⟩ = some (.string ⟨M.toArray⟩) := cell_of_row w5 gm 0 _ _ _ hmb3; have mn3 : w5.cell? ⟨gm, 1, none⟩ = some (.string ⟨#[]⟩) := cell_of_row w5 gm 1 _ _ _ hmb3; have HMB3 : Hid _ := hmb3; clear hmb3 hst3 hgr3 hv3; have cc3 : w5.cell? ⟨g, 2, none⟩ = some (.slice ca ents.length ccap) := cell_of_row w5 g 2 _ _ _ K3.world)
      | (at_builtin; refine app_list rfl (.tmp 45) (.tmp 47) rfl (g + 1) (.slice ca ents.length ccap) ents.length (ents) (Value.slice la out.length lcap) (by rfl) _ (by rfl) (by first | rfl | simp [World.setCell]) (by exact K3.list) (Array.getElem?_eq_some_iff.1 K3.world).1 rfl (by omega) ?_; intro u4 w6 hu4 hb4 hk4; obtain ⟨b4, bc4, hq4⟩ := own_form hu4; subst hq4; have K4 := K3.listed hu4 hb4 hk4; have hwb4 := (hb4.block g (by omega)).trans K3.world; have cw4 : w6.cell? ⟨g, 2, none⟩ = some (.slice ca ents.length ccap) := cell_of_row w6 g 2 _ _ _ hwb4; have fw4 : w6.frozen? ⟨g, 2, none⟩ = false := frozen_of_row w6 g 2 _ _ hwb4; have hsl4 := hb4.size; have HWB4 : Hid _ := hwb4; clear hwb4 hu4 hb4 hk4)
      | (at_builtin; refine app_list rfl (.tmp 55) (.tmp 57) rfl (g + 1) (.slice b4 (ents.length + 1) bc4) (ents.length + 1) (ents ++ [(Value.slice la out.length lcap)]) (.slice a1 (out.length + 1) cp1) (by rfl) _ (by rfl) (by first | rfl | simp [World.setCell]) (by exact K4.list) (Array.getElem?_eq_some_iff.1 K4.world).1 rfl (by omega) ?_; intro u5 w7 hu5 hb5 hk5; obtain ⟨b5, bc5, hq5⟩ := own_form hu5; subst hq5; have K5 := K4.listed hu5 hb5 hk5; have hwb5 := (hb5.block g (by omega)).trans K4.world; have cw5 : w7.cell? ⟨g, 2, none⟩ = some (.slice b4 (ents.length + 1) bc4) := cell_of_row w7 g 2 _ _ _ hwb5; have fw5 : w7.frozen? ⟨g, 2, none⟩ = false := frozen_of_row w7 g 2 _ _ hwb5; have hsl5 := hb5.size; have HWB5 : Hid _ := hwb5; clear hwb5 hu5 hb5 hk5)
      | (at_builtin; refine app_list rfl (.tmp 65) (.tmp 67) rfl (g + 1) (.slice b5 (ents.length + 1 + 1) bc5) (ents.length + 1 + 1) (ents ++ [(Value.slice la out.length lcap)] ++ [(.slice a1 (out.length + 1) cp1)]) (.slice a2 (out.length + 2) cp2) (by rfl) _ (by rfl) (by first | rfl | simp [World.setCell]) (by exact K5.list) (Array.getElem?_eq_some_iff.1 K5.world).1 rfl (by omega) ?_; intro u6 w8 hu6 hb6 hk6; obtain ⟨b6, bc6, hq6⟩ := own_form hu6; subst hq6; have K6 := K5.listed hu6 hb6 hk6; have hwb6 := (hb6.block g (by omega)).trans K5.world; have cw6 : w8.cell? ⟨g, 2, none⟩ = some (.slice b5 (ents.length + 1 + 1) bc5) := cell_of_row w8 g 2 _ _ _ hwb6; have fw6 : w8.frozen? ⟨g, 2, none⟩ = false := frozen_of_row w8 g 2 _ _ hwb6; have hsl6 := hb6.size; have HWB6 : Hid _ := hwb6; clear hwb6 hu6 hb6 hk6)
      | (at_builtin; refine app_list rfl (.tmp 75) (.tmp 77) rfl (g + 1) (.slice b6 (ents.length + 1 + 1 + 1) bc6) (ents.length + 1 + 1 + 1) (ents ++ [(Value.slice la out.length lcap)] ++ [(.slice a1 (out.length + 1) cp1)] ++ [(.slice a2 (out.length + 2) cp2)]) (.slice a3 (out.length + 3) cp3) (by rfl) _ (by rfl) (by first | rfl | simp [World.setCell]) (by exact K6.list) (Array.getElem?_eq_some_iff.1 K6.world).1 rfl (by omega) ?_; intro u7 w9 hu7 hb7 hk7; obtain ⟨b7, bc7, hq7⟩ := own_form hu7; subst hq7; have K7 := K6.listed hu7 hb7 hk7; have hwb7 := (hb7.block g (by omega)).trans K6.world; have cw7 : w9.cell? ⟨g, 2, none⟩ = some (.slice b6 (ents.length + 1 + 1 + 1) bc6) := cell_of_row w9 g 2 _ _ _ hwb7; have fw7 : w9.frozen? ⟨g, 2, none⟩ = false := frozen_of_row w9 g 2 _ _ hwb7; have hsl7 := hb7.size; have HWB7 : Hid _ := hwb7; clear hwb7 hu7 hb7 hk7))
      go_end0
      refine ⟨rfl, _, K7.world, .slice a1 (out.length + 1) cp1, .slice a2 (out.length + 2) cp2, .slice a3 (out.length + 3) cp3, ?_, K7.mark (_, _) (by simp), K7.mark (_, _) (by simp), K7.mark (_, _) (by simp), K7.mark (_, _) (by simp), K7.below, K7.pres⟩
      have := K7.list
      simp only [List.append_assoc, List.cons_append, List.nil_append] at this
      exact this

end Go.Proofs.YtjebhbopmfcopaaGreatDoor
