/-
  TWO STRUCTS OF TWO TEXTS, held against each other. Own text of the verifier.
  CONTIGS THAT ARE HANDED IN: with spare room, laid by the statement itself, and looked at again behind the call. Own text of the verifier.
  THE WALKS of 'lentContigs' and 'wholeContigs'. Own text of the verifier.
  THE WALK of 'wholeContigs'. Own text of the verifier.
  RECORDS THAT ARE HANDED IN: with spare room, laid by the statement itself, and looked at again behind the call. Own text of the verifier.
-/
import Derived.Test.YtfcbgfomhmcikaaGreatDoorBun3
import Derived.Laws.StructEq
import Derived.Test.YtfcbgfomhmcikaaGreatDoorBun9
import Derived.Test.YtfcbgfomhmcikaaGreatDoorBun10
import Derived.BigQuiet
import Derived.Test.YtfcbgfomhmcikaaGreatDoorXLnRender
namespace Go.Proofs.YtfcbgfomhmcikaaGreatDoor
open Go.RowKit

theorem eq_contig (a b : ByteArray) (w : World) : (Op.equalIn 10000 29 (.agg #[.string a, .string b]) (.agg #[.string a, .string b])).run Tryz.prog w = .ok true w := by
  simp [go_sem, Tryz.underlying29, Tryz.underlying9]
theorem eq_read (a b : ByteArray) (w : World) : (Op.equalIn 10000 63 (.agg #[.string a, .string b]) (.agg #[.string a, .string b])).run Tryz.prog w = .ok true w := by
  simp [go_sem, Tryz.underlying63, Tryz.underlying9]

theorem neq_contig (a b : ByteArray) (w : World) : (binOp .neq 29 (.agg #[.string a, .string b]) (.agg #[.string a, .string b])).run Tryz.prog w = .ok (.bool false) w := by
  rw [run_neq_struct, eq_contig]; rfl
theorem neq_read (a b : ByteArray) (w : World) : (binOp .neq 63 (.agg #[.string a, .string b]) (.agg #[.string a, .string b])).run Tryz.prog w = .ok (.bool false) w := by
  rw [run_neq_struct, eq_read]; rfl
theorem eql_contig (a b : ByteArray) (w : World) : (binOp .eql 29 (.agg #[.string a, .string b]) (.agg #[.string a, .string b])).run Tryz.prog w = .ok (.bool true) w := by
  rw [run_eql_struct, eq_contig]; rfl
theorem eql_read (a b : ByteArray) (w : World) : (binOp .eql 63 (.agg #[.string a, .string b]) (.agg #[.string a, .string b])).run Tryz.prog w = .ok (.bool true) w := by
  rw [run_eql_struct, eq_read]; rfl

end Go.Proofs.YtfcbgfomhmcikaaGreatDoor

namespace Go.Proofs.YtfcbgfomhmcikaaGreatDoor
open Go.RowKit

/-- what lies behind them; what the caller writes over them -/
def beC : Pr := ([98, 101, 121, 111, 110, 100], [65, 65, 65, 65])
def otC : Pr := ([111, 116, 104, 101, 114], [67, 71])
def lentC (cs : List Pr) : List Pr := cs ++ List.replicate 8 beC

theorem lentC_length (cs : List Pr) : (lentC cs).length = cs.length + 8 := by simp [lentC]
theorem lentC_low (cs : List Pr) (k : Nat) (h1 : k < cs.length) (h : k < (lentC cs).length) : (lentC cs)[k] = cs[k] := by simp only [lentC, List.getElem_append_left h1]
theorem lentC_high (cs : List Pr) (k : Nat) (h1 : cs.length ≤ k) (h : k < (lentC cs).length) : (lentC cs)[k] = beC := by
  simp only [lentC, List.getElem_append_right h1, List.getElem_replicate]

theorem Prs_cons (o : Pr) (l : List Pr) : Prs (o :: l) = .string ⟨o.1.toArray⟩ :: .string ⟨o.2.toArray⟩ :: Prs l := rfl
theorem Prs_set (l : List Pr) (k : Nat) (h : k < l.length) (x : Pr) : ((Prs l).set (k * 2) (.string ⟨x.1.toArray⟩)).set (k * 2 + 1) (.string ⟨x.2.toArray⟩) = Prs (l.set k x) := by
  induction l generalizing k with
  | nil => simp at h
  | cons o l ih =>
    cases k with
    | zero => simp [Prs_cons]
    | succ k =>
      rw [Prs_cons, show (k + 1) * 2 = k * 2 + 1 + 1 by omega, List.set_cons_succ, List.set_cons_succ, List.set_cons_succ, List.set_cons_succ, List.set_cons_succ, Prs_cons, ih k (by simpa using h)]

/-- while they are laid: the first k, then empty ones -/
def filledP (l : List Pr) (n k : Nat) : List Pr := l.take k ++ List.replicate (n - k) ([], [])
theorem filledP_length (l : List Pr) (n k : Nat) (h : l.length = n) (hk : k ≤ n) : (filledP l n k).length = n := by simp [filledP]; omega
theorem filledP_whole (l : List Pr) (n : Nat) (h : l.length = n) : filledP l n n = l := by simp [filledP, ← h]
theorem filledP_set (l : List Pr) (n k : Nat) (h : l.length = n) (hk : k < n) : (filledP l n k).set k (l[k]'(by omega)) = filledP l n (k + 1) := by
  unfold filledP
  have h1 : (l.take k).length = k := by rw [List.length_take]; omega
  rw [List.set_append, if_neg (by omega), h1, Nat.sub_self, List.take_succ_eq_append_getElem (by omega)]
  obtain ⟨m, hm⟩ : ∃ m, n - k = m + 1 := ⟨n - k - 1, by omega⟩
  rw [hm, show n - (k + 1) = m by omega, List.replicate_succ, List.set_cons_zero, List.append_assoc, List.singleton_append]

/-- while they are looked at: the first k written over -/
def wipedP (cs : List Pr) (k : Nat) : List Pr := List.replicate k otC ++ (lentC cs).drop k
theorem wipedP_zero (cs : List Pr) : wipedP cs 0 = lentC cs := by simp [wipedP]
theorem wipedP_length (cs : List Pr) (k : Nat) (h : k ≤ cs.length + 8) : (wipedP cs k).length = cs.length + 8 := by simp [wipedP, lentC_length]; omega
theorem wipedP_at (cs : List Pr) (k : Nat) (h : k < cs.length + 8) (h2 : k < (wipedP cs k).length) : (wipedP cs k)[k] = (lentC cs)[k]'(by rw [lentC_length]; exact h) := by
  simp only [wipedP]
  rw [List.getElem_append_right (by simp)]
  simp
theorem wipedP_set (cs : List Pr) (k : Nat) (h : k < cs.length + 8) : (wipedP cs k).set k otC = wipedP cs (k + 1) := by
  rw [wipedP, wipedP, List.set_append, if_neg (by simp), List.length_replicate, Nat.sub_self]
  rw [List.drop_eq_getElem_cons (by rw [lentC_length]; exact h), List.set_cons_zero, List.replicate_succ']
  simp

theorem Tryz.infoContig2 : (Tryz.prog.info? 29).map (fun i => (i.zero, i.size, i.bytes)) = some (some (.agg #[.string ⟨#[]⟩, .string ⟨#[]⟩]), 2, 32) := by kernel_rfl
theorem Tryz.sizeContig : (Tryz.prog.info? 29).map (·.size) = some 2 := by kernel_rfl

/-- empty contigs, as they are made -/
theorem made_two (m : Nat) : (madeCells (Value.agg #[.string ⟨#[]⟩, .string ⟨#[]⟩]).cells (m * 2)).toList = Prs (List.replicate m ([], [])) := by
  have h1 : (madeCells (Value.agg #[.string ⟨#[]⟩, .string ⟨#[]⟩]).cells (m * 2)).toList = List.replicate (m * 2) (.string ⟨#[]⟩) := by
    apply List.ext_getElem?
    intro j
    have hc : (Value.agg #[.string ⟨#[]⟩, .string ⟨#[]⟩]).cells = #[.string ⟨#[]⟩, .string ⟨#[]⟩] := rfl
    rw [hc]
    by_cases hj : j < m * 2
    · have h2 : j % 2 = 0 ∨ j % 2 = 1 := by omega
      rcases h2 with h2 | h2 <;> simp [madeCells, hj, h2]
    · simp [madeCells, hj]
  rw [h1]
  induction m with
  | zero => rfl
  | succ m ih =>
    have hm := ih (by
      have := h1
      apply List.ext_getElem?
      intro j
      have hc : (Value.agg #[.string ⟨#[]⟩, .string ⟨#[]⟩]).cells = #[.string ⟨#[]⟩, .string ⟨#[]⟩] := rfl
      rw [hc]
      by_cases hj : j < m * 2
      · have h2 : j % 2 = 0 ∨ j % 2 = 1 := by omega
        rcases h2 with h2 | h2 <;> simp [madeCells, hj, h2]
      · simp [madeCells, hj])
    rw [show (m + 1) * 2 = m * 2 + 1 + 1 by omega, List.replicate_succ, List.replicate_succ, List.replicate_succ, Prs_cons, ← hm]

/-- 'copy(out, l)', elements of several cells -/
theorem run_copy_many {P : Program} (w : World) (dT sT ty elem : TypeId) (g o dLen dCap : Nat) (a : Addr) (sLen sCap : Nat) (cur : Array Value) (t : TypeId) (cs : List Value) (size : Nat)
    (hu : P.underlying dT = some (.slice elem)) (hs : (P.info? elem).map (·.size) = some size)
    (hg : w.heap[g]? = some (.cells cur t (0, 0))) (hn : cs.length = Nat.min sLen dLen * size)
    (hsrc : ∀ j v, cs[j]? = some v → w.cell? (a.add j) = some v) (hfit : o + cs.length ≤ cur.size) (h1 : ∀ v ∈ cs, v.oneCell' = true) :
    (Builtin.copy_ #[dT, sT] ty #[.slice (some ⟨g, o, none⟩) dLen dCap, .slice (some a) sLen sCap]).run P w =
      .ok (goInt (Nat.min sLen dLen)) (w.setRow g (cur.toList.take o ++ cs ++ cur.toList.drop (o + cs.length)).toArray) := by
  have hl := run_loadCells_list (P := P) w a cs hsrc
  have hst := run_storeCells_at P g o t cs 0 cur w hg (by simpa using hfit) h1
  cases hq : P.info? elem with
  | none => simp [hq] at hs
  | some i =>
    have hi : i.size = size := by simpa [hq] using hs
    simp [Builtin.copy_, run_underlying hu, Builtin.lenOf, Builtin.firstCells, sizeOf, typeInfo, hq, hi, ← hn, hl, hst]

/-- 'copy(out, l)' into contigs just made -/
theorem copy_lentC (cs : List Pr) (G cc : Nat) (ad : Addr) (w1 : World) (hsrc : ∀ j u, (Prs cs)[j]? = some u → w1.cell? (ad.add j) = some u)
    (hown : w1.ownsRow G 29 2 (.slice (some ⟨G, 0, none⟩) (cs.length + 8) (cs.length + 8)) (cs.length + 8) (Prs (List.replicate (cs.length + 8) ([], [])))) :
    ∃ W2, (∀ ty, (Builtin.copy_ #[30, 30] ty #[.slice (some ⟨G, 0, none⟩) (cs.length + 8) (cs.length + 8), .slice (some ad) cs.length cc]).run Tryz.prog w1 = .ok (goInt cs.length) W2) ∧
      W2.ownsRow G 29 2 (.slice (some ⟨G, 0, none⟩) (cs.length + 8) (cs.length + 8)) (cs.length + 8) (Prs (filledP (lentC cs) (cs.length + 8) cs.length)) ∧ w1.grownBy W2 (some G) := by
  rcases hown.2 with ⟨h, _⟩ | ⟨g, cap, cur, hv, hb, hg, hnc, hcm, hcs, htake⟩
  · simp at h
  · simp only [Value.slice.injEq, Option.some.injEq, Addr.mk.injEq, and_true, true_and] at hv
    obtain ⟨rfl, rfl⟩ := hv
    have hmin : Nat.min cs.length (cs.length + 8) = cs.length := Nat.min_eq_left (by omega)
    have hc : cur.toList = Prs (List.replicate (cs.length + 8) ([], [])) := by
      rw [← htake, List.take_of_length_le (by rw [Array.length_toList, hcs]; exact Nat.le_refl _)]
    have hrun := fun ty => run_copy_many (P := Tryz.prog) w1 30 30 ty 29 G 0 (cs.length + 8) (cs.length + 8) ad cs.length cc cur 29 (Prs cs) 2 Tryz.underlying30 Tryz.sizeContig hg (by rw [hmin, Prs_length]) hsrc (by rw [hcs, Prs_length]; omega) (Prs_one cs)
    rw [hmin] at hrun
    refine ⟨_, hrun, ?_, ⟨rfl, rfl, rfl, by simp [World.setRow], fun k _ hk => setRow_other w1 G k _ (fun e => hk (by simp [e]))⟩⟩
    have he : (cur.toList.take 0 ++ Prs cs ++ cur.toList.drop (0 + (Prs cs).length)) = Prs (filledP (lentC cs) (cs.length + 8) cs.length) := by
      rw [hc, filledP, lentC, List.take_zero, List.nil_append, List.take_append_of_le_length (Nat.le_refl _), List.take_length, Prs_append]
      congr 1
      rw [Nat.zero_add, show cs.length + 8 - cs.length = 8 by omega, ← List.replicate_append_replicate, Prs_append, List.drop_append_of_le_length (by rw [Prs_length, Prs_length, List.length_replicate]; exact Nat.le_refl _), List.drop_of_length_le (by rw [Prs_length, Prs_length, List.length_replicate]; exact Nat.le_refl _), List.nil_append]
    have hl : (Prs (filledP (lentC cs) (cs.length + 8) cs.length)).length = (cs.length + 8) * 2 := by
      rw [Prs_length, filledP_length _ _ _ (lentC_length cs) (by omega)]
    rw [he]
    refine ⟨hl, .inr ⟨G, cs.length + 8, _, rfl, hb, setRow_heap w1 G cur _ 29 _ hg, Nat.le_refl _, hcm, by simp [hl], ?_⟩⟩
    rw [List.take_of_length_le (by simp [hl])]

end Go.Proofs.YtfcbgfomhmcikaaGreatDoor

namespace Go.Proofs.YtfcbgfomhmcikaaGreatDoor
open Go.RowKit

/-- what 'lentContigs' answers: nil, or a new row -/
def LentC (w w' : World) (cs : List Pr) (lv v : Value) : Prop :=
  (lv = .slice none 0 0 ∧ cs = [] ∧ v = .slice none 0 0 ∧ w' = w) ∨
  (∃ ad cc, lv = .slice (some ad) cs.length cc ∧ v = .slice (some ⟨w.heap.size, 0, none⟩) cs.length (cs.length + 8) ∧
    w'.ownsRow w.heap.size 29 2 (.slice (some ⟨w.heap.size, 0, none⟩) (cs.length + 8) (cs.length + 8)) (cs.length + 8) (Prs (lentC cs)) ∧ Below w.heap.size w w' ∧ w.heap.size < w'.heap.size)

theorem beC_set (cs : List Pr) (k : Nat) (h1 : cs.length ≤ k) (h : k < cs.length + 8) :
    ((Prs (filledP (lentC cs) (cs.length + 8) k)).set (k * 2) (.string ⟨#[98, 101, 121, 111, 110, 100]⟩)).set (k * 2 + 1) (.string ⟨#[65, 65, 65, 65]⟩) = Prs (filledP (lentC cs) (cs.length + 8) (k + 1)) := by
  have h2 := Prs_set (filledP (lentC cs) (cs.length + 8) k) k (by rw [filledP_length _ _ _ (lentC_length cs) (by omega)]; exact h) beC
  refine Eq.trans h2 ?_
  rw [← filledP_set _ _ _ (lentC_length cs) h, lentC_high cs k h1]

theorem otC_set (cs : List Pr) (k : Nat) (h : k < cs.length + 8) :
    ((Prs (wipedP cs k)).set (k * 2) (.string ⟨#[111, 116, 104, 101, 114]⟩)).set (k * 2 + 1) (.string ⟨#[67, 71]⟩) = Prs (wipedP cs (k + 1)) := by
  have h2 := Prs_set (wipedP cs k) k (by rw [wipedP_length _ _ (by omega)]; exact h) otC
  refine Eq.trans h2 ?_
  rw [wipedP_set cs k h]

theorem src_keep {w w' : World} {ad : Addr} {xs : List Value} (h : ∀ j u, xs[j]? = some u → w.cell? (ad.add j) = some u) (hb : Below w.heap.size w w') : ∀ j u, xs[j]? = some u → w'.cell? (ad.add j) = some u := by
  intro j u hj
  have h0 := h j u hj
  rw [hb.cell (World.block_lt_of_cell? w _ h0)]
  exact h0

set_option maxRecDepth 100000 in
set_option maxHeartbeats 1600000 in
theorem lentContigs_any (cs : List Pr) (lv : Value) (w : World) (hr : RefOk w lv cs) :
    Calls Tryz.prog 51 #[lv] w fun e w' => ∃ v, e = .returned v ∧ LentC w w' cs lv v := by
  have hnil := fun (wy : World) (a : Option Addr) (l c : Nat) => Lib.run_eql_slice_nil (P := Tryz.prog) wy 30 29 a l c 0 0 Tryz.underlying30
  obtain ⟨i0, hi, hz0, hz1, hz2⟩ := info_parts Tryz.infoContig2
  have hlen := hr.len
  rcases hr.src with ⟨rfl, hc0, _⟩ | ⟨ad, cc, rfl, hsrc⟩
  · obtain rfl : cs = [] := List.eq_nil_of_length_eq_zero hc0
    clear hlen hr hc0
    go_enter Tryz.func51, Tryz.ntmps51
    go_wp2
    go_ret
    exact ⟨_, rfl, .inl ⟨rfl, rfl, rfl, rfl⟩⟩
  · clear hr
    have HSRC : Hid _ := hsrc
    clear hsrc
    go_enter Tryz.func51, Tryz.ntmps51
    go_wp2_with (at_make; refine wpList_make_full _ rfl _ _ 30 rfl w.heap.size 29 i0 (.agg #[.string ⟨#[]⟩, .string ⟨#[]⟩]) 2 Tryz.underlying30 hi hz0 hz1 _ _ _ _ (cs.length + 8) rfl rfl (by omega) (by omega) (by rw [hz2]; omega) (by unfold maxLen; omega) (Nat.le_refl _) ?_; intro w1 hown0 hgrow; rw [made_two] at hown0; have hb1 : Below w.heap.size w w1 := (Below.refl _ _).grown hgrow (Nat.le_refl _) (fun k hk => by cases hk); obtain ⟨W2, hcopy, hown2, hgrow2⟩ := copy_lentC cs w.heap.size cc ad w1 (src_keep HSRC.out hb1) hown0)
    have hb2 : Below w.heap.size w W2 := hb1.grown hgrow2 (by have := hgrow.size; omega) (fun k hk => by cases hk; exact Nat.le_refl _)
    clear hcopy hown0 hgrow hgrow2 hb1 hnil
    go_loopw [5] (fun i wr => ∃ k : Nat, cs.length ≤ k ∧ k ≤ cs.length + 8 ∧ i = .int .i64 (k : Int) ∧ wr.ownsRow w.heap.size 29 2 (.slice (some ⟨w.heap.size, 0, none⟩) (cs.length + 8) (cs.length + 8)) (cs.length + 8) (Prs (filledP (lentC cs) (cs.length + 8) k)) ∧ Below w.heap.size w wr)
      (fun i _ => cs.length + 8 - (intOf i).toNat)
    case atStart => exact ⟨cs.length, Nat.le_refl _, by omega, rfl, hown2, hb2⟩
    case round =>
      clear hown2 hb2
      obtain ⟨k, hk1, hk, rfl, hown, hbel⟩ := hrel
      by_cases hlt : k < cs.length + 8
      · obtain ⟨p0, p1⟩ := own_pair hown k (by rw [filledP_length _ _ _ (lentC_length cs) (by omega)]; exact hlt)
        have f0 := hown.frozenAt (k * 2)
        have f1 := hown.frozenAt (k * 2 + 1)
        have hs1 := hown.stored (k * 2) (.string ⟨#[98, 101, 121, 111, 110, 100]⟩)
        have hs2 := hs1.1.stored (k * 2 + 1) (.string ⟨#[65, 65, 65, 65]⟩)
        rw [beC_set cs k hk1 hlt] at hs2
        have HST : Hid _ := hs2.1
        have HB1 : Hid _ := (hbel.setCell (p := ⟨w.heap.size, k * 2, none⟩) (Nat.le_refl _) (.string ⟨#[98, 101, 121, 111, 110, 100]⟩)).setCell (p := ⟨w.heap.size, k * 2 + 1, none⟩) (Nat.le_refl _) (.string ⟨#[65, 65, 65, 65]⟩)
        clear hs1 hs2 hown hbel
        have hlt' : (k : Int) < (cs.length : Int) + 8 := by omega
        go_wp2
        go_roundw
        case rel => exact ⟨k + 1, by omega, by omega, by go_num, HST.out, HB1.out⟩
        case measure => simp [intOf]; omega
      · have hke : k = cs.length + 8 := by omega
        rw [hke, filledP_whole _ _ (lentC_length cs)] at hown
        have hlt' : ¬ (k : Int) < (cs.length : Int) + 8 := by omega
        have hlt9 : w.heap.size < wr.heap.size := by
          rcases hown.2 with ⟨h, _⟩ | ⟨g, cap, cur, hv, _, hg, _⟩
          · simp at h
          · simp only [Value.slice.injEq, Option.some.injEq, Addr.mk.injEq, and_true, true_and] at hv
            obtain ⟨rfl, _⟩ := hv
            exact (Array.getElem?_eq_some_iff.1 hg).1
        clear hke
        have HO : Hid _ := hown
        have HB : Hid _ := hbel
        clear hown hbel
        go_wp2
        go_ret
        exact ⟨_, rfl, .inr ⟨_, _, rfl, rfl, HO.out, HB.out, hlt9⟩⟩

end Go.Proofs.YtfcbgfomhmcikaaGreatDoor

namespace Go.Proofs.YtfcbgfomhmcikaaGreatDoor
open Go.RowKit

set_option maxRecDepth 100000 in
set_option maxHeartbeats 1600000 in
theorem wholeContigs_nil (v : Value) (w : World) :
    Calls Tryz.prog 54 #[v, .slice none 0 0] w fun e w' => e = .returned (.bool true) ∧ w' = w := by
  have hnil := fun (wy : World) (a : Option Addr) (l c : Nat) => Lib.run_eql_slice_nil (P := Tryz.prog) wy 30 29 a l c 0 0 Tryz.underlying30
  go_enter Tryz.func54, Tryz.ntmps54
  go_wp2
  go_ret
  exact ⟨rfl, rfl⟩

theorem src_first {w : World} {ad : Addr} {l : List Pr} (h : ∀ j u, (Prs l)[j]? = some u → w.cell? (ad.add j) = some u) (k : Nat) (hk : k < l.length) : w.cell? (ad.add (k * 2)) = some (.string ⟨l[k].1.toArray⟩) := by
  refine h (k * 2) _ ?_
  have := Prs_at l k hk 0 (by omega)
  rw [Nat.add_zero] at this
  rw [this]
  rfl

theorem grown_new (w : World) (o : Obj) (n : Nat) : w.grownBy ((w.alloc o).drewN n) none :=
  ⟨rfl, rfl, rfl, by show w.heap.size ≤ (w.heap.push o).size; simp, fun k hk _ => Below.heap_alloc w o k hk⟩

theorem wipe_one {w wr Y : World} {cs : List Pr} {G k : Nat} (hgr : w.grownBy wr (some G)) (hown : wr.ownsRow G 29 2 (.slice (some ⟨G, 0, none⟩) (cs.length + 8) (cs.length + 8)) (cs.length + 8) (Prs (wipedP cs k))) (hk : k < cs.length + 8) (hY : wr.grownBy Y none) :
    ((Y.setCell ⟨G, k * 2, none⟩ (.string ⟨#[111, 116, 104, 101, 114]⟩)).setCell ⟨G, k * 2 + 1, none⟩ (.string ⟨#[67, 71]⟩)).ownsRow G 29 2 (.slice (some ⟨G, 0, none⟩) (cs.length + 8) (cs.length + 8)) (cs.length + 8) (Prs (wipedP cs (k + 1))) ∧
      w.grownBy ((Y.setCell ⟨G, k * 2, none⟩ (.string ⟨#[111, 116, 104, 101, 114]⟩)).setCell ⟨G, k * 2 + 1, none⟩ (.string ⟨#[67, 71]⟩)) (some G) := by
  have h0 := hown.kept hY (.inr (by simp [Value.ownBlock]))
  have h1 := h0.stored (k * 2) (.string ⟨#[111, 116, 104, 101, 114]⟩)
  have h2 := h1.1.stored (k * 2 + 1) (.string ⟨#[67, 71]⟩)
  rw [otC_set cs k hk] at h2
  exact ⟨h2.1, grown_trans (grown_trans (grown_trans hgr (grown_weak hY)) h1.2) h2.2⟩

set_option maxRecDepth 100000 in
set_option maxHeartbeats 1600000 in
theorem wholeContigs_row (cs : List Pr) (G cc : Nat) (ad : Addr) (w : World) (hlen : cs.length * 32 ≤ 140737488351232) (hsrc : ∀ j u, (Prs cs)[j]? = some u → w.cell? (ad.add j) = some u) (hne : 0 < cs.length → ad.block ≠ G)
    (hown : w.ownsRow G 29 2 (.slice (some ⟨G, 0, none⟩) (cs.length + 8) (cs.length + 8)) (cs.length + 8) (Prs (lentC cs))) :
    Calls Tryz.prog 54 #[.slice (some ⟨G, 0, none⟩) cs.length (cs.length + 8), .slice (some ad) cs.length cc] w fun e w' => e = .returned (.bool true) ∧ w.grownBy w' (some G) := by
  have hnil := fun (wy : World) (a : Option Addr) (l c : Nat) => Lib.run_eql_slice_nil (P := Tryz.prog) wy 30 29 a l c 0 0 Tryz.underlying30
  have heq := eql_contig
  have HO : Hid _ := hown
  have HSRC : Hid _ := hsrc
  have HNE : Hid _ := hne
  have hGw : G < w.heap.size := by
    rcases hown.2 with ⟨h, _⟩ | ⟨g, cap, cur, hv, _, hg, _⟩
    · simp at h
    · simp only [Value.slice.injEq, Option.some.injEq, Addr.mk.injEq, and_true, true_and] at hv
      obtain ⟨rfl, _⟩ := hv
      exact (Array.getElem?_eq_some_iff.1 hg).1
  clear hown hsrc hne
  have hcut : (0 : Int) ≤ (cs.length : Int) + 8 := by omega
  go_enter Tryz.func54, Tryz.ntmps54
  go_wp2
  clear hnil
  go_loopw [7, 8] (fun ok i wr => ∃ k : Nat, k ≤ cs.length + 8 ∧ i = .int .i64 (k : Int) ∧ ok = .bool true ∧ wr.ownsRow G 29 2 (.slice (some ⟨G, 0, none⟩) (cs.length + 8) (cs.length + 8)) (cs.length + 8) (Prs (wipedP cs k)) ∧ w.grownBy wr (some G))
    (fun _ i _ => cs.length + 8 - (intOf i).toNat)
  case atStart => exact ⟨0, by omega, rfl, rfl, by rw [wipedP_zero]; exact HO.out, World.grownBy.refl _ _⟩
  case round =>
    obtain ⟨k, hk, rfl, rfl, hown, hgr⟩ := hrel
    by_cases hlt : k < cs.length + 8
    · have hGr : G < wr.heap.size := by have := hgr.size; omega
      have hpp := own_pair hown k (by rw [wipedP_length _ _ (by omega)]; exact hlt)
      have hat := wipedP_at cs k hlt (by rw [wipedP_length _ _ (by omega)]; exact hlt)
      rw [hat] at hpp
      have HOW : Hid _ := hown
      have HGR : Hid _ := hgr
      have hsz := hgr.size
      have f0 := hown.frozenAt (k * 2)
      have f1 := hown.frozenAt (k * 2 + 1)
      have hlt' : (k : Int) < (cs.length : Int) + 8 := by omega
      by_cases hin : k < cs.length
      · have hin' : (k : Int) < (cs.length : Int) := by omega
        rw [lentC_low cs k hin] at hpp
        have p0 := hpp.1
        have p1 := hpp.2
        have hc0 := src_first HSRC.out k hin
        have hc1 := src_pair HSRC.out k hin
        have q0 : wr.cell? (ad.add (k * 2)) = some (.string ⟨cs[k].1.toArray⟩) := hgr.cell hc0 (by
          have e : (ad.add (k * 2)).block = ad.block := by unfold Addr.add; split <;> rfl
          rw [e]; intro h; exact HNE.out (by omega) (Option.some.inj h))
        have q1 : wr.cell? (ad.add (k * 2 + 1)) = some (.string ⟨cs[k].2.toArray⟩) := hgr.cell hc1 (by
          have e : (ad.add (k * 2 + 1)).block = ad.block := by unfold Addr.add; split <;> rfl
          rw [e]; intro h; exact HNE.out (by omega) (Option.some.inj h))
        rw [← addr_next] at q1
        have hadr := World.block_lt_of_cell? wr _ q0
        clear hpp hat hown hgr hc0 hc1
        obtain ⟨y, hy⟩ : ∃ y : Pr, y = cs[k] := ⟨_, rfl⟩
        rw [← hy] at p0 p1 q0 q1
        clear hy
        go_wp2_with fail
        go_quiet (fail)
        go_wp2
        go_roundw
        case rel =>
          have hfin := wipe_one HGR.out HOW.out hlt (grown_new wr (.cells #[.string ⟨y.1.toArray⟩, .string ⟨y.2.toArray⟩] 29) nq)
          exact ⟨k + 1, by omega, by go_num, rfl, hfin.1, hfin.2⟩
        case measure => simp [intOf]; omega
      · have hin' : ¬ (k : Int) < (cs.length : Int) := by omega
        rw [lentC_high cs k (by omega)] at hpp
        have p0 : wr.cell? ⟨G, k * 2, none⟩ = some (.string ⟨#[98, 101, 121, 111, 110, 100]⟩) := hpp.1
        have p1 : wr.cell? ⟨G, k * 2 + 1, none⟩ = some (.string ⟨#[65, 65, 65, 65]⟩) := hpp.2
        clear hpp hat hown hgr
        go_wp2_with fail
        go_quiet (fail)
        go_wp2
        go_roundw
        case rel =>
          have hfin := wipe_one HGR.out HOW.out hlt (grown_new wr (.cells #[.string ⟨#[98, 101, 121, 111, 110, 100]⟩, .string ⟨#[65, 65, 65, 65]⟩] 29) nq)
          exact ⟨k + 1, by omega, by go_num, rfl, hfin.1, hfin.2⟩
        case measure => simp [intOf]; omega
    · have hlt' : ¬ (k : Int) < (cs.length : Int) + 8 := by omega
      have HGR : Hid _ := hgr
      clear hown hgr
      go_wp2
      go_ret
      exact ⟨rfl, HGR.out⟩

end Go.Proofs.YtfcbgfomhmcikaaGreatDoor

namespace Go.Proofs.YtfcbgfomhmcikaaGreatDoor
open Go.RowKit

/-- records that lie somewhere, of a size that can be -/
structure RecsOk (w : World) (v : Value) (rs : List Rc) : Prop where
  src : Src w v rs.length (Rcs rs)
  len : rs.length * 96 ≤ 140737488351232
  txt : ∀ r ∈ rs, r.Small

def beR : Rc := ⟨[98, 101, 121, 111, 110, 100], 0, 0, [], 0, 0, [], []⟩
def otR : Rc := ⟨[111, 116, 104, 101, 114], 0, 0, [], 0, 0, [], []⟩
def zrR : Rc := ⟨[], 0, 0, [], 0, 0, [], []⟩
def lentR (rs : List Rc) : List Rc := rs ++ List.replicate 8 beR

theorem lentR_length (rs : List Rc) : (lentR rs).length = rs.length + 8 := by simp [lentR]
theorem lentR_low (rs : List Rc) (k : Nat) (h1 : k < rs.length) (h : k < (lentR rs).length) : (lentR rs)[k] = rs[k] := by simp only [lentR, List.getElem_append_left h1]
theorem lentR_high (rs : List Rc) (k : Nat) (h1 : rs.length ≤ k) (h : k < (lentR rs).length) : (lentR rs)[k] = beR := by
  simp only [lentR, List.getElem_append_right h1, List.getElem_replicate]

theorem Rcs_cons (r : Rc) (l : List Rc) : Rcs (r :: l) = .string ⟨r.nm.toArray⟩ :: .int .i64 r.vd :: .int .i64 r.sd :: .string ⟨r.ct.toArray⟩ :: .int .i64 r.pl :: .int .i64 r.mm :: .string ⟨r.lt.toArray⟩ :: .string ⟨r.cl.toArray⟩ :: Rcs l := rfl
theorem Rcs_set (l : List Rc) (k : Nat) (h : k < l.length) (x : Rc) :
    ((((((((Rcs l).set (k * 8) (.string ⟨x.nm.toArray⟩)).set (k * 8 + 1) (.int .i64 x.vd)).set (k * 8 + 2) (.int .i64 x.sd)).set (k * 8 + 3) (.string ⟨x.ct.toArray⟩)).set (k * 8 + 4) (.int .i64 x.pl)).set (k * 8 + 5) (.int .i64 x.mm)).set (k * 8 + 6) (.string ⟨x.lt.toArray⟩)).set (k * 8 + 7) (.string ⟨x.cl.toArray⟩) = Rcs (l.set k x) := by
  induction l generalizing k with
  | nil => simp at h
  | cons o l ih =>
    cases k with
    | zero => simp [Rcs_cons]
    | succ k =>
      have e : ∀ i, (k + 1) * 8 + i = k * 8 + i + 1 + 1 + 1 + 1 + 1 + 1 + 1 + 1 := fun i => by omega
      have e0 : (k + 1) * 8 = k * 8 + 1 + 1 + 1 + 1 + 1 + 1 + 1 + 1 := by omega
      rw [e 1, e 2, e 3, e 4, e 5, e 6, e 7, e0, Rcs_cons]
      simp only [List.set_cons_succ]
      rw [ih k (by simpa using h), Rcs_cons]

def filledR (l : List Rc) (n k : Nat) : List Rc := l.take k ++ List.replicate (n - k) zrR
theorem filledR_length (l : List Rc) (n k : Nat) (h : l.length = n) (hk : k ≤ n) : (filledR l n k).length = n := by simp [filledR]; omega
theorem filledR_whole (l : List Rc) (n : Nat) (h : l.length = n) : filledR l n n = l := by simp [filledR, ← h]
theorem filledR_set (l : List Rc) (n k : Nat) (h : l.length = n) (hk : k < n) : (filledR l n k).set k (l[k]'(by omega)) = filledR l n (k + 1) := by
  unfold filledR
  have h1 : (l.take k).length = k := by rw [List.length_take]; omega
  rw [List.set_append, if_neg (by omega), h1, Nat.sub_self, List.take_succ_eq_append_getElem (by omega)]
  obtain ⟨m, hm⟩ : ∃ m, n - k = m + 1 := ⟨n - k - 1, by omega⟩
  rw [hm, show n - (k + 1) = m by omega, List.replicate_succ, List.set_cons_zero, List.append_assoc, List.singleton_append]

def wipedR (rs : List Rc) (k : Nat) : List Rc := List.replicate k otR ++ (lentR rs).drop k
theorem wipedR_zero (rs : List Rc) : wipedR rs 0 = lentR rs := by simp [wipedR]
theorem wipedR_length (rs : List Rc) (k : Nat) (h : k ≤ rs.length + 8) : (wipedR rs k).length = rs.length + 8 := by simp [wipedR, lentR_length]; omega
theorem wipedR_at (rs : List Rc) (k : Nat) (h : k < rs.length + 8) (h2 : k < (wipedR rs k).length) : (wipedR rs k)[k] = (lentR rs)[k]'(by rw [lentR_length]; exact h) := by
  simp only [wipedR]
  rw [List.getElem_append_right (by simp)]
  simp
theorem wipedR_set (rs : List Rc) (k : Nat) (h : k < rs.length + 8) : (wipedR rs k).set k otR = wipedR rs (k + 1) := by
  rw [wipedR, wipedR, List.set_append, if_neg (by simp), List.length_replicate, Nat.sub_self]
  rw [List.drop_eq_getElem_cons (by rw [lentR_length]; exact h), List.set_cons_zero, List.replicate_succ']
  simp

theorem Tryz.infoRec2 : (Tryz.prog.info? 47).map (fun i => (i.zero, i.size, i.bytes)) = some (some (.agg #[.string ⟨#[]⟩, .int .i64 0, .int .i64 0, .string ⟨#[]⟩, .int .i64 0, .int .i64 0, .string ⟨#[]⟩, .string ⟨#[]⟩]), 8, 96) := by kernel_rfl
theorem Tryz.sizeRec2 : (Tryz.prog.info? 47).map (·.size) = some 8 := by kernel_rfl

/-- empty records, as they are made -/
theorem made_recs (m : Nat) : (madeCells (Value.agg #[.string ⟨#[]⟩, .int .i64 0, .int .i64 0, .string ⟨#[]⟩, .int .i64 0, .int .i64 0, .string ⟨#[]⟩, .string ⟨#[]⟩]).cells (m * 8)).toList = Rcs (List.replicate m zrR) := by
  have hc : (Value.agg #[.string ⟨#[]⟩, .int .i64 0, .int .i64 0, .string ⟨#[]⟩, .int .i64 0, .int .i64 0, .string ⟨#[]⟩, .string ⟨#[]⟩]).cells = #[.string ⟨#[]⟩, .int .i64 0, .int .i64 0, .string ⟨#[]⟩, .int .i64 0, .int .i64 0, .string ⟨#[]⟩, .string ⟨#[]⟩] := rfl
  rw [hc]
  apply List.ext_getElem?
  intro j
  by_cases hj : j < m * 8
  · have hq : j / 8 < m := by omega
    have hj' : j = j / 8 * 8 + j % 8 := by omega
    have h2 := Rcs_at (List.replicate m zrR) (j / 8) (by simpa using hq) (j % 8) (by omega)
    rw [← hj'] at h2
    rw [h2, List.getElem_replicate]
    have h8 : j % 8 = 0 ∨ j % 8 = 1 ∨ j % 8 = 2 ∨ j % 8 = 3 ∨ j % 8 = 4 ∨ j % 8 = 5 ∨ j % 8 = 6 ∨ j % 8 = 7 := by omega
    rcases h8 with h8 | h8 | h8 | h8 | h8 | h8 | h8 | h8 <;> rw [h8] <;> simp [madeCells, hj, h8, rcCells, zrR]
  · rw [List.getElem?_eq_none (by simp [madeCells]; omega), List.getElem?_eq_none (by rw [Rcs_length, List.length_replicate]; omega)]

/-- 'copy(out, l)' into records just made -/
theorem copy_lentR (rs : List Rc) (G cc : Nat) (ad : Addr) (w1 : World) (hsrc : ∀ j u, (Rcs rs)[j]? = some u → w1.cell? (ad.add j) = some u)
    (hown : w1.ownsRow G 47 8 (.slice (some ⟨G, 0, none⟩) (rs.length + 8) (rs.length + 8)) (rs.length + 8) (Rcs (List.replicate (rs.length + 8) zrR))) :
    ∃ W2, (∀ ty, (Builtin.copy_ #[40, 40] ty #[.slice (some ⟨G, 0, none⟩) (rs.length + 8) (rs.length + 8), .slice (some ad) rs.length cc]).run Tryz.prog w1 = .ok (goInt rs.length) W2) ∧
      W2.ownsRow G 47 8 (.slice (some ⟨G, 0, none⟩) (rs.length + 8) (rs.length + 8)) (rs.length + 8) (Rcs (filledR (lentR rs) (rs.length + 8) rs.length)) ∧ w1.grownBy W2 (some G) := by
  rcases hown.2 with ⟨h, _⟩ | ⟨g, cap, cur, hv, hb, hg, hnc, hcm, hcs, htake⟩
  · simp at h
  · simp only [Value.slice.injEq, Option.some.injEq, Addr.mk.injEq, and_true, true_and] at hv
    obtain ⟨rfl, rfl⟩ := hv
    have hmin : Nat.min rs.length (rs.length + 8) = rs.length := Nat.min_eq_left (by omega)
    have hc : cur.toList = Rcs (List.replicate (rs.length + 8) zrR) := by
      rw [← htake, List.take_of_length_le (by rw [Array.length_toList, hcs]; exact Nat.le_refl _)]
    have hrun := fun ty => run_copy_many (P := Tryz.prog) w1 40 40 ty 47 G 0 (rs.length + 8) (rs.length + 8) ad rs.length cc cur 47 (Rcs rs) 8 Tryz.underlying40 Tryz.sizeRec2 hg (by rw [hmin, Rcs_length]) hsrc (by rw [hcs, Rcs_length]; omega) (Rcs_one rs)
    rw [hmin] at hrun
    refine ⟨_, hrun, ?_, ⟨rfl, rfl, rfl, by simp [World.setRow], fun k _ hk => setRow_other w1 G k _ (fun e => hk (by simp [e]))⟩⟩
    have he : (cur.toList.take 0 ++ Rcs rs ++ cur.toList.drop (0 + (Rcs rs).length)) = Rcs (filledR (lentR rs) (rs.length + 8) rs.length) := by
      rw [hc, filledR, lentR, List.take_zero, List.nil_append, List.take_append_of_le_length (Nat.le_refl _), List.take_length, Rcs_append]
      congr 1
      rw [Nat.zero_add, show rs.length + 8 - rs.length = 8 by omega, ← List.replicate_append_replicate, Rcs_append, List.drop_append_of_le_length (by rw [Rcs_length, Rcs_length, List.length_replicate]; exact Nat.le_refl _), List.drop_of_length_le (by rw [Rcs_length, Rcs_length, List.length_replicate]; exact Nat.le_refl _), List.nil_append]
    have hl : (Rcs (filledR (lentR rs) (rs.length + 8) rs.length)).length = (rs.length + 8) * 8 := by
      rw [Rcs_length, filledR_length _ _ _ (lentR_length rs) (by omega)]
    rw [he]
    refine ⟨hl, .inr ⟨G, rs.length + 8, _, rfl, hb, setRow_heap w1 G cur _ 47 _ hg, Nat.le_refl _, hcm, by simp [hl], ?_⟩⟩
    rw [List.take_of_length_le (by simp [hl])]

/-- a record stored into one of several -/
theorem own_set8 {w : World} {b e G n cap : Nat} {l : List Rc} (h : w.ownsRow b e 8 (.slice (some ⟨G, 0, none⟩) n cap) n (Rcs l)) (k : Nat) (hk : k < l.length) (x : Rc) :
    ((((((((w.setCell ⟨G, k * 8, none⟩ (.string ⟨x.nm.toArray⟩)).setCell ⟨G, k * 8 + 1, none⟩ (.int .i64 x.vd)).setCell ⟨G, k * 8 + 2, none⟩ (.int .i64 x.sd)).setCell ⟨G, k * 8 + 3, none⟩ (.string ⟨x.ct.toArray⟩)).setCell ⟨G, k * 8 + 4, none⟩ (.int .i64 x.pl)).setCell ⟨G, k * 8 + 5, none⟩ (.int .i64 x.mm)).setCell ⟨G, k * 8 + 6, none⟩ (.string ⟨x.lt.toArray⟩)).setCell ⟨G, k * 8 + 7, none⟩ (.string ⟨x.cl.toArray⟩)).ownsRow b e 8 (.slice (some ⟨G, 0, none⟩) n cap) n (Rcs (l.set k x)) ∧
    w.grownBy ((((((((w.setCell ⟨G, k * 8, none⟩ (.string ⟨x.nm.toArray⟩)).setCell ⟨G, k * 8 + 1, none⟩ (.int .i64 x.vd)).setCell ⟨G, k * 8 + 2, none⟩ (.int .i64 x.sd)).setCell ⟨G, k * 8 + 3, none⟩ (.string ⟨x.ct.toArray⟩)).setCell ⟨G, k * 8 + 4, none⟩ (.int .i64 x.pl)).setCell ⟨G, k * 8 + 5, none⟩ (.int .i64 x.mm)).setCell ⟨G, k * 8 + 6, none⟩ (.string ⟨x.lt.toArray⟩)).setCell ⟨G, k * 8 + 7, none⟩ (.string ⟨x.cl.toArray⟩)) (some G) := by
  have h0 := h.stored (k * 8) (.string ⟨x.nm.toArray⟩)
  have h1 := h0.1.stored (k * 8 + 1) (.int .i64 x.vd)
  have h2 := h1.1.stored (k * 8 + 2) (.int .i64 x.sd)
  have h3 := h2.1.stored (k * 8 + 3) (.string ⟨x.ct.toArray⟩)
  have h4 := h3.1.stored (k * 8 + 4) (.int .i64 x.pl)
  have h5 := h4.1.stored (k * 8 + 5) (.int .i64 x.mm)
  have h6 := h5.1.stored (k * 8 + 6) (.string ⟨x.lt.toArray⟩)
  have h7 := h6.1.stored (k * 8 + 7) (.string ⟨x.cl.toArray⟩)
  rw [Rcs_set l k hk x] at h7
  exact ⟨h7.1, grown_trans (grown_trans (grown_trans (grown_trans (grown_trans (grown_trans (grown_trans h0.2 h1.2) h2.2) h3.2) h4.2) h5.2) h6.2) h7.2⟩

/-- the cells of one record of a row -/
theorem own_rec {w : World} {b e G n cap : Nat} {l : List Rc} (h : w.ownsRow b e 8 (.slice (some ⟨G, 0, none⟩) n cap) n (Rcs l)) (k : Nat) (hk : k < l.length) :
    w.cell? ⟨G, k * 8, none⟩ = some (.string ⟨l[k].nm.toArray⟩) ∧ w.cell? ⟨G, k * 8 + 1, none⟩ = some (.int .i64 l[k].vd) ∧ w.cell? ⟨G, k * 8 + 2, none⟩ = some (.int .i64 l[k].sd) ∧ w.cell? ⟨G, k * 8 + 3, none⟩ = some (.string ⟨l[k].ct.toArray⟩) ∧
    w.cell? ⟨G, k * 8 + 4, none⟩ = some (.int .i64 l[k].pl) ∧ w.cell? ⟨G, k * 8 + 5, none⟩ = some (.int .i64 l[k].mm) ∧ w.cell? ⟨G, k * 8 + 6, none⟩ = some (.string ⟨l[k].lt.toArray⟩) ∧ w.cell? ⟨G, k * 8 + 7, none⟩ = some (.string ⟨l[k].cl.toArray⟩) := by
  have hl : l.length * 8 = n * 8 := by have := h.1; rw [Rcs_length] at this; exact this
  have g : ∀ j, j < 8 → w.cell? ⟨G, k * 8 + j, none⟩ = (rcCells l[k])[j]? := fun j hj => by rw [h.cellAt (k * 8 + j) (by omega), Rcs_at l k hk j hj]
  exact ⟨g 0 (by omega), g 1 (by omega), g 2 (by omega), g 3 (by omega), g 4 (by omega), g 5 (by omega), g 6 (by omega), g 7 (by omega)⟩

end Go.Proofs.YtfcbgfomhmcikaaGreatDoor
