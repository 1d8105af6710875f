/-
  THE WALK of 'wholeContigs'. Own text of the verifier.
  LISTS OF ONE STRUCT OF TWO CELLS, many times: laws on rows that share their room (as TxMarks, for whatever two cells). Own text of the verifier.
  THE WALK of 'keepsPlaces': a list that came out is marked, appended to thrice, and written into the book. Own text of the verifier.
  THE WALK of 'looks', at a book of places alone. Own text of the verifier.
  PLAIN MATHEMATICS of the program's search: letters that are bleached already, held against each other. Own text of the verifier.
  THE WALKS of the program's search: stands, places, the strand's contigs, convert, Find. Own text of the verifier.
  THE WALKS of the program's places and Find. Own text of the verifier.
-/
import Derived.Test.YtfcbgfomhmcikaaBun8
import Derived.Test.YtfcbgfomhmcikaaBun6
import Derived.Test.YtfcbgfomhmcikaaBun7
import Derived.Test.YtfcbgfomhmcikaaBun4
import Derived.Test.YtfcbgfomhmcikaaBun2
import Derived.BigQuiet
namespace Go.Proofs.Ytfcbgfomhmcikaa
open Go.RowKit

theorem src_first {w : World} {ad : Addr} {l : List Pr} (h : ∀ j u, (Prs l)[j]? = some u → w.cell? (ad.add j) = some u) (k : Nat) (hk : k < l.length) : w.cell? (ad.add (k * 2)) = some (.string ⟨l[k].1.toArray⟩) := by
  refine h (k * 2) _ ?_
  have := Prs_at l k hk 0 (by omega)
  rw [Nat.add_zero] at this
  rw [this]
  rfl

theorem grown_new (w : World) (o : Obj) (n : Nat) : w.grownBy ((w.alloc o).drewN n) none :=
  ⟨rfl, rfl, rfl, by show w.heap.size ≤ (w.heap.push o).size; simp, fun k hk _ => Below.heap_alloc w o k hk⟩

theorem wipe_one {w wr Y : World} {cs : List Pr} {G k : Nat} (hgr : w.grownBy wr (some G)) (hown : wr.ownsRow G 58 2 (.slice (some ⟨G, 0, none⟩) (cs.length + 8) (cs.length + 8)) (cs.length + 8) (Prs (wipedP cs k))) (hk : k < cs.length + 8) (hY : wr.grownBy Y none) :
    ((Y.setCell ⟨G, k * 2, none⟩ (.string ⟨#[111, 116, 104, 101, 114]⟩)).setCell ⟨G, k * 2 + 1, none⟩ (.string ⟨#[67, 71]⟩)).ownsRow G 58 2 (.slice (some ⟨G, 0, none⟩) (cs.length + 8) (cs.length + 8)) (cs.length + 8) (Prs (wipedP cs (k + 1))) ∧
      w.grownBy ((Y.setCell ⟨G, k * 2, none⟩ (.string ⟨#[111, 116, 104, 101, 114]⟩)).setCell ⟨G, k * 2 + 1, none⟩ (.string ⟨#[67, 71]⟩)) (some G) := by
  have h0 := hown.kept hY (.inr (by simp [Value.ownBlock]))
  have h1 := h0.stored (k * 2) (.string ⟨#[111, 116, 104, 101, 114]⟩)
  have h2 := h1.1.stored (k * 2 + 1) (.string ⟨#[67, 71]⟩)
  rw [otC_set cs k hk] at h2
  exact ⟨h2.1, grown_trans (grown_trans (grown_trans hgr (grown_weak hY)) h1.2) h2.2⟩

end Go.Proofs.Ytfcbgfomhmcikaa

namespace Go.Proofs.Ytfcbgfomhmcikaa
open Go.RowKit

/-- n times the cells A, B -/
def reps (A B : Value) (n : Nat) : List Value := (List.replicate n [A, B]).flatten

theorem reps_add (A B : Value) (n m : Nat) : reps A B (n + m) = reps A B n ++ reps A B m := by rw [reps, reps, reps, ← List.flatten_append, List.replicate_append_replicate]
theorem reps_succ (A B : Value) (n : Nat) : reps A B (n + 1) = reps A B n ++ [A, B] := by rw [reps_add]; rfl
theorem reps_length (A B : Value) (n : Nat) : (reps A B n).length = n * 2 := by
  induction n with
  | zero => rfl
  | succ n ih => rw [reps_succ, List.length_append, ih]; simp; omega
theorem reps_one (A B : Value) (hA : A.oneCell' = true) (hB : B.oneCell' = true) (n : Nat) : ∀ u ∈ reps A B n, u.oneCell' = true := by
  induction n with
  | zero => intro u hu; simp [reps] at hu
  | succ n ih =>
    intro u hu
    rw [reps_succ, List.mem_append] at hu
    rcases hu with hu | hu
    · exact ih u hu
    · simp at hu
      rcases hu with rfl | rfl
      · exact hA
      · exact hB
theorem reps_take (A B : Value) (n m : Nat) (h : n ≤ m) : (reps A B m).take (n * 2) = reps A B n := by
  obtain ⟨k, rfl⟩ : ∃ k, m = n + k := ⟨m - n, by omega⟩
  rw [reps_add, List.take_append_of_le_length (by rw [reps_length]; exact Nat.le_refl _), List.take_of_length_le (by rw [reps_length]; exact Nat.le_refl _)]

/-- a marked list stays marked while another that shares its row is written up to at least its end -/
theorem reps_stay {w w' : World} {base e g n N cap : Nat} {A B : Value} (hl : w.ownsRow base e 2 (.slice (some ⟨g, 0, none⟩) n cap) n (reps A B n)) (hl' : w'.ownsRow base e 2 (.slice (some ⟨g, 0, none⟩) N cap) N (reps A B N)) (hg : w.grownBy w' (some g))
    {v0 : Value} {n0 : Nat} (h0 : w.ownsRow base e 2 v0 n0 (reps A B n0)) (hn : n0 ≤ N) : w'.ownsRow base e 2 v0 n0 (reps A B n0) := by
  refine ⟨h0.1, ?_⟩
  rcases h0.2 with h | ⟨g0, cap0, cur0, rfl, hb0, hg0, hnc0, hcm0, hcs0, ht0⟩
  · exact .inl h
  · by_cases he : g0 = g
    · subst he
      rcases hl.2 with ⟨h, _⟩ | ⟨g1, cap1, cur1, hv1, _, hg1, _, _, hcs1, _⟩
      · simp at h
      rcases hl'.2 with ⟨h, _⟩ | ⟨g2, cap2, cur2, hv2, _, hg2, hnc2, hcm2, hcs2, ht2⟩
      · simp at h
      simp only [Value.slice.injEq, Option.some.injEq, Addr.mk.injEq, and_true, true_and] at hv1 hv2
      obtain ⟨rfl, rfl⟩ := hv1
      obtain ⟨rfl, rfl⟩ := hv2
      rw [hg0] at hg1
      simp only [Option.some.injEq, Obj.cells.injEq] at hg1
      have hcc : cap0 = cap := by have := hg1.1; rw [this] at hcs0; omega
      subst hcc
      refine .inr ⟨g0, cap0, cur2, rfl, hb0, hg2, hnc0, hcm0, hcs2, ?_⟩
      rw [← reps_take A B n0 N hn, ← ht2, List.take_take, Nat.min_eq_left (by omega)]
    · refine .inr ⟨g0, cap0, cur0, rfl, hb0, ?_, hnc0, hcm0, hcs0, ht0⟩
      rw [hg.block g0 (Array.getElem?_eq_some_iff.1 hg0).1 (by simpa using he)]
      exact hg0

/-- 'x = append(l, m, ..)', l marked, as many marks more -/
theorem app_reps {w : World} {ops : Array Oper} {rest : List Oper} {o : Oper} {a : Act} {Q : Exit → Act → World → Prop} (hgd : o.guard = none) (s x : Operand) (t : TypeId)
    (ho : o.op = .call { callee := .builtin .append, args := #[s, x], argTypes := #[t, t] })
    (base : Nat) (e : TypeId) (ht : Try.prog.underlying t = some (.slice e)) (hinfo : (Try.prog.info? e).map (fun i => (i.zero, i.size, i.bytes)) = some (some (.agg #[.int .i64 0, .int .i64 0]), 2, 16))
    (lv : Value) (n m : Nat) (A B : Value) (hA : A.oneCell' = true) (hB : B.oneCell' = true) (C : Array Value) (hs : a.eval s = lv) (hx : a.eval x = .slice (some ⟨w.heap.size, 0, none⟩) m m) (hC : C.toList = reps A B m)
    (hown : w.ownsRow base e 2 lv n (reps A B n)) (hbase : base ≤ w.heap.size) (hlen : n + m ≤ 100000) (hm : 0 < m)
    (h : ∀ v' w', w'.ownsRow base e 2 v' (n + m) (reps A B (n + m)) → (∀ v0 n0, n0 ≤ n + m → w.ownsRow base e 2 v0 n0 (reps A B n0) → w'.ownsRow base e 2 v0 n0 (reps A B n0)) → w.grownBy w' lv.ownBlock → wpList Try.prog ops Q rest (a.put o.dst v') w') :
    wpList Try.prog ops Q (o :: rest) a (w.alloc (.cells C e)) := by
  obtain ⟨i0, hi, hz0, hz1, hz2⟩ := info_parts hinfo
  have hnews : ∀ j u, (reps A B m)[j]? = some u → (w.alloc (.cells C e)).cell? ((⟨w.heap.size, 0, none⟩ : Addr).add j) = some u := by
    intro j u hj
    rw [Addr.add_lit, Nat.zero_add, cell_of_row _ _ j C e (0, 0) (heap_alloc_new w _), ← hj, ← hC]
    simp
  have hal := hown.alloc (.cells C e)
  rcases hown.2 with ⟨hv, h0⟩ | ⟨g, cap, cur, hv, hb, hg, hnc, hcm, hcs, htk⟩
  · subst hv h0
    refine wpList_append_grows _ hgd s x t ho e i0 _ 2 16 ht hi hz0 hz1 hz2 rfl (by decide) none 0 0 [] hs (fun _ => ⟨rfl, rfl⟩) rfl (fun b hb => by cases hb) ⟨w.heap.size, 0, none⟩ m m (reps A B m) hx (reps_length A B m) hnews (reps_one A B hA hB m) ?_ (by unfold maxLen; omega) (by omega) ?_
    · omega
    · intro v' w' h1 h2
      have h3 := grown_alloc h2
      refine h v' w' ?_ (fun v0 n0 _ hv0 => hv0.kept h3 ?_) (grown_weak h3)
      · rw [reps_add]; exact own_base h1 (by simp; omega)
      · cases hq : v0.ownBlock <;> simp
  · subst hv
    by_cases hroom : n + m ≤ cap
    · refine wpList_append_fits _ hgd s x t ho base e i0 2 ht hi hz1 g n cap (reps A B n) hs hal ⟨w.heap.size, 0, none⟩ m m (reps A B m) hx (reps_length A B m) hnews (reps_one A B hA hB m) hroom ?_
      intro w' h1 h2
      rw [← reps_add] at h1
      have h3 := grown_alloc h2
      exact h _ w' h1 (fun v0 n0 hn0 hv0 => reps_stay hown h1 h3 hv0 hn0) h3
    · refine wpList_append_grows _ hgd s x t ho e i0 _ 2 16 ht hi hz0 hz1 hz2 rfl (by decide) (some ⟨g, 0, none⟩) n cap (reps A B n) hs (fun h => by cases h) (reps_length A B n) (fun b hb j u hj => ?_) ⟨w.heap.size, 0, none⟩ m m (reps A B m) hx (reps_length A B m) hnews (reps_one A B hA hB m) (by omega) (by unfold maxLen; omega) (by omega) ?_
      · obtain rfl := Option.some.inj hb
        exact hal.cells rfl j u hj
      · intro v' w' h1 h2
        have h3 := grown_alloc h2
        refine h v' w' ?_ (fun v0 n0 _ hv0 => hv0.kept h3 ?_) (grown_weak h3)
        · rw [reps_add]; exact own_base h1 (by simp; omega)
        · cases hq : v0.ownBlock <;> simp

end Go.Proofs.Ytfcbgfomhmcikaa

namespace Go.Proofs.Ytfcbgfomhmcikaa
open Go.RowKit

theorem Try.infoPls : (Try.prog.info? 52).map (fun i => (i.zero, i.size, i.bytes)) = some (some (.slice none 0 0), 1, 24) := by kernel_rfl

/-- the mark of the n-th list of places -/
def mp (n : Nat) : Value := .int .i64 (-1 - ((n / 4 : Nat) : Int))
theorem mp_one (n : Nat) : (mp n).oneCell' = true := rfl
theorem mp_same (n i : Nat) (h : n % 4 = 0) (hi : i < 4) : mp (n + i) = mp n := by
  unfold mp
  rw [show (n + i) / 4 = n / 4 by omega]

/-- the first k of a list's elements marked -/
def mixp (M : Value) (out : List (Nat × Nat)) (k : Nat) : List Value := reps M (.int .i64 0) k ++ (Se.pls out).drop (k * 2)
theorem mixp_zero (M : Value) (out : List (Nat × Nat)) : mixp M out 0 = Se.pls out := by simp [mixp, reps]
theorem mixp_whole (M : Value) (out : List (Nat × Nat)) (k : Nat) (h : out.length ≤ k) : mixp M out k = reps M (.int .i64 0) k := by
  rw [mixp, List.drop_of_length_le (by rw [Se.pls_length]; omega), List.append_nil]
theorem mixp_length (M : Value) (out : List (Nat × Nat)) (k : Nat) (h : k ≤ out.length) : (mixp M out k).length = out.length * 2 := by
  rw [mixp, List.length_append, reps_length, List.length_drop, Se.pls_length]; omega
theorem mixp_set (M : Value) (out : List (Nat × Nat)) (k : Nat) (h : k < out.length) : ((mixp M out k).set (k * 2) M).set (k * 2 + 1) (.int .i64 0) = mixp M out (k + 1) := by
  have hl := reps_length M (.int .i64 0) k
  have hp := Se.pls_length out
  rw [mixp, mixp, reps_succ, List.set_append, if_neg (by omega), hl, Nat.sub_self, List.set_append, if_neg (by omega), hl, show k * 2 + 1 - k * 2 = 1 by omega, List.append_assoc]
  congr 1
  rw [List.drop_eq_getElem_cons (i := k * 2) (by omega), List.drop_eq_getElem_cons (i := k * 2 + 1) (by omega), show k * 2 + 1 + 1 = (k + 1) * 2 by omega]
  simp only [List.set_cons_zero, List.set_cons_succ, List.cons_append, List.nil_append]

end Go.Proofs.Ytfcbgfomhmcikaa

namespace Go.Proofs.Ytfcbgfomhmcikaa
open Go.RowKit

/-- lists of places that came out, each as its owner has marked it -/
structure ShelfP (X : World) (g : Nat) (v : Value) (es : List Value) : Prop where
  list : X.ownsRow (g + 1) 52 1 v es.length es
  ent : ∀ i (h : i < es.length), ∃ n, n ≤ 100000 ∧ X.ownsRow (g + 1) 37 2 es[i] n (reps (mp i) (.int .i64 0) n)
  len : es.length ≤ 7000000000000

theorem shelfP_below {X Y : World} {g : Nat} {v : Value} {es : List Value} (h : ShelfP X g v es) (hb : Below X.heap.size X Y) : ShelfP Y g v es :=
  ⟨own_below h.list hb, fun i hi => let ⟨n, hn, ho⟩ := h.ent i hi; ⟨n, hn, own_below ho hb⟩, h.len⟩

theorem reps_at (A B : Value) (n q : Nat) (h : q < n) : (reps A B n)[q * 2]? = some A := by
  obtain ⟨m, rfl⟩ : ∃ m, n = q + (1 + m) := ⟨n - q - 1, by omega⟩
  rw [reps_add, reps_add, List.getElem?_append_right (by rw [reps_length]; exact Nat.le_refl _), reps_length, Nat.sub_self]
  rfl

theorem shelfP_at {X : World} {g : Nat} {a : Option Addr} {cap : Nat} {es : List Value} (h : ShelfP X g (.slice a es.length cap) es) (k : Nat) (hk : k < es.length) :
    ∃ (g1 : Nat) (la : Option Addr) (n lcap : Nat), a = some ⟨g1, 0, none⟩ ∧ X.cell? ⟨g1, k, none⟩ = some (.slice la n lcap) ∧ n ≤ 100000 ∧
      (0 < n → ∃ g2, la = some ⟨g2, 0, none⟩ ∧ ∀ q, q < n → X.cell? ⟨g2, q * 2, none⟩ = some (mp k)) := by
  obtain ⟨g1, cap1, hv, _, hg1⟩ := own_pos h.list (by omega)
  simp only [Value.slice.injEq, true_and] at hv
  obtain ⟨rfl, rfl⟩ := hv
  obtain ⟨n, hn, ho⟩ := h.ent k hk
  obtain ⟨la, lcap, hf⟩ := own_form ho
  refine ⟨g1, la, n, lcap, rfl, ?_, hn, ?_⟩
  · rw [h.list.cellAt k (by omega), List.getElem?_eq_getElem hk, hf]
  · intro hpos
    rw [hf] at ho
    obtain ⟨g2, cap2, hv2, _, hg2⟩ := own_pos ho hpos
    simp only [Value.slice.injEq, true_and] at hv2
    obtain ⟨rfl, rfl⟩ := hv2
    exact ⟨g2, rfl, fun q hq => (ho.cellAt (q * 2) (by omega)).trans (reps_at _ _ _ _ hq)⟩

end Go.Proofs.Ytfcbgfomhmcikaa

namespace Go.Proofs.Ytfcbgfomhmcikaa
open Go.RowKit

/-- the positions at which letters differ, or the first is N -/
def Ix.miss : List UInt8 → List UInt8 → Nat
  | a :: s, b :: t => (if a == b && a != 78 then 0 else 1) + Ix.miss s t
  | _, _ => 0

theorem Ix.miss_take : ∀ (s t : List UInt8) (k : Nat) (h1 : k < s.length) (h2 : k < t.length), Ix.miss (s.take (k + 1)) (t.take (k + 1)) = Ix.miss (s.take k) (t.take k) + (if s[k] == t[k] && s[k] != 78 then 0 else 1) := by
  intro s
  induction s with
  | nil => intro t k h1; simp at h1
  | cons a s ih =>
    intro t k h1 h2
    cases t with
    | nil => simp at h2
    | cons b t =>
      cases k with
      | zero => simp [Ix.miss]
      | succ k =>
        have := ih t k (by simpa using h1) (by simpa using h2)
        simp only [List.take_succ_cons, Ix.miss, List.getElem_cons_succ] at this ⊢
        omega

theorem Ix.miss_whole : ∀ (s t : List UInt8) (k : Nat), s.length ≤ k → Ix.miss (s.take k) (t.take k) = Ix.miss s t := by
  intro s
  induction s with
  | nil => intro t k _; simp [Ix.miss]
  | cons a s ih =>
    intro t k h
    obtain ⟨k, rfl⟩ : ∃ j, k = j + 1 := ⟨k - 1, by simp at h; omega⟩
    cases t with
    | nil => simp [Ix.miss]
    | cons b t => simp only [List.take_succ_cons, Ix.miss]; rw [ih t k (by simpa using h)]

theorem Ix.miss_part : ∀ (s t : List UInt8) (k : Nat), Ix.miss (s.take k) (t.take k) ≤ Ix.miss s t := by
  intro s
  induction s with
  | nil => intro t k; simp [Ix.miss]
  | cons a s ih =>
    intro t k
    cases k with
    | zero => simp [Ix.miss]
    | succ k =>
      cases t with
      | nil => simp [Ix.miss]
      | cons b t => have := ih t k; simp only [List.take_succ_cons, Ix.miss]; omega

theorem Ix.trn_sub {n : Int} (hn : Lt.strandB n = true) (c : UInt8) : Lt.trn c n = Lt.sub (Lt.frm n) (Lt.tow n) c := by
  have h4 : n = 1 ∨ n = 2 ∨ n = 3 ∨ n = 4 := by
    simp only [Lt.strandB, Bool.and_eq_true, decide_eq_true_eq] at hn
    omega
  rcases h4 with rfl | rfl | rfl | rfl <;> simp [Lt.trn, Lt.sub, Lt.frm, Lt.tow, Lt.topB]

theorem Ix.sub_78 {n : Int} (hn : Lt.strandB n = true) (c : UInt8) : (Lt.sub (Lt.frm n) (Lt.tow n) c = 78) ↔ c = 78 := by
  have h4 : n = 1 ∨ n = 2 ∨ n = 3 ∨ n = 4 := by
    simp only [Lt.strandB, Bool.and_eq_true, decide_eq_true_eq] at hn
    omega
  rcases h4 with rfl | rfl | rfl | rfl
  · exact Lt.every (p := fun c => (Lt.sub (Lt.frm 1) (Lt.tow 1) c = 78) ↔ c = 78) (by decide +kernel) c
  · exact Lt.every (p := fun c => (Lt.sub (Lt.frm 2) (Lt.tow 2) c = 78) ↔ c = 78) (by decide +kernel) c
  · exact Lt.every (p := fun c => (Lt.sub (Lt.frm 3) (Lt.tow 3) c = 78) ↔ c = 78) (by decide +kernel) c
  · exact Lt.every (p := fun c => (Lt.sub (Lt.frm 4) (Lt.tow 4) c = 78) ↔ c = 78) (by decide +kernel) c

theorem Ix.off_sub {n : Int} (hn : Lt.strandB n = true) (a b : UInt8) :
    (Lt.sub (Lt.frm n) (Lt.tow n) a == Lt.sub (Lt.frm n) (Lt.tow n) b && Lt.sub (Lt.frm n) (Lt.tow n) a != 78) = !Se.off n a b := by
  have ha := Ix.sub_78 hn a
  have hb := Ix.sub_78 hn b
  unfold Se.off
  rw [Ix.trn_sub hn, Ix.trn_sub hn]
  generalize Lt.sub (Lt.frm n) (Lt.tow n) a = A at *
  generalize Lt.sub (Lt.frm n) (Lt.tow n) b = B at *
  rw [Bool.eq_iff_iff]
  simp only [Bool.and_eq_true, beq_iff_eq, bne_iff_ne, Bool.not_eq_true', Bool.or_eq_false_iff, beq_eq_false_iff_ne, ne_eq, bne_eq_false_iff_eq]
  constructor
  · rintro ⟨h1, h2⟩
    exact ⟨⟨fun h => h2 (ha.2 h), fun h => h2 (h1.trans (hb.2 h))⟩, h1⟩
  · rintro ⟨⟨h1, _⟩, h2⟩
    exact ⟨h2, fun h => h1 (ha.1 h)⟩

theorem Ix.miss_conv {n : Int} (hn : Lt.strandB n = true) : ∀ (s t : List UInt8), Ix.miss (Lt.conv (Lt.frm n) (Lt.tow n) s) (Lt.conv (Lt.frm n) (Lt.tow n) t) = Se.three n s t := by
  intro s
  induction s with
  | nil => intro t; simp [Ix.miss, Se.three, Lt.conv]
  | cons a s ih =>
    intro t
    cases t with
    | nil => simp [Ix.miss, Se.three, Lt.conv]
    | cons b t =>
      have := ih t
      simp only [Lt.conv, List.map_cons, Ix.miss, Se.three] at this ⊢
      rw [this, Ix.off_sub hn]
      cases Se.off n a b <;> simp

theorem Ix.conv_drop (f t : UInt8) (l : List UInt8) (k : Nat) : Lt.conv f t (l.drop k) = (Lt.conv f t l).drop k := by simp [Lt.conv]

theorem Ix.conv_drop_miss {n : Int} (hn : Lt.strandB n = true) (s t : List UInt8) (p : Nat) (b : Int) :
    decide ((Ix.miss (Lt.conv (Lt.frm n) (Lt.tow n) s) ((Lt.conv (Lt.frm n) (Lt.tow n) t).drop p) : Int) ≤ b) = Se.stands n b s t p := by
  rw [← Ix.conv_drop, Ix.miss_conv hn, Se.stands]

end Go.Proofs.Ytfcbgfomhmcikaa

namespace Go.Proofs.Ytfcbgfomhmcikaa
open Go.RowKit

set_option maxRecDepth 100000 in
set_option maxHeartbeats 1600000 in
theorem stands_any (s t : ByteArray) (b : Int) (w : World) (ht : s.size ≤ t.size) (htm : t.size ≤ 140737488355327) (hb0 : 0 ≤ b) (hb3 : b ≤ 3) :
    Calls Try.prog 48 #[.string s, .string t, .int .i64 b] w fun e w' => e = .returned (.bool (decide ((Ix.miss s.data.toList t.data.toList : Int) ≤ b))) ∧ ∃ m, w' = w.drewN m := by
  go_enter Try.func48, Try.ntmps48
  go_wp2
  go_loopw [2, 10] (fun v i wr => ∃ k j : Nat, k ≤ s.size ∧ i = .int .i64 (k : Int) ∧ v = .int .i64 (b - (j : Int)) ∧ (j : Int) ≤ b ∧ Hid (j = Ix.miss (s.data.toList.take k) (t.data.toList.take k)) ∧ Hid (∃ q, wr = w.drewN q)) (fun _ i _ => s.size - (intOf i).toNat)
  case atStart => exact ⟨0, 0, Nat.zero_le _, rfl, by simp, by simpa using hb0, by simp [Ix.miss, Hid], ⟨0, rfl⟩⟩
  case round =>
    obtain ⟨k, j, hk, rfl, rfl, hjb, HJ, HW⟩ := hrel
    by_cases hlt : k < s.size
    · have hlt2 : k < t.size := by omega
      have HT : Hid _ := Ix.miss_take s.data.toList t.data.toList k (by simpa using hlt) (by simpa using hlt2)
      have HP : Hid _ := Ix.miss_part s.data.toList t.data.toList (k + 1)
      have hi1 := ix_str s k hlt (k : Int) rfl
      have hi2 := ix_str t k hlt2 (k : Int) rfl
      have hlt' : (k : Int) < (s.size : Int) := by omega
      have hlt2' : (k : Int) < (t.size : Int) := by omega
      have ho : (s[k] == t[k] && s[k] != 78) = (((s[k].toNat : Int) == (t[k].toNat : Int)) && ((s[k].toNat : Int) != 78)) := by
        have e1 := u8_bne s[k] t[k]
        have e2 := u8_bne s[k] 78
        have e3 : (s[k] == t[k]) = ((s[k].toNat : Int) == (t[k].toNat : Int)) := by
          simp only [bne] at e1
          exact Bool.not_inj e1
        rw [e3, e2]
        rfl
      have HO : Hid _ := ho
      clear ho
      cases h1 : ((s[k].toNat : Int) == (t[k].toNat : Int)) <;> cases h2 : ((s[k].toNat : Int) != 78) <;> cases h3 : (b - (j : Int) == 0)
      all_goals
        have HOF : Hid _ := HO.out
        rw [h1, h2] at HOF
        clear HO
        go_wp2_with fail
        go_quiet (fail)
        go_wp2
        first
          | (go_roundw
             case rel =>
               have e1 : (s[k] == t[k] && s[k] != 78) = _ := HOF.out
               simp only [Bool.and_false, Bool.and_true, Bool.and_self] at e1
               have e2 : Ix.miss (s.data.toList.take (k + 1)) (t.data.toList.take (k + 1)) = Ix.miss (s.data.toList.take k) (t.data.toList.take k) + (if s[k] == t[k] && s[k] != 78 then 0 else 1) := HT.out
               rw [e1] at e2
               refine ⟨k + 1, _, by omega, by go_num, ?_, ?_, e2.symm, ?_⟩
               · rw [← HJ.out]; first | rfl | (simp; done) | go_num
               · rw [← HJ.out]
                 have h3' : _ := h3
                 simp only [beq_eq_false_iff_ne, beq_iff_eq] at h3'
                 simp
                 omega
               · obtain ⟨q, rfl⟩ := HW.out
                 exact ⟨q + nq, by rw [drewN_more]⟩
             case measure => simp [intOf]; omega)
          | (go_ret
             refine ⟨ret_bool ?_, ?_⟩
             · have e1 : (s[k] == t[k] && s[k] != 78) = _ := HOF.out
               simp only [Bool.and_false, Bool.and_true, Bool.and_self] at e1
               have e2 : Ix.miss (s.data.toList.take (k + 1)) (t.data.toList.take (k + 1)) = Ix.miss (s.data.toList.take k) (t.data.toList.take k) + (if s[k] == t[k] && s[k] != 78 then 0 else 1) := HT.out
               rw [e1, ← HJ.out] at e2
               have e3 := HP.out
               simp only [beq_iff_eq] at h3
               simp at e2
               symm
               rw [decide_eq_false_iff_not]
               omega
             · obtain ⟨q, rfl⟩ := HW.out
               exact ⟨q + nq, by rw [drewN_more]⟩)
    · have HF : Hid _ := Ix.miss_whole s.data.toList t.data.toList k (by simp; omega)
      have hlt' : ¬ (k : Int) < (s.size : Int) := by omega
      go_wp2
      go_ret
      refine ⟨ret_bool ?_, HW.out⟩
      symm
      rw [decide_eq_true_iff, ← HF.out, ← HJ.out]
      exact hjb

end Go.Proofs.Ytfcbgfomhmcikaa

namespace Go.Proofs.Ytfcbgfomhmcikaa
open Go.RowKit

theorem extract_tail (l : List UInt8) (q : Nat) (_h : q ≤ l.length) : ((⟨l.toArray⟩ : ByteArray).extract q l.length).data.toList = l.drop q := by
  rw [extract_piece]
  show Tx.piece ⟨l.toArray⟩ q l.length = _
  rw [Tx.piece]
  show (l.drop q).take (l.length - q) = _
  rw [List.take_of_length_le (by simp)]

set_option maxRecDepth 100000 in
set_option maxHeartbeats 4000000 in
theorem places_any (cs : List Pr) (gx cc : Nat) (S : List UInt8) (n b : Int) (w : World) (hn : Lt.strandB n = true) (hb0 : 0 ≤ b) (hb3 : b ≤ 3) (hc : cs.length ≤ 1000) (hN : ∀ x ∈ cs, x.2.length ≤ 100000) (hS : S.length ≤ 1000)
    (hcell : ∀ k (h : k < cs.length), w.cell? ⟨gx, k, none⟩ = some (Ix.str n cs[k])) :
    Calls Try.prog 33 #[.slice (some ⟨gx, 0, none⟩) cs.length cc, .string ⟨(Lt.conv (Lt.frm n) (Lt.tow n) S).toArray⟩, .int .i64 b] w fun e w' =>
      ∃ v, e = .returned v ∧ w'.ownsRow w.heap.size 37 2 v (Se.inAll n b S cs cs.length).length (Se.pls (Se.inAll n b S cs cs.length)) ∧ Below w.heap.size w w' := by
  have HN : Hid _ := hN
  have HCL : Hid _ := hcell
  have HST0 : Hid _ := hn
  clear hN hcell hn
  obtain ⟨s, hs⟩ : ∃ s : ByteArray, s = ⟨(Lt.conv (Lt.frm n) (Lt.tow n) S).toArray⟩ := ⟨_, rfl⟩
  rw [← hs]
  have hss : s.size = S.length := by rw [hs]; simp [ByteArray.size, Lt.conv_length]
  have HS : Hid (s.data.toList = Lt.conv (Lt.frm n) (Lt.tow n) S) := by show _ = _; rw [hs]
  clear hs
  go_enter Try.func33, Try.ntmps33
  go_wp2
  go_loopw [7, 13] (fun v i wr => ∃ k : Nat, k ≤ cs.length ∧ i = .int .i64 (k : Int) ∧ wr.ownsRow w.heap.size 37 2 v (Se.inAll n b S cs k).length (Se.pls (Se.inAll n b S cs k)) ∧ Below w.heap.size w wr) (fun _ i _ => cs.length - (intOf i).toNat)
  case atStart => exact ⟨0, Nat.zero_le _, rfl, World.ownsRow_nil _ _ _ _, Below.refl _ _⟩
  case round =>
    obtain ⟨k, hk, rfl, hown, hbel⟩ := hrel
    by_cases hlt : k < cs.length
    · have hlt' : (k : Int) < (cs.length : Int) := by omega
      have hck : wr.cell? ⟨gx, k, none⟩ = some (Ix.str n cs[k]) := by
        have h0 := HCL.out k hlt
        rw [hbel.cell (p := ⟨gx, k, none⟩) (World.block_lt_of_cell? w _ h0)]
        exact h0
      obtain ⟨x, hx⟩ : ∃ x, x = cs[k] := ⟨_, rfl⟩
      have hxN : x.2.length ≤ 100000 := HN.out x (by rw [hx]; exact List.getElem_mem _)
      have HX : Hid (Se.inAll n b S cs (k + 1) = Se.inAll n b S cs k ++ Se.inOne n b S x.2 k) := by show _ = _; rw [Se.inAll, List.getElem?_eq_getElem hlt, hx]
      have HLEN : Hid _ := Se.inAll_length n b S cs 100000 HN.out k
      rw [← hx, Ix.str] at hck
      clear hx
      obtain ⟨T, hT⟩ : ∃ T, T = Lt.conv (Lt.frm n) (Lt.tow n) x.2 := ⟨_, rfl⟩
      have HTL : Hid (T.length = x.2.length) := by show _ = _; rw [hT, Lt.conv_length]
      have hTN : T.length ≤ 100000 := by rw [HTL.out]; exact hxN
      rw [← hT] at hck
      have HT : Hid _ := hT
      clear hT
      have hTs : (⟨T.toArray⟩ : ByteArray).size = T.length := by simp [ByteArray.size]
      generalize hP : Se.inAll n b S cs k = P at *
      clear hP
      obtain ⟨va, vcap, hv⟩ := own_form hown
      subst hv
      have HO0 : Hid _ := hown
      have HB0 : Hid _ := hbel
      clear hown hbel
      go_wp2
      go_loopw [7, 24] (fun v i wr2 => ∃ q : Nat, q ≤ T.length + 1 - S.length ∧ i = .int .i64 (q : Int) ∧ wr2.ownsRow w.heap.size 37 2 v (P ++ Se.upto n b S x.2 k q).length (Se.pls (P ++ Se.upto n b S x.2 k q)) ∧ Below w.heap.size w wr2) (fun _ i _ => T.length + 1 - S.length - (intOf i).toNat)
      case atStart => exact ⟨0, Nat.zero_le _, rfl, by rw [show P ++ Se.upto n b S x.2 k 0 = P from by simp [Se.upto]]; exact HO0.out, HB0.out⟩
      case round =>
        clear HO0 HB0 hck
        obtain ⟨q, hq, rfl, hown, hbel⟩ := hrel
        obtain ⟨va2, vcap2, hv⟩ := own_form hown
        subst hv
        by_cases hin : q + S.length ≤ T.length
        · have hin' : (q : Int) < (T.length : Int) - (S.length : Int) + 1 := by omega
          have hqT : q ≤ T.length := by omega
          have hex := extract_tail T q hqT
          have hes : s.size ≤ ((⟨T.toArray⟩ : ByteArray).extract q T.length).size := by rw [ByteArray.size_extract, hTs]; omega
          have hem : ((⟨T.toArray⟩ : ByteArray).extract q T.length).size ≤ 140737488355327 := by rw [ByteArray.size_extract, hTs]; omega
          have HRES : Hid (decide ((Ix.miss s.data.toList ((⟨T.toArray⟩ : ByteArray).extract q T.length).data.toList : Int) ≤ b) = Se.stands n b S x.2 q) := by
            show _ = _
            rw [hex, HS.out, HT.out]
            exact Ix.conv_drop_miss HST0.out S x.2 q b
          have HOWN : Hid _ := hown
          have HUP : Hid _ := Se.upto_succ n b S x.2 k q
          have HUL : Hid _ := Se.upto_length n b S x.2 k q
          clear hex hown
          go_wp2_with fail
          refine (stands_any s _ b _ hes hem hb0 hb3).mono ?_
          rw [HRES.out]
          rintro e w2 ⟨rfl, hw2⟩
          have hb2 : Below wr.heap.size wr w2 := by obtain ⟨m, rfl⟩ := hw2; exact below_drewN (Below.refl _ _) m
          have HO2 : Hid _ := own_below HOWN.out hb2
          have hbel2 := hbel.trans (hb2.mono hbel.size)
          have HB2 : Hid _ := hbel2
          clear hw2 hb2 HRES HOWN hes hem
          have hsz2 := hbel2.size
          clear hbel2 hbel
          have HPL : Hid ((P ++ Se.upto n b S x.2 k q).length ≤ 1000 * 100001 + 100001) := by
            show _ ≤ _
            have h1 := HLEN.out
            have h2 := HUL.out
            have h3 : k * (100000 + 1) ≤ 1000 * (100000 + 1) := Nat.mul_le_mul_right _ (by omega)
            rw [List.length_append]
            omega
          obtain ⟨L, hL⟩ : ∃ L, L = P ++ Se.upto n b S x.2 k q := ⟨_, rfl⟩
          rw [← hL] at HO2 HPL ⊢
          have HL : Hid _ := hL
          clear hL
          cases hst : Se.stands n b S x.2 q with
          | true =>
            have HST : Hid _ := hst
            clear hst
            have hpl := HPL.out
            go_wp2_with (at_builtin; refine app_src rfl _ _ 52 rfl w.heap.size 37 _ 2 16 Try.underlying52 Try.infoPlace rfl (by decide) (.slice va2 L.length vcap2) L.length (Se.pls L) (.slice (some ⟨w2.heap.size, 0, none⟩) 1 1) 1 [.int .i64 (k : Int), .int .i64 (q : Int)] rfl rfl (by exact World.ownsRow.alloc HO2.out _) (.inr ⟨_, _, rfl, by exact two_cells _ _ _ _⟩) rfl (by simp [Value.oneCell']) (by exact Below.alloc HB2.out hsz2 _) (by simp; omega) (by omega) (by decide) ?_; intro v3 w3 hown3 hbel3 _ _)
            go_roundw
            case rel =>
              refine ⟨q + 1, by omega, by go_num, ?_, hbel3⟩
              rw [HUP.out, HST.out, if_pos rfl, ← List.append_assoc, ← HL.out, Se.pls_append, List.length_append]
              exact hown3
            case measure => simp [intOf]; omega
          | false =>
            have HST : Hid _ := hst
            clear hst
            go_wp2
            go_roundw
            case rel =>
              refine ⟨q + 1, by omega, by go_num, ?_, HB2.out⟩
              rw [HUP.out, HST.out, if_neg (by simp), List.append_nil, ← HL.out]
              exact HO2.out
            case measure => simp [intOf]; omega
        · have hin' : ¬ (q : Int) < (T.length : Int) - (S.length : Int) + 1 := by omega
          have HQE : Hid (q = x.2.length + 1 - S.length) := by show _ = _; have := HTL.out; omega
          have HOWN : Hid _ := hown
          have HB2 : Hid _ := hbel
          clear hown hbel
          go_wp2
          go_roundw
          case rel =>
            refine ⟨k + 1, by omega, by go_num, ?_, HB2.out⟩
            rw [HX.out, Se.inOne, ← HQE.out]
            exact HOWN.out
          case measure => simp [intOf]; omega
    · have hke : k = cs.length := by omega
      have hlt' : ¬ (k : Int) < (cs.length : Int) := by omega
      rw [hke] at hown
      have HO : Hid _ := hown
      clear hke hown
      go_wp2
      go_ret
      exact ⟨_, rfl, HO.out, hbel⟩

end Go.Proofs.Ytfcbgfomhmcikaa
