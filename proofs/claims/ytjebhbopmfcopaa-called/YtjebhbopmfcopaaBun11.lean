/-
  THE PROGRAM'S Align: the candidates of all strands are weighed. Own text of the verifier.
  PLAIN MATHEMATICS: what the program chooses is what the document's record says. Own text of the verifier.
  PLAIN MATHEMATICS of what follows (P10 to P12): the least mismatches of all candidates, in whatever order they come. Own text of the verifier.
  THE WALK of the statement's own 'letters': letters made of any text. Own text of the verifier.
  THE WALK of 'pick'. Own text of the verifier.
  THE WALKS of the small functions of the statements of what follows. Own text of the verifier.
-/
import Derived.Test.YtjebhbopmfcopaaXPaWeigh
import Derived.Test.YtjebhbopmfcopaaBun8
import Derived.Deep.RegionHeld3
import Derived.Test.YtjebhbopmfcopaaBun1
import Derived.Test.YtjebhbopmfcopaaBun9
import Derived.Deep.RegionWith
import Derived.Test.YtjebhbopmfcopaaBun2
namespace Go.Proofs.Ytjebhbopmfcopaa
open Go.RowKit

/-- the candidate of a place -/
def Pa.cand (n : Int) (s : List UInt8) (cs : List Pr) (q : Nat × Nat) : Pa.Cd := ⟨n, q.1, q.2, s, Al.mis n s ((cs.getD q.1 ([], [])).2.drop q.2)⟩
/-- all candidates of a strand -/
def Pa.strand (r : List UInt8) (b : Int) (cs : List Pr) (x : Pa.Ch) (n : Int) : Pa.Ch := (Se.inAll n b (Al.along r n) cs cs.length).foldl (fun x q => Pa.weigh x (Pa.cand n (Al.along r n) cs q)) x
/-- the strands from 1 to k -/
def Pa.upto (r : List UInt8) (b : Int) (cs : List Pr) : Nat → Pa.Ch
  | 0 => Pa.zero
  | k + 1 => Pa.strand r b cs (Pa.upto r b cs k) ((k + 1 : Nat) : Int)

theorem Pa.weigh_eq (x : Pa.Ch) (o : Pa.Cd) : (Pa.weigh x o).eq ≤ x.eq + 1 := by
  unfold Pa.weigh
  split
  · simp
  · split
    · simp
    · split <;> simp
theorem Pa.fold_eq (n : Int) (s : List UInt8) (cs : List Pr) : ∀ (l : List (Nat × Nat)) (x : Pa.Ch), (l.foldl (fun x q => Pa.weigh x (Pa.cand n s cs q)) x).eq ≤ x.eq + l.length := by
  intro l
  induction l with
  | nil => intro x; simp
  | cons q l ih =>
    intro x
    have h1 := ih (Pa.weigh x (Pa.cand n s cs q))
    have h2 := Pa.weigh_eq x (Pa.cand n s cs q)
    simp only [List.foldl_cons, List.length_cons]
    omega
theorem Pa.places_few {cs : List Pr} (h : Se.Right cs) (n b : Int) (S : List UInt8) : (Se.inAll n b S cs cs.length).length ≤ 90000 := by
  have h1 := Se.inAll_length n b S cs 4096 h.len cs.length
  have h2 := h.few
  have h3 : cs.length * (4096 + 1) ≤ 16 * (4096 + 1) := Nat.mul_le_mul_right _ h2
  omega
theorem Pa.upto_eq {cs : List Pr} (h : Se.Right cs) (r : List UInt8) (b : Int) : ∀ k, (Pa.upto r b cs k).eq ≤ k * 90000 := by
  intro k
  induction k with
  | zero => simp [Pa.upto, Pa.zero]
  | succ k ih =>
    have h1 := Pa.fold_eq ((k + 1 : Nat) : Int) (Al.along r ((k + 1 : Nat) : Int)) cs (Se.inAll ((k + 1 : Nat) : Int) b (Al.along r ((k + 1 : Nat) : Int)) cs cs.length) (Pa.upto r b cs k)
    have h2 := Pa.places_few h ((k + 1 : Nat) : Int) b (Al.along r ((k + 1 : Nat) : Int))
    show (Pa.strand r b cs (Pa.upto r b cs k) ((k + 1 : Nat) : Int)).eq ≤ _
    unfold Pa.strand
    omega

/-- how it stands within choose -/
structure PaB (w wr : World) (x : Pa.Ch) : Prop where
  below : Below w.heap.size w wr
  size : w.heap.size + 2 ≤ wr.heap.size
  res : wr.heap[w.heap.size]? = some (.cells Pa.zero.vals 69 (0, 0))
  box : wr.heap[w.heap.size + 1]? = some (.cells x.vals 69 (0, 0))
theorem PaB.mono {w wr wr' : World} {x : Pa.Ch} (h : PaB w wr x) (hb : Below wr.heap.size wr wr') : PaB w wr' x := by
  have h2 := h.size
  exact ⟨h.below.trans (hb.mono (by omega)), Nat.le_trans h.size hb.size, (hb.block _ (by omega)).trans h.res, (hb.block _ (by omega)).trans h.box⟩
theorem PaB.turn {w wr wr' : World} {x y : Pa.Ch} (h : PaB w wr x) (t : Pa.T (w.heap.size + 1) wr wr' y.vals) : PaB w wr' y := by
  have h2 := h.size
  exact ⟨h.below.trans (t.beneath (by omega) (by omega)), Nat.le_trans h.size t.size, (t.other _ (by omega) (by omega)).trans h.res, t.row⟩

/-- places that were found, as they lie -/
def Pa.Pl (W : World) (lo : Nat) (va : Option Addr) (l : List (Nat × Nat)) : Prop :=
  ∀ j (h : j < l.length), ∃ gv, va = some ⟨gv, 0, none⟩ ∧ lo ≤ gv ∧ gv < W.heap.size ∧ W.cell? ⟨gv, j * 2, none⟩ = some (.int .i64 (l[j].1 : Int)) ∧ W.cell? ⟨gv, j * 2 + 1, none⟩ = some (.int .i64 (l[j].2 : Int))
theorem Pa.Pl.of_own {W : World} {lo : Nat} {va : Option Addr} {vc : Nat} {l : List (Nat × Nat)} (h : W.ownsRow lo 37 2 (.slice va l.length vc) l.length (Se.pls l)) : Pa.Pl W lo va l := by
  intro j hj
  obtain ⟨g, c, hv, h1, h2⟩ := own_pos h (by omega)
  simp only [Value.slice.injEq, true_and] at hv
  obtain ⟨rfl, rfl⟩ := hv
  obtain ⟨p0, p1⟩ := own_place h j hj
  exact ⟨g, rfl, h1, h2, p0, p1⟩
theorem Pa.cell_same {w w' : World} {p : Addr} (h : w'.heap[p.block]? = w.heap[p.block]?) : w'.cell? p = w.cell? p := by
  unfold World.cell?
  rw [h]
theorem Pa.Pl.mono {W W' : World} {lo : Nat} {va : Option Addr} {l : List (Nat × Nat)} (h : Pa.Pl W lo va l) (hb : Below W.heap.size W W') : Pa.Pl W' lo va l := by
  intro j hj
  obtain ⟨g, h1, h2, h3, h4, h5⟩ := h j hj
  exact ⟨g, h1, h2, Nat.lt_of_lt_of_le h3 hb.size, (Pa.cell_same (hb.block g h3)).trans h4, (Pa.cell_same (hb.block g h3)).trans h5⟩
theorem Pa.Pl.turn {W W' : World} {lo g : Nat} {va : Option Addr} {l : List (Nat × Nat)} {A : Array Value} (h : Pa.Pl W lo va l) (t : Pa.T g W W' A) (hg : g < lo) : Pa.Pl W' lo va l := by
  intro j hj
  obtain ⟨gv, h1, h2, h3, h4, h5⟩ := h j hj
  exact ⟨gv, h1, h2, Nat.lt_of_lt_of_le h3 t.size, (Pa.cell_same (t.other gv h3 (by omega))).trans h4, (Pa.cell_same (t.other gv h3 (by omega))).trans h5⟩

theorem ix_four (k : Nat) (h : k < 4) (wy : World) : (Instr.index 81 (.agg #[.int .i64 1, .int .i64 2, .int .i64 3, .int .i64 4]) (.int .i64 (k : Int))).run Try.prog wy = .ok (.int .i64 ((k : Int) + 1)) wy := by
  obtain rfl | rfl | rfl | rfl : k = 0 ∨ k = 1 ∨ k = 2 ∨ k = 3 := by omega
  all_goals first | kernel_rfl | go_simp

end Go.Proofs.Ytjebhbopmfcopaa

namespace Go.Proofs.Ytjebhbopmfcopaa
open Go.RowKit

def Pa.unm (nm : List UInt8) : Rc := ⟨nm, 0, 0, [], 0, 0, [], []⟩
def Pa.amb (nm : List UInt8) : Rc := ⟨nm, 2, 0, [], 0, 0, [], []⟩
def Pa.rec (nm : List UInt8) (x : Pa.Cd) (z : Pr) : Rc := ⟨nm, 1, x.n, z.1, (x.a : Int), (x.m : Int), x.s, Al.calls x.n x.s z.2 x.a x.s.length⟩
/-- what is so of a candidate -/
structure Pa.Ok (cs : List Pr) (b : Int) (x : Pa.Cd) (z : Pr) : Prop where
  at_ : cs[x.c]? = some z
  lies : x.a + x.s.length ≤ z.2.length
  strand : Lt.strandB x.n = true
  short : x.s.length ≤ 128
  mis : x.m = Al.mis x.n x.s (z.2.drop x.a)
  three : (Se.three x.n x.s (z.2.drop x.a) : Int) ≤ b

inductive Pa.Rel (nm : List UInt8) (cs : List Pr) (b : Int) (st : Al.St) (x : Pa.Ch) : Prop
  | none (h1 : x.eq = 0) (h2 : st.least = -1) (h3 : st.best = Pa.unm nm)
  | one (z : Pr) (h1 : x.eq = 1) (h2 : st.least = (x.b.m : Int)) (h3 : st.best = Pa.rec nm x.b z) (h4 : Pa.Ok cs b x.b z)
  | more (z : Pr) (h1 : 2 ≤ x.eq) (h2 : st.least = (x.b.m : Int)) (h3 : st.best = Pa.amb nm) (h4 : Pa.Ok cs b x.b z)

theorem Pa.rel_step {nm : List UInt8} {cs : List Pr} {b : Int} {st : Al.St} {x : Pa.Ch} {n : Int} {s : List UInt8} {q : Nat × Nat} {z : Pr} (h : Pa.Rel nm cs b st x) (hz : cs[q.1]? = some z) (hq : q.2 + s.length ≤ z.2.length) (hn : Lt.strandB n = true) (hs : s.length ≤ 128) (h3 : (Se.three n s (z.2.drop q.2) : Int) ≤ b) :
    Pa.Rel nm cs b (Al.step nm n s cs st q) (Pa.weigh x (Pa.cand n s cs q)) := by
  have hc : Pa.cand n s cs q = ⟨n, q.1, q.2, s, Al.mis n s (z.2.drop q.2)⟩ := by
    unfold Pa.cand
    rw [List.getD_eq_getElem?_getD, hz]
    rfl
  have ho : Pa.Ok cs b ⟨n, q.1, q.2, s, Al.mis n s (z.2.drop q.2)⟩ z := ⟨hz, hq, hn, hs, rfl, h3⟩
  rw [hc]
  unfold Al.step
  rw [hz]
  dsimp only
  unfold Pa.weigh
  dsimp only
  obtain ⟨m, hm⟩ : ∃ m, m = Al.mis n s (z.2.drop q.2) := ⟨_, rfl⟩
  rw [← hm] at ho ⊢
  cases h with
  | none h1 h2 h3 =>
    rw [if_pos h1, if_neg (show ¬ (0 ≤ st.least ∧ st.least < (m : Int)) by omega), if_neg (show ¬ (m : Int) = st.least by omega)]
    exact .one z rfl rfl rfl ho
  | one y h1 h2 h3 h4 =>
    rw [if_neg (show ¬ x.eq = 0 by omega)]
    by_cases hA : x.b.m < m
    · rw [if_pos (show 0 ≤ st.least ∧ st.least < (m : Int) by omega), if_neg (show ¬ m < x.b.m by omega), if_neg (show ¬ m = x.b.m by omega)]
      exact .one y h1 h2 h3 h4
    · rw [if_neg (show ¬ (0 ≤ st.least ∧ st.least < (m : Int)) by omega)]
      by_cases hB : m = x.b.m
      · rw [if_pos (show (m : Int) = st.least by omega), if_neg (show ¬ m < x.b.m by omega), if_pos hB]
        exact .more y (by simp only; omega) h2 rfl h4
      · rw [if_neg (show ¬ (m : Int) = st.least by omega), if_pos (show m < x.b.m by omega)]
        exact .one z rfl rfl rfl ho
  | more y h1 h2 h3 h4 =>
    rw [if_neg (show ¬ x.eq = 0 by omega)]
    by_cases hA : x.b.m < m
    · rw [if_pos (show 0 ≤ st.least ∧ st.least < (m : Int) by omega), if_neg (show ¬ m < x.b.m by omega), if_neg (show ¬ m = x.b.m by omega)]
      exact .more y h1 h2 h3 h4
    · rw [if_neg (show ¬ (0 ≤ st.least ∧ st.least < (m : Int)) by omega)]
      by_cases hB : m = x.b.m
      · rw [if_pos (show (m : Int) = st.least by omega), if_neg (show ¬ m < x.b.m by omega), if_pos hB]
        exact .more y (by simp only; omega) h2 rfl h4
      · rw [if_neg (show ¬ (m : Int) = st.least by omega), if_pos (show m < x.b.m by omega)]
        exact .one z rfl rfl rfl ho

theorem Pa.rel_fold {nm : List UInt8} {cs : List Pr} {b n : Int} {s : List UInt8} (hn : Lt.strandB n = true) (hs : s.length ≤ 128) : ∀ (l : List (Nat × Nat)) (st : Al.St) (x : Pa.Ch), (∀ q ∈ l, ∃ z, cs[q.1]? = some z ∧ q.2 + s.length ≤ z.2.length ∧ (Se.three n s (z.2.drop q.2) : Int) ≤ b) → Pa.Rel nm cs b st x → Pa.Rel nm cs b (l.foldl (Al.step nm n s cs) st) (l.foldl (fun x q => Pa.weigh x (Pa.cand n s cs q)) x) := by
  intro l
  induction l with
  | nil => intro st x _ h; exact h
  | cons q l ih =>
    intro st x hl h
    obtain ⟨z, h1, h2, h3⟩ := hl q List.mem_cons_self
    exact ih _ _ (fun q' hq' => hl q' (List.mem_cons_of_mem _ hq')) (Pa.rel_step h h1 h2 hn hs h3)

theorem Pa.rel {nm r : List UInt8} {cs : List Pr} {b : Int} (hr : r.length ≤ 128) : ∀ k, k ≤ 4 → Pa.Rel nm cs b (Al.upto nm r b cs k) (Pa.upto r b cs k) := by
  intro k
  induction k with
  | zero => intro _; exact .none rfl rfl rfl
  | succ k ih =>
    intro hk
    refine Pa.rel_fold ?_ (by rw [Al.along_length]; exact hr) _ _ _ ?_ (ih (by omega))
    · rw [Lt.strandB, Bool.and_eq_true]
      exact ⟨decide_eq_true (by omega), decide_eq_true (by omega)⟩
    · intro q hq
      obtain ⟨_, z, h1, h2, h3⟩ := Se.inAll_mem _ b _ cs cs.length q hq
      exact ⟨z, h1, h2, h3⟩

end Go.Proofs.Ytjebhbopmfcopaa

namespace Go.Proofs.Ytjebhbopmfcopaa
open Go.RowKit

theorem Se.mem_inAll {n b : Int} {s : List UInt8} {cs : List Pr} {q : Nat × Nat} {x : Pr} (hx : cs[q.1]? = some x) (hq : q.2 + s.length ≤ x.2.length) (h3 : (Se.three n s (x.2.drop q.2) : Int) ≤ b) : ∀ k, q.1 < k → q ∈ Se.inAll n b s cs k := by
  intro k
  induction k with
  | zero => intro h; omega
  | succ k ih =>
    intro h
    rw [Se.inAll, List.mem_append]
    by_cases hk : q.1 < k
    · exact .inl (ih hk)
    · have hk' : k = q.1 := by omega
      subst hk'
      right
      rw [hx]
      dsimp only
      rw [Se.inOne, Se.upto, List.mem_map]
      exact ⟨q.2, by rw [List.mem_filter, List.mem_range]; exact ⟨by omega, by rw [Se.stands]; exact decide_eq_true h3⟩, rfl⟩

/-- some candidate had at most m mismatches -/
def Al.Le (st : Al.St) (m : Int) : Prop := 0 ≤ st.least ∧ st.least ≤ m

section
variable {nm : List UInt8} {n : Int} {s : List UInt8} {cs : List Pr}

theorem Al.step_keep {st : Al.St} {m : Int} (q : Nat × Nat) (h : Al.Le st m) : Al.Le (Al.step nm n s cs st q) m := by
  obtain ⟨h1, h2⟩ := h
  unfold Al.step Al.Le
  split
  · exact ⟨h1, h2⟩
  · split
    · exact ⟨h1, h2⟩
    · split
      · exact ⟨h1, h2⟩
      · simp only; omega

theorem Al.step_in {st : Al.St} {q : Nat × Nat} {z : Pr} (hz : cs[q.1]? = some z) : Al.Le (Al.step nm n s cs st q) (Al.mis n s (z.2.drop q.2) : Int) := by
  unfold Al.step Al.Le
  rw [hz]
  dsimp only
  split
  · next hA => exact ⟨hA.1, by omega⟩
  · split
    · simp only; omega
    · simp only; omega

theorem Al.fold_keep {m : Int} : ∀ (l : List (Nat × Nat)) (st : Al.St), Al.Le st m → Al.Le (l.foldl (Al.step nm n s cs) st) m := by
  intro l
  induction l with
  | nil => intro st h; exact h
  | cons q l ih => intro st h; exact ih _ (Al.step_keep q h)
theorem Al.fold_in {q : Nat × Nat} {z : Pr} (hz : cs[q.1]? = some z) : ∀ (l : List (Nat × Nat)) (st : Al.St), q ∈ l → Al.Le (l.foldl (Al.step nm n s cs) st) (Al.mis n s (z.2.drop q.2) : Int) := by
  intro l
  induction l with
  | nil => intro st h; simp at h
  | cons p l ih =>
    intro st h
    rcases List.mem_cons.1 h with rfl | h
    · exact Al.fold_keep l _ (Al.step_in hz)
    · exact ih _ h
end

theorem Al.upto_in {nm r : List UInt8} {b : Int} {cs : List Pr} {n : Nat} {q : Nat × Nat} {z : Pr} (h1 : 1 ≤ n) (hz : cs[q.1]? = some z) (hq : q ∈ Se.inAll (n : Int) b (Al.along r (n : Int)) cs cs.length) :
    ∀ k, n ≤ k → Al.Le (Al.upto nm r b cs k) (Al.mis (n : Int) (Al.along r (n : Int)) (z.2.drop q.2) : Int) := by
  intro k
  induction k with
  | zero => intro h; omega
  | succ k ih =>
    intro h
    by_cases hk : n ≤ k
    · exact Al.fold_keep _ _ (ih hk)
    · obtain rfl : n = k + 1 := by omega
      exact Al.fold_in hz _ _ hq

/-- how it ends: nothing was found; one was the best; several were -/
theorem Al.ends {nm r : List UInt8} {b : Int} {cs : List Pr} (hr : r.length ≤ 128) :
    ((Al.upto nm r b cs 4).best = Pa.unm nm ∧ (Al.upto nm r b cs 4).least = -1) ∨ (∃ x z, (Al.upto nm r b cs 4).best = Pa.rec nm x z ∧ (Al.upto nm r b cs 4).least = (x.m : Int) ∧ Pa.Ok cs b x z) ∨ ((Al.upto nm r b cs 4).best = Pa.amb nm) := by
  have h := Pa.rel (nm := nm) (cs := cs) (b := b) hr 4 (Nat.le_refl _)
  cases h with
  | none h1 h2 h3 => exact .inl ⟨h3, h2⟩
  | one z h1 h2 h3 h4 => exact .inr (.inl ⟨_, z, h3, h2, h4⟩)
  | more z h1 h2 h3 h4 => exact .inr (.inr h3)

/-- where the letters stand, the read is seen -/
theorem Al.seen {nm r : List UInt8} {b : Int} {cs : List Pr} (hr : r.length ≤ 128) {n : Nat} (h1 : 1 ≤ n) (h4 : n ≤ 4) {q : Nat × Nat} {z : Pr} (hz : cs[q.1]? = some z) (hq : q.2 + r.length ≤ z.2.length)
    (h3 : (Se.three (n : Int) (Al.along r (n : Int)) (z.2.drop q.2) : Int) ≤ b) :
    (Al.upto nm r b cs 4).best = Pa.amb nm ∨ ∃ x y, (Al.upto nm r b cs 4).best = Pa.rec nm x y ∧ x.m ≤ Al.mis (n : Int) (Al.along r (n : Int)) (z.2.drop q.2) := by
  have hc : q.1 < cs.length := (List.getElem?_eq_some_iff.1 hz).1
  have hin := Al.upto_in (nm := nm) h1 hz (Se.mem_inAll hz (by rw [Al.along_length]; exact hq) h3 cs.length hc) 4 h4
  rcases Al.ends (nm := nm) (b := b) (cs := cs) hr with ⟨_, h⟩ | ⟨x, y, h, h', _⟩ | h
  · have := hin.1
    omega
  · refine .inr ⟨x, y, h, ?_⟩
    have := hin.2
    omega
  · exact .inl h

/-- the letters of a candidate are the read's, along the reference -/
theorem Pa.fold_s {r : List UInt8} {cs : List Pr} {n : Int} : ∀ (l : List (Nat × Nat)) (x : Pa.Ch), (x.eq ≠ 0 → x.b.s = Al.along r x.b.n) → ((l.foldl (fun x q => Pa.weigh x (Pa.cand n (Al.along r n) cs q)) x).eq ≠ 0 → (l.foldl (fun x q => Pa.weigh x (Pa.cand n (Al.along r n) cs q)) x).b.s = Al.along r (l.foldl (fun x q => Pa.weigh x (Pa.cand n (Al.along r n) cs q)) x).b.n) := by
  intro l
  induction l with
  | nil => intro x h; exact h
  | cons q l ih =>
    intro x h
    refine ih _ ?_
    dsimp only
    unfold Pa.weigh
    split
    · intro _; rfl
    · next h0 =>
      split
      · intro _; rfl
      · split
        · intro _; exact h h0
        · exact h
theorem Pa.upto_s (r : List UInt8) (b : Int) (cs : List Pr) : ∀ k, (Pa.upto r b cs k).eq ≠ 0 → (Pa.upto r b cs k).b.s = Al.along r (Pa.upto r b cs k).b.n := by
  intro k
  induction k with
  | zero => intro h; exact absurd rfl h
  | succ k ih => exact Pa.fold_s _ _ ih

/-- an aligned read: its letters are the read's, along the reference -/
theorem Al.one {nm r : List UInt8} {b : Int} {cs : List Pr} (hr : r.length ≤ 128) :
    (Al.upto nm r b cs 4).best = Pa.unm nm ∨ (Al.upto nm r b cs 4).best = Pa.amb nm ∨ ∃ x z, (Al.upto nm r b cs 4).best = Pa.rec nm x z ∧ Pa.Ok cs b x z ∧ x.s = Al.along r x.n := by
  have h := Pa.rel (nm := nm) (cs := cs) (b := b) hr 4 (Nat.le_refl _)
  have hs := Pa.upto_s r b cs 4
  cases h with
  | none h1 h2 h3 => exact .inl h3
  | one z h1 h2 h3 h4 => exact .inr (.inr ⟨_, z, h3, h4, hs (by omega)⟩)
  | more z h1 h2 h3 h4 => exact .inr (.inl h3)

end Go.Proofs.Ytjebhbopmfcopaa

namespace Go.Proofs.Ytjebhbopmfcopaa
open Go.RowKit

theorem Lt.allL_snoc {l : List UInt8} {c : UInt8} (h : Lt.allL l = true) (hc : Lt.isL c = true) : Lt.allL (l ++ [c]) = true := by
  simp only [Lt.allL, List.all_append, List.all_cons, List.all_nil, Bool.and_true, Bool.and_eq_true] at *
  exact ⟨h, hc⟩

set_option maxRecDepth 100000 in
set_option maxHeartbeats 800000 in
theorem letters_any (s : ByteArray) (most : Int) (w : World) (hs : s.size ≤ maxLen) (h0 : 1 ≤ most) (h1 : most ≤ 100000) :
    Calls Try.prog 8 #[.string s, .int .i64 most] w fun e w' =>
      ∃ t : List UInt8, e = .returned (.string ⟨t.toArray⟩) ∧ Lt.allL t = true ∧ 1 ≤ t.length ∧ (t.length : Int) ≤ most ∧ Below w.heap.size w w' := by
  unfold maxLen at hs
  go_enter Try.func8, Try.ntmps8
  go_wp2
  go_loopw [5, 6] (fun v i wr => ∃ l : List UInt8, (l.length : Int) ≤ most ∧ l.length ≤ s.size ∧ i = .int .i64 (l.length : Int) ∧ Hid (Lt.allL l = true) ∧ wr.ownsRow w.heap.size 5 1 v l.length (Bys l) ∧ Below w.heap.size w wr)
    (fun _ i _ => s.size - (intOf i).toNat)
  case atStart => exact ⟨[], by simpa using (by omega : (0 : Int) ≤ most), Nat.zero_le _, rfl, rfl, World.ownsRow_nil _ _ _ _, Below.refl _ _⟩
  case round =>
    obtain ⟨l, hm, hk, rfl, HA, hown, hbel⟩ := hrel
    have hsz := hbel.size
    generalize hkk : l.length = k at *
    have HK : Hid (l.length = k) := hkk
    clear hkk
    by_cases hlt : k < s.size
    · by_cases hlm : (k : Int) < most
      · obtain ⟨c, hc⟩ : ∃ c : Int, c = (s[k].toNat : Int) := ⟨_, rfl⟩
        have hc0 : 0 ≤ c ∧ c < 256 := by have := s[k].toNat_lt; omega
        have h4 : c % 4 = 0 ∨ c % 4 = 1 ∨ c % 4 = 2 ∨ c % 4 = 3 := by omega
        rw [hc] at h4
        clear hc hc0 c
        by_cases h255 : ((s[k].toNat : Int) == 255) = true
        · have h4 : (s[k].toNat : Int) % 4 = 3 := by have : (s[k].toNat : Int) = 255 := by simpa using h255
                                                     omega
          go_wp2_with (at_builtin; refine app_byte rfl _ _ rfl w.heap.size _ l 78 rfl rfl (by rw [HK.out]; exact hown) hbel (by omega) (by rw [HK.out]; omega) ?_; intro v' w1 hown1 hbel1 hsz1)
          go_roundw
          case rel => exact ⟨l ++ [78], by rw [List.length_append, HK.out]; simp; omega, by rw [List.length_append, HK.out]; simp; omega, by rw [List.length_append, HK.out]; rfl, Lt.allL_snoc HA.out rfl, hown1, hbel1⟩
          case measure => simp [intOf]; omega
        · rw [Bool.not_eq_true] at h255
          rcases h4 with h4 | h4 | h4 | h4
          · go_wp2_with (at_builtin; refine app_byte rfl _ _ rfl w.heap.size _ l 65 rfl rfl (by rw [HK.out]; exact hown) hbel (by omega) (by rw [HK.out]; omega) ?_; intro v' w1 hown1 hbel1 hsz1)
            go_roundw
            case rel => exact ⟨l ++ [65], by rw [List.length_append, HK.out]; simp; omega, by rw [List.length_append, HK.out]; simp; omega, by rw [List.length_append, HK.out]; rfl, Lt.allL_snoc HA.out rfl, hown1, hbel1⟩
            case measure => simp [intOf]; omega
          · go_wp2_with (at_builtin; refine app_byte rfl _ _ rfl w.heap.size _ l 67 rfl rfl (by rw [HK.out]; exact hown) hbel (by omega) (by rw [HK.out]; omega) ?_; intro v' w1 hown1 hbel1 hsz1)
            go_roundw
            case rel => exact ⟨l ++ [67], by rw [List.length_append, HK.out]; simp; omega, by rw [List.length_append, HK.out]; simp; omega, by rw [List.length_append, HK.out]; rfl, Lt.allL_snoc HA.out rfl, hown1, hbel1⟩
            case measure => simp [intOf]; omega
          · go_wp2_with (at_builtin; refine app_byte rfl _ _ rfl w.heap.size _ l 71 rfl rfl (by rw [HK.out]; exact hown) hbel (by omega) (by rw [HK.out]; omega) ?_; intro v' w1 hown1 hbel1 hsz1)
            go_roundw
            case rel => exact ⟨l ++ [71], by rw [List.length_append, HK.out]; simp; omega, by rw [List.length_append, HK.out]; simp; omega, by rw [List.length_append, HK.out]; rfl, Lt.allL_snoc HA.out rfl, hown1, hbel1⟩
            case measure => simp [intOf]; omega
          · go_wp2_with (at_builtin; refine app_byte rfl _ _ rfl w.heap.size _ l 84 rfl rfl (by rw [HK.out]; exact hown) hbel (by omega) (by rw [HK.out]; omega) ?_; intro v' w1 hown1 hbel1 hsz1)
            go_roundw
            case rel => exact ⟨l ++ [84], by rw [List.length_append, HK.out]; simp; omega, by rw [List.length_append, HK.out]; simp; omega, by rw [List.length_append, HK.out]; rfl, Lt.allL_snoc HA.out rfl, hown1, hbel1⟩
            case measure => simp [intOf]; omega
      · obtain ⟨ao, cap, hv⟩ := own_form hown
        subst hv
        have hback := back_own hown
        by_cases hk0 : k = 0
        · exfalso; omega
        · have hk1 : ((k : Int) == 0) = false := by rw [beq_eq_false_iff_ne]; omega
          go_wp2
          go_ret
          exact ⟨l, rfl, HA.out, by rw [HK.out]; omega, by rw [HK.out]; omega, hbel⟩
    · obtain ⟨ao, cap, hv⟩ := own_form hown
      subst hv
      have hback := back_own hown
      by_cases hk0 : k = 0
      · have hk1 : ((k : Int) == 0) = true := by rw [beq_iff_eq]; omega
        go_wp2
        go_ret
        exact ⟨[65], rfl, rfl, by simp, by simpa using h0, hbel⟩
      · have hk1 : ((k : Int) == 0) = false := by rw [beq_eq_false_iff_ne]; omega
        go_wp2
        go_ret
        exact ⟨l, rfl, HA.out, by rw [HK.out]; omega, by rw [HK.out]; omega, hbel⟩

end Go.Proofs.Ytjebhbopmfcopaa

namespace Go.Proofs.Ytjebhbopmfcopaa
open Go.RowKit

/-- which of n things the raw number c speaks of -/
def pickV (c : Int) (n : Nat) : Int := (if c < 0 then -(c + 1) else c).tmod (n : Int)

theorem pickV_in (c : Int) (n : Nat) (hn : 0 < n) : ∃ j : Nat, j < n ∧ pickV c n = (j : Int) := by
  have h0 : 0 ≤ (if c < 0 then -(c + 1) else c) := by split <;> omega
  refine ⟨(pickV c n).toNat, ?_, ?_⟩
  · have h1 := Int.tmod_lt_of_pos (if c < 0 then -(c + 1) else c) (show (0 : Int) < n by omega)
    unfold pickV
    omega
  · have h2 := Int.tmod_nonneg (n : Int) h0
    unfold pickV
    omega

end Go.Proofs.Ytjebhbopmfcopaa

namespace Go.Proofs.Ytjebhbopmfcopaa
open Go.RowKit

set_option maxRecDepth 100000 in
set_option maxHeartbeats 400000 in
theorem kpick_any (c : Int) (n : Nat) (w : World) (h1 : -9223372036854775808 ≤ c) (h2 : c ≤ 9223372036854775807) (hn : 0 < n) (hn2 : n ≤ 140737488355328) :
    Calls Try.prog 18 #[.int .i64 c, .int .i64 (n : Int)] w fun e w' => e = .returned (.int .i64 (pickV c n)) ∧ w' = w := by
  have hn0 : ((n : Int) == 0) = false := by rw [beq_eq_false_iff_ne]; omega
  have hn1 : ¬ (n : Int) = 0 := by omega
  have hn3 : ((n : Int) == -1) = false := by rw [beq_eq_false_iff_ne]; omega
  by_cases h0 : c < 0
  · have HM : Hid (pickV c n = (-(c + 1)).tmod (n : Int)) := by show _ = _; rw [pickV, if_pos h0]
    go_enter Try.func18, Try.ntmps18
    go_wp2
    go_ret
    exact ⟨ret_int (by rw [HM.out, Int.neg_tmod]), rfl⟩
  · have HM : Hid (pickV c n = c.tmod (n : Int)) := by show _ = _; rw [pickV, if_neg h0]
    go_enter Try.func18, Try.ntmps18
    go_wp2
    go_ret
    exact ⟨ret_int (by rw [HM.out, Int.tmod_eq_emod_of_nonneg (by omega)]), rfl⟩

set_option maxHeartbeats 400000 in
theorem kother_any (c : UInt8) (w : World) :
    Calls Try.prog 36 #[.int .u8 (c.toNat : Int)] w fun e w' => e = .returned (.int .u8 ((Lt.comp c).toNat : Int)) ∧ w' = w := by
  go_enter Try.func36, Try.ntmps36
  go_wp2
  all_goals go_ret
  all_goals exact ⟨ret_int (by rw [Lt.comp_int]; simp only [*, if_true, if_false, Bool.false_eq_true]), rfl⟩

set_option maxRecDepth 100000 in
set_option maxHeartbeats 800000 in
theorem kturned_any (s : ByteArray) (w : World) (hs : s.size ≤ 140737488355327) :
    Calls Try.prog 22 #[.string s] w fun e w' => e = .returned (.string ⟨(Lt.rev s.data.toList).toArray⟩) ∧ Below w.heap.size w w' := by
  go_enter Try.func22, Try.ntmps22
  go_wp2
  go_loopw [3, 4] (fun v i wr => ∃ k : Nat, k ≤ s.size ∧ i = .int .i64 ((k : Int) - 1) ∧ wr.ownsRow w.heap.size 5 1 v (Lt.rev (s.data.toList.drop k)).length (Bys (Lt.rev (s.data.toList.drop k))) ∧ Below w.heap.size w wr)
    (fun _ i _ => (intOf i + 1).toNat)
  case atStart => exact ⟨s.size, Nat.le_refl _, rfl, by rw [List.drop_of_length_le (by simp)]; exact World.ownsRow_nil _ _ _ _, Below.refl _ _⟩
  case round =>
    obtain ⟨k, hk, rfl, hown, hbel⟩ := hrel
    have hsz := hbel.size
    by_cases h0 : 0 < k
    · obtain ⟨j, rfl⟩ : ∃ j, k = j + 1 := ⟨k - 1, by omega⟩
      have HR : Hid (_ = _) := rev_drop s j (by omega)
      have HN : Hid ((Lt.rev (s.data.toList.drop (j + 1))).length ≤ s.size) := by show _ ≤ _; rw [Lt.rev_length, List.length_drop]; simp
      have hjs : j < s.size := by omega
      have e1 : (((j + 1 : Nat) : Int) - 1) = (j : Int) := by omega
      rw [e1]
      clear e1
      go_wp2_with (first
        | (go_at_call 36; refine (kother_any _ _).mono ?_; rintro e w' ⟨rfl, hw⟩; subst w')
        | (at_builtin; refine app_byte rfl _ _ rfl w.heap.size _ (Lt.rev (s.data.toList.drop (j + 1))) (Lt.comp s[j]) rfl rfl (by exact hown) hbel (by omega) (by have := HN.out; omega) ?_; intro v' w1 hown1 hbel1 hsz1))
      rw [← HR.out] at hown1
      go_roundw
      case rel => exact ⟨j, by omega, by go_num, hown1, hbel1⟩
      case measure => simp [intOf]
    · have hk0 : k = 0 := by omega
      subst hk0
      rw [List.drop_zero] at hown
      have hback := back_own hown
      go_wp2
      go_ret
      exact ⟨rfl, hbel⟩

set_option maxHeartbeats 800000 in
theorem kread_any (s : ByteArray) (n : Int) (w : World) (hs : s.size ≤ 140737488355327) :
    Calls Try.prog 17 #[.string s, .int .i64 n] w fun e w' => e = .returned (.string ⟨(Al.along s.data.toList n).toArray⟩) ∧ Below w.heap.size w w' := by
  obtain ⟨R, hR⟩ : ∃ R, R = Al.along s.data.toList n := ⟨_, rfl⟩
  rw [← hR]
  unfold Al.along at hR
  cases h2 : (n == 2) <;> cases h3 : (n == 3)
  all_goals
    have HR : Hid (R = _) := hR
    rw [h2, h3] at HR
    clear hR
    have HC : Hid (∀ W : World, Calls Try.prog 22 #[.string s] W fun e w' => e = .returned (.string ⟨(Lt.rev s.data.toList).toArray⟩) ∧ Below W.heap.size W w') := fun W => kturned_any s W hs
    go_enter Try.func17, Try.ntmps17
    first
      | (go_wp2_with (go_at_call 22; refine (HC.out _).mono ?_; rintro e w1 ⟨rfl, hb1⟩)
         go_ret
         exact ⟨by rw [HR.out]; rfl, hb1⟩)
      | (go_wp2
         go_ret
         exact ⟨by rw [HR.out]; rfl, Below.refl _ _⟩)

set_option maxHeartbeats 400000 in
theorem kswapped_any (n : Int) (w : World) :
    Calls Try.prog 23 #[.int .i64 n] w fun e w' => e = .returned (.int .i64 (if (n == 1) = true then 3 else if (n == 2) = true then 4 else if (n == 3) = true then 1 else 2)) ∧ w' = w := by
  cases h1 : (n == 1) <;> cases h2 : (n == 2) <;> cases h3 : (n == 3)
  all_goals
    go_enter Try.func23, Try.ntmps23
    go_wp2
    go_ret
    exact ⟨ret_int (by simp), rfl⟩

/-- is one of the letters N? -/
def Kp.hasN (l : List UInt8) : Bool := l.any (· == 78)
theorem Kp.hasN_yes (s : ByteArray) (k : Nat) (h : k < s.size) (hN : ((s[k].toNat : Int) == 78) = true) : Kp.hasN s.data.toList = true := by
  unfold Kp.hasN
  rw [List.any_eq_true]
  refine ⟨s[k], List.getElem_mem (h := by simpa using h), ?_⟩
  rw [beq_iff_eq] at hN ⊢
  exact UInt8.toNat_inj.1 (by simpa using (by omega : s[k].toNat = 78))
theorem Kp.hasN_no {l : List UInt8} (h : Kp.hasN l = false) : ∀ c ∈ l, c ≠ 78 := by
  intro c hc h7
  unfold Kp.hasN at h
  rw [List.any_eq_false] at h
  exact h c hc (by rw [h7]; rfl)

set_option maxRecDepth 100000 in
set_option maxHeartbeats 800000 in
theorem khasN_any (s : ByteArray) (w : World) (hs : s.size ≤ maxLen) :
    Calls Try.prog 14 #[.string s] w fun e w' => e = .returned (.bool (Kp.hasN s.data.toList)) ∧ w' = w := by
  unfold maxLen at hs
  go_enter Try.func14, Try.ntmps14
  go_wp2
  go_loop [3] (fun i => ∃ k : Nat, k ≤ s.size ∧ i = .int .i64 k ∧ Hid (∀ j (h : j < s.size), j < k → s[j] ≠ 78)) (fun i => s.size - (intOf i).toNat)
  case atStart => exact ⟨0, Nat.zero_le _, rfl, fun j h h0 => by omega⟩
  case round =>
    obtain ⟨k, hk, rfl, HA⟩ := hrel
    by_cases hlt : k < s.size
    · cases hN : ((s[k].toNat : Int) == 78) with
      | true =>
        have HF : Hid _ := Kp.hasN_yes s k hlt hN
        go_wp2
        go_ret
        exact ⟨ret_bool HF.out.symm, rfl⟩
      | false =>
        have HT : Hid (∀ j (h : j < s.size), j < k + 1 → s[j] ≠ 78) := fun j h h1 => by
          by_cases hj : j < k
          · exact HA.out j h hj
          · obtain rfl : j = k := by omega
            intro h7
            rw [h7] at hN
            simp at hN
        clear HA
        go_wp2
        go_round
        case rel => exact ⟨k + 1, by omega, by go_num, HT.out⟩
        case measure => simp [intOf]; omega
    · have HF : Hid (Kp.hasN s.data.toList = false) := by
        show _ = _
        unfold Kp.hasN
        rw [List.any_eq_false]
        intro c hc
        obtain ⟨j, hj, rfl⟩ := List.mem_iff_getElem.1 hc
        have hj' : j < s.size := by simpa using hj
        have := HA.out j hj' (by omega)
        intro h7
        have h8 : s.data[j] = 78 := by simpa using h7
        exact this h8
      clear HA
      go_wp2
      go_ret
      exact ⟨ret_bool HF.out.symm, rfl⟩

end Go.Proofs.Ytjebhbopmfcopaa
