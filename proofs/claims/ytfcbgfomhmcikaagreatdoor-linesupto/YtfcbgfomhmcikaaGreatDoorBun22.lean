/-
  PLAIN MATHEMATICS: what the program chooses is what the document's record says. Own text of the verifier.
  THE WALK of the program's Align. Own text of the verifier.
-/
import Derived.Test.YtfcbgfomhmcikaaGreatDoorBun20
import Derived.Test.YtfcbgfomhmcikaaGreatDoorBun21
namespace Go.Proofs.YtfcbgfomhmcikaaGreatDoor
open Go.RowKit

def Pa.unm (nm : List UInt8) : Rc := ⟨nm, 0, 0, [], 0, 0, [], []⟩
def Pa.amb (nm : List UInt8) : Rc := ⟨nm, 2, 0, [], 0, 0, [], []⟩
def Pa.rec (nm : List UInt8) (x : Pa.Cd) (z : Pr) : Rc := ⟨nm, 1, x.n, z.1, (x.a : Int), (x.m : Int), x.s, Al.calls x.n x.s z.2 x.a x.s.length⟩
/-- what is so of a candidate -/
structure Pa.Ok (cs : List Pr) (b : Int) (x : Pa.Cd) (z : Pr) : Prop where
  at_ : cs[x.c]? = some z
  lies : x.a + x.s.length ≤ z.2.length
  strand : Lt.strandB x.n = true
  short : x.s.length ≤ 128
  mis : x.m = Al.mis x.n x.s (z.2.drop x.a)
  three : (Se.three x.n x.s (z.2.drop x.a) : Int) ≤ b

inductive Pa.Rel (nm : List UInt8) (cs : List Pr) (b : Int) (st : Al.St) (x : Pa.Ch) : Prop
  | none (h1 : x.eq = 0) (h2 : st.least = -1) (h3 : st.best = Pa.unm nm)
  | one (z : Pr) (h1 : x.eq = 1) (h2 : st.least = (x.b.m : Int)) (h3 : st.best = Pa.rec nm x.b z) (h4 : Pa.Ok cs b x.b z)
  | more (z : Pr) (h1 : 2 ≤ x.eq) (h2 : st.least = (x.b.m : Int)) (h3 : st.best = Pa.amb nm) (h4 : Pa.Ok cs b x.b z)

theorem Pa.rel_step {nm : List UInt8} {cs : List Pr} {b : Int} {st : Al.St} {x : Pa.Ch} {n : Int} {s : List UInt8} {q : Nat × Nat} {z : Pr} (h : Pa.Rel nm cs b st x) (hz : cs[q.1]? = some z) (hq : q.2 + s.length ≤ z.2.length) (hn : Lt.strandB n = true) (hs : s.length ≤ 128) (h3 : (Se.three n s (z.2.drop q.2) : Int) ≤ b) :
    Pa.Rel nm cs b (Al.step nm n s cs st q) (Pa.weigh x (Pa.cand n s cs q)) := by
  have hc : Pa.cand n s cs q = ⟨n, q.1, q.2, s, Al.mis n s (z.2.drop q.2)⟩ := by
    unfold Pa.cand
    rw [List.getD_eq_getElem?_getD, hz]
    rfl
  have ho : Pa.Ok cs b ⟨n, q.1, q.2, s, Al.mis n s (z.2.drop q.2)⟩ z := ⟨hz, hq, hn, hs, rfl, h3⟩
  rw [hc]
  unfold Al.step
  rw [hz]
  dsimp only
  unfold Pa.weigh
  dsimp only
  obtain ⟨m, hm⟩ : ∃ m, m = Al.mis n s (z.2.drop q.2) := ⟨_, rfl⟩
  rw [← hm] at ho ⊢
  cases h with
  | none h1 h2 h3 =>
    rw [if_pos h1, if_neg (show ¬ (0 ≤ st.least ∧ st.least < (m : Int)) by omega), if_neg (show ¬ (m : Int) = st.least by omega)]
    exact .one z rfl rfl rfl ho
  | one y h1 h2 h3 h4 =>
    rw [if_neg (show ¬ x.eq = 0 by omega)]
    by_cases hA : x.b.m < m
    · rw [if_pos (show 0 ≤ st.least ∧ st.least < (m : Int) by omega), if_neg (show ¬ m < x.b.m by omega), if_neg (show ¬ m = x.b.m by omega)]
      exact .one y h1 h2 h3 h4
    · rw [if_neg (show ¬ (0 ≤ st.least ∧ st.least < (m : Int)) by omega)]
      by_cases hB : m = x.b.m
      · rw [if_pos (show (m : Int) = st.least by omega), if_neg (show ¬ m < x.b.m by omega), if_pos hB]
        exact .more y (by simp only; omega) h2 rfl h4
      · rw [if_neg (show ¬ (m : Int) = st.least by omega), if_pos (show m < x.b.m by omega)]
        exact .one z rfl rfl rfl ho
  | more y h1 h2 h3 h4 =>
    rw [if_neg (show ¬ x.eq = 0 by omega)]
    by_cases hA : x.b.m < m
    · rw [if_pos (show 0 ≤ st.least ∧ st.least < (m : Int) by omega), if_neg (show ¬ m < x.b.m by omega), if_neg (show ¬ m = x.b.m by omega)]
      exact .more y h1 h2 h3 h4
    · rw [if_neg (show ¬ (0 ≤ st.least ∧ st.least < (m : Int)) by omega)]
      by_cases hB : m = x.b.m
      · rw [if_pos (show (m : Int) = st.least by omega), if_neg (show ¬ m < x.b.m by omega), if_pos hB]
        exact .more y (by simp only; omega) h2 rfl h4
      · rw [if_neg (show ¬ (m : Int) = st.least by omega), if_pos (show m < x.b.m by omega)]
        exact .one z rfl rfl rfl ho

theorem Pa.rel_fold {nm : List UInt8} {cs : List Pr} {b n : Int} {s : List UInt8} (hn : Lt.strandB n = true) (hs : s.length ≤ 128) : ∀ (l : List (Nat × Nat)) (st : Al.St) (x : Pa.Ch), (∀ q ∈ l, ∃ z, cs[q.1]? = some z ∧ q.2 + s.length ≤ z.2.length ∧ (Se.three n s (z.2.drop q.2) : Int) ≤ b) → Pa.Rel nm cs b st x → Pa.Rel nm cs b (l.foldl (Al.step nm n s cs) st) (l.foldl (fun x q => Pa.weigh x (Pa.cand n s cs q)) x) := by
  intro l
  induction l with
  | nil => intro st x _ h; exact h
  | cons q l ih =>
    intro st x hl h
    obtain ⟨z, h1, h2, h3⟩ := hl q List.mem_cons_self
    exact ih _ _ (fun q' hq' => hl q' (List.mem_cons_of_mem _ hq')) (Pa.rel_step h h1 h2 hn hs h3)

theorem Pa.rel {nm r : List UInt8} {cs : List Pr} {b : Int} (hr : r.length ≤ 128) : ∀ k, k ≤ 4 → Pa.Rel nm cs b (Al.upto nm r b cs k) (Pa.upto r b cs k) := by
  intro k
  induction k with
  | zero => intro _; exact .none rfl rfl rfl
  | succ k ih =>
    intro hk
    refine Pa.rel_fold ?_ (by rw [Al.along_length]; exact hr) _ _ _ ?_ (ih (by omega))
    · rw [Lt.strandB, Bool.and_eq_true]
      exact ⟨decide_eq_true (by omega), decide_eq_true (by omega)⟩
    · intro q hq
      obtain ⟨_, z, h1, h2, h3⟩ := Se.inAll_mem _ b _ cs cs.length q hq
      exact ⟨z, h1, h2, h3⟩

end Go.Proofs.YtfcbgfomhmcikaaGreatDoor

namespace Go.Proofs.YtfcbgfomhmcikaaGreatDoor
open Go.RowKit

/-- how it stands within Align: the read, the result -/
structure PaA (nm lt : List UInt8) (w W : World) : Prop where
  below : Below w.heap.size w W
  size : w.heap.size + 2 ≤ W.heap.size
  read : W.heap[w.heap.size]? = some (.cells #[.string ⟨nm.toArray⟩, .string ⟨lt.toArray⟩] 63 (0, 0))
  res : W.heap[w.heap.size + 1]? = some (.cells #[.string ⟨#[]⟩, .int .i64 0, .int .i64 0, .string ⟨#[]⟩, .int .i64 0, .int .i64 0, .string ⟨#[]⟩, .string ⟨#[]⟩] 47 (0, 0))
theorem PaA.mono {nm lt : List UInt8} {w W W' : World} (h : PaA nm lt w W) (hb : Below W.heap.size W W') : PaA nm lt w W' := by
  have h2 := h.size
  exact ⟨h.below.trans (hb.mono (by omega)), Nat.le_trans h.size hb.size, (hb.block _ (by omega)).trans h.read, (hb.block _ (by omega)).trans h.res⟩
theorem PaA.start (nm lt : List UInt8) (w : World) : PaA nm lt w ((w.alloc (.cells #[.string ⟨nm.toArray⟩, .string ⟨lt.toArray⟩] 63)).alloc (.cells #[.string ⟨#[]⟩, .int .i64 0, .int .i64 0, .string ⟨#[]⟩, .int .i64 0, .int .i64 0, .string ⟨#[]⟩, .string ⟨#[]⟩] 47)) := by
  refine ⟨((Below.refl _ _).alloc (Nat.le_refl _) _).alloc (by simp) _, by simp, ?_, ?_⟩
  · rw [Below.heap_alloc _ _ _ (by simp)]
    exact heap_alloc_new w _
  · exact two_heap w _ _
theorem PaA.alloc {nm lt : List UInt8} {w W : World} (h : PaA nm lt w W) (o : Obj) : PaA nm lt w (W.alloc o) := h.mono ((Below.refl _ _).alloc (Nat.le_refl _) o)

/-- Align's results: a record in a block of its own, and the error -/
theorem pa_ret {w : World} {g : Nat} {A : Array Value} {tmps : Array Value} (hp : tmps.getD 8 undef = .pointer (some ⟨g, 0, none⟩)) (hg : w.heap[g]? = some (.cells A 47 (0, 0))) (h8 : A.size = 8) :
    (results Tryz.f58 tmps).run Tryz.prog w = .ok (.tuple #[.agg A, tmps.getD 9 undef]) w := by
  rw [results_cell_tmp rfl, hp]
  simp only [asAddr, Sem.run_pure, Result.andThen_ok]
  rw [run_loadVar_row w g 47 47 A (0, 0) _ hg Tryz.underlying47 rfl (by rw [Tryz.sizeRec3, h8])]
  rfl

set_option maxRecDepth 100000 in
set_option maxHeartbeats 800000 in
theorem palign_bad (nm lt : List UInt8) (b : Int) (cs : List Pr) (B : Nat) (p : Value) (la : Option Addr) (ln lc : Nat) (w : World) (hl : lt.length ≤ 140737488355327) (hR : Se.Right cs) (hI : IxAt w B p cs) (hE : Al.err b lt ≠ 0) :
    Calls Tryz.prog 58 #[.slice la ln lc, p, .agg #[.string ⟨nm.toArray⟩, .string ⟨lt.toArray⟩], .int .i64 b] w fun e w' =>
      e = .returned (.tuple #[.agg (Rc.vals ⟨[], 0, 0, [], 0, 0, [], []⟩), .int .i64 (Al.err b lt)]) ∧ Below w.heap.size w w' := by
  have hp : ∃ bx, p = .pointer (some ⟨bx, 0, none⟩) := by obtain ⟨bx, _, _, h1, _⟩ := hI; exact ⟨bx, h1⟩
  obtain ⟨bx, rfl⟩ := hp
  obtain ⟨E, hEE⟩ : ∃ E, E = Al.err b lt := ⟨_, rfl⟩
  have HCH : Hid (∀ W : World, Below w.heap.size w W → Calls Tryz.prog 92 #[.slice la ln lc, .pointer (some ⟨bx, 0, none⟩), .string ⟨lt.toArray⟩, .int .i64 b] W fun e w' => e = .returned (.tuple #[.agg #[.int .i64 0, .int .i64 0, .int .i64 0, .string ⟨#[]⟩, .int .i64 0, .int .i64 0], .int .i64 E]) ∧ Below W.heap.size W w') := fun W hb => by
    rw [hEE]
    exact choose_bad lt b cs B _ la ln lc W hl hR (IxAt.below hI hb) hE
  rw [← hEE] at hE ⊢
  have hne : (E != 0) = true := by rw [bne_iff_ne]; exact hE
  have HA0 : Hid _ := PaA.start nm lt w
  clear hEE hE hR hI
  go_enter Tryz.func58, Tryz.ntmps58
  go_wp2_with fail
  refine (HCH.out _ (by exact PaA.below HA0.out)).mono ?_
  rintro e w2 ⟨rfl, hb2⟩
  have HA2 : Hid _ := PaA.alloc (PaA.mono HA0.out hb2) (.cells Pa.zero.vals 143)
  have hres := PaA.res HA2.out
  unfold Pa.Ch.vals Pa.zero at hres
  have r0 : (w2.alloc (.cells #[.int .i64 0, .int .i64 0, .int .i64 0, .string ⟨#[]⟩, .int .i64 0, .int .i64 0] 143)).cell? ⟨w.heap.size + 1, 0, none⟩ = some (.string ⟨#[]⟩) := cell_of_row (w2.alloc (.cells #[.int .i64 0, .int .i64 0, .int .i64 0, .string ⟨#[]⟩, .int .i64 0, .int .i64 0] 143)) (w.heap.size + 1) 0 _ _ _ hres
  have f0 : (w2.alloc (.cells #[.int .i64 0, .int .i64 0, .int .i64 0, .string ⟨#[]⟩, .int .i64 0, .int .i64 0] 143)).frozen? ⟨w.heap.size + 1, 0, none⟩ = false := frozen_of_row (w2.alloc (.cells #[.int .i64 0, .int .i64 0, .int .i64 0, .string ⟨#[]⟩, .int .i64 0, .int .i64 0] 143)) (w.heap.size + 1) 0 _ _ hres
  have r1 : (w2.alloc (.cells #[.int .i64 0, .int .i64 0, .int .i64 0, .string ⟨#[]⟩, .int .i64 0, .int .i64 0] 143)).cell? ⟨w.heap.size + 1, 1, none⟩ = some (.int .i64 0) := cell_of_row (w2.alloc (.cells #[.int .i64 0, .int .i64 0, .int .i64 0, .string ⟨#[]⟩, .int .i64 0, .int .i64 0] 143)) (w.heap.size + 1) 1 _ _ _ hres
  have f1 : (w2.alloc (.cells #[.int .i64 0, .int .i64 0, .int .i64 0, .string ⟨#[]⟩, .int .i64 0, .int .i64 0] 143)).frozen? ⟨w.heap.size + 1, 1, none⟩ = false := frozen_of_row (w2.alloc (.cells #[.int .i64 0, .int .i64 0, .int .i64 0, .string ⟨#[]⟩, .int .i64 0, .int .i64 0] 143)) (w.heap.size + 1) 1 _ _ hres
  have r2 : (w2.alloc (.cells #[.int .i64 0, .int .i64 0, .int .i64 0, .string ⟨#[]⟩, .int .i64 0, .int .i64 0] 143)).cell? ⟨w.heap.size + 1, 2, none⟩ = some (.int .i64 0) := cell_of_row (w2.alloc (.cells #[.int .i64 0, .int .i64 0, .int .i64 0, .string ⟨#[]⟩, .int .i64 0, .int .i64 0] 143)) (w.heap.size + 1) 2 _ _ _ hres
  have f2 : (w2.alloc (.cells #[.int .i64 0, .int .i64 0, .int .i64 0, .string ⟨#[]⟩, .int .i64 0, .int .i64 0] 143)).frozen? ⟨w.heap.size + 1, 2, none⟩ = false := frozen_of_row (w2.alloc (.cells #[.int .i64 0, .int .i64 0, .int .i64 0, .string ⟨#[]⟩, .int .i64 0, .int .i64 0] 143)) (w.heap.size + 1) 2 _ _ hres
  have r3 : (w2.alloc (.cells #[.int .i64 0, .int .i64 0, .int .i64 0, .string ⟨#[]⟩, .int .i64 0, .int .i64 0] 143)).cell? ⟨w.heap.size + 1, 3, none⟩ = some (.string ⟨#[]⟩) := cell_of_row (w2.alloc (.cells #[.int .i64 0, .int .i64 0, .int .i64 0, .string ⟨#[]⟩, .int .i64 0, .int .i64 0] 143)) (w.heap.size + 1) 3 _ _ _ hres
  have f3 : (w2.alloc (.cells #[.int .i64 0, .int .i64 0, .int .i64 0, .string ⟨#[]⟩, .int .i64 0, .int .i64 0] 143)).frozen? ⟨w.heap.size + 1, 3, none⟩ = false := frozen_of_row (w2.alloc (.cells #[.int .i64 0, .int .i64 0, .int .i64 0, .string ⟨#[]⟩, .int .i64 0, .int .i64 0] 143)) (w.heap.size + 1) 3 _ _ hres
  have r4 : (w2.alloc (.cells #[.int .i64 0, .int .i64 0, .int .i64 0, .string ⟨#[]⟩, .int .i64 0, .int .i64 0] 143)).cell? ⟨w.heap.size + 1, 4, none⟩ = some (.int .i64 0) := cell_of_row (w2.alloc (.cells #[.int .i64 0, .int .i64 0, .int .i64 0, .string ⟨#[]⟩, .int .i64 0, .int .i64 0] 143)) (w.heap.size + 1) 4 _ _ _ hres
  have f4 : (w2.alloc (.cells #[.int .i64 0, .int .i64 0, .int .i64 0, .string ⟨#[]⟩, .int .i64 0, .int .i64 0] 143)).frozen? ⟨w.heap.size + 1, 4, none⟩ = false := frozen_of_row (w2.alloc (.cells #[.int .i64 0, .int .i64 0, .int .i64 0, .string ⟨#[]⟩, .int .i64 0, .int .i64 0] 143)) (w.heap.size + 1) 4 _ _ hres
  have r5 : (w2.alloc (.cells #[.int .i64 0, .int .i64 0, .int .i64 0, .string ⟨#[]⟩, .int .i64 0, .int .i64 0] 143)).cell? ⟨w.heap.size + 1, 5, none⟩ = some (.int .i64 0) := cell_of_row (w2.alloc (.cells #[.int .i64 0, .int .i64 0, .int .i64 0, .string ⟨#[]⟩, .int .i64 0, .int .i64 0] 143)) (w.heap.size + 1) 5 _ _ _ hres
  have f5 : (w2.alloc (.cells #[.int .i64 0, .int .i64 0, .int .i64 0, .string ⟨#[]⟩, .int .i64 0, .int .i64 0] 143)).frozen? ⟨w.heap.size + 1, 5, none⟩ = false := frozen_of_row (w2.alloc (.cells #[.int .i64 0, .int .i64 0, .int .i64 0, .string ⟨#[]⟩, .int .i64 0, .int .i64 0] 143)) (w.heap.size + 1) 5 _ _ hres
  have r6 : (w2.alloc (.cells #[.int .i64 0, .int .i64 0, .int .i64 0, .string ⟨#[]⟩, .int .i64 0, .int .i64 0] 143)).cell? ⟨w.heap.size + 1, 6, none⟩ = some (.string ⟨#[]⟩) := cell_of_row (w2.alloc (.cells #[.int .i64 0, .int .i64 0, .int .i64 0, .string ⟨#[]⟩, .int .i64 0, .int .i64 0] 143)) (w.heap.size + 1) 6 _ _ _ hres
  have f6 : (w2.alloc (.cells #[.int .i64 0, .int .i64 0, .int .i64 0, .string ⟨#[]⟩, .int .i64 0, .int .i64 0] 143)).frozen? ⟨w.heap.size + 1, 6, none⟩ = false := frozen_of_row (w2.alloc (.cells #[.int .i64 0, .int .i64 0, .int .i64 0, .string ⟨#[]⟩, .int .i64 0, .int .i64 0] 143)) (w.heap.size + 1) 6 _ _ hres
  have r7 : (w2.alloc (.cells #[.int .i64 0, .int .i64 0, .int .i64 0, .string ⟨#[]⟩, .int .i64 0, .int .i64 0] 143)).cell? ⟨w.heap.size + 1, 7, none⟩ = some (.string ⟨#[]⟩) := cell_of_row (w2.alloc (.cells #[.int .i64 0, .int .i64 0, .int .i64 0, .string ⟨#[]⟩, .int .i64 0, .int .i64 0] 143)) (w.heap.size + 1) 7 _ _ _ hres
  have f7 : (w2.alloc (.cells #[.int .i64 0, .int .i64 0, .int .i64 0, .string ⟨#[]⟩, .int .i64 0, .int .i64 0] 143)).frozen? ⟨w.heap.size + 1, 7, none⟩ = false := frozen_of_row (w2.alloc (.cells #[.int .i64 0, .int .i64 0, .int .i64 0, .string ⟨#[]⟩, .int .i64 0, .int .i64 0] 143)) (w.heap.size + 1) 7 _ _ hres
  have HROW : Hid _ := hres
  clear hb2 hres HA0 HCH
  go_wp2
  refine bodyPost_ret (pa_ret rfl (PaR.store HROW.out _ _ _ _ _ _ _ _) rfl) rfl ?_
  exact ⟨rfl, (PaA.below HA2.out).trans ((PaR.beneath _ (w.heap.size + 1) _ _ _ _ _ _ _ _).mono (by omega))⟩

theorem PaR.other (w : World) {g k : Nat} (hk : k ≠ g) (b0 b1 b2 b3 b4 b5 b6 b7 : Value) :
    ((((((((w.setCell ⟨g, 0, none⟩ b0).setCell ⟨g, 1, none⟩ b1).setCell ⟨g, 2, none⟩ b2).setCell ⟨g, 3, none⟩ b3).setCell ⟨g, 4, none⟩ b4).setCell ⟨g, 5, none⟩ b5).setCell ⟨g, 6, none⟩ b6).setCell ⟨g, 7, none⟩ b7).heap[k]? = w.heap[k]? := by
  have e : ∀ (w : World) i v, (w.setCell ⟨g, i, none⟩ v).heap[k]? = w.heap[k]? := fun w i v => by simp [World.setCell, Array.getElem?_modify, Ne.symm hk]
  rw [e, e, e, e, e, e, e, e]

/-- the last step: the one best candidate is told -/
structure PaO (cs : List Pr) (nm lt : List UInt8) (w W : World) (G gb : Nat) (x : Pa.Ch) : Prop where
  st : PaA nm lt w W
  src : ∀ j u, (Prs cs)[j]? = some u → W.cell? ((⟨G, 0, none⟩ : Addr).add j) = some u
  box : W.heap[gb]? = some (.cells x.vals 143 (0, 0))
  lt : w.heap.size + 2 ≤ gb
  low : G < w.heap.size
theorem PaO.mono {cs : List Pr} {nm lt : List UInt8} {w W W' : World} {G gb : Nat} {x : Pa.Ch} (h : PaO cs nm lt w W G gb x) (hb : Below W.heap.size W W') : PaO cs nm lt w W' G gb x := by
  have h1 : gb < W.heap.size := (Array.getElem?_eq_some_iff.1 h.box).1
  exact ⟨h.st.mono hb, src_keep h.src hb, (hb.block _ h1).trans h.box, h.lt, h.low⟩

set_option maxRecDepth 100000 in
set_option maxHeartbeats 3200000 in
theorem palign_good (nm lt : List UInt8) (b : Int) (cs : List Pr) (B : Nat) (p : Value) (G cc : Nat) (w : World) (hnm : nm.length ≤ 140737488355327) (hR : Se.Right cs) (hZ : ∀ x ∈ cs, x.1.length ≤ 140737488355327) (hI : IxAt w B p cs) (hE : Al.err b lt = 0) (hG : G < w.heap.size) (hsrc : ∀ j u, (Prs cs)[j]? = some u → w.cell? ((⟨G, 0, none⟩ : Addr).add j) = some u) :
    Calls Tryz.prog 58 #[.slice (some ⟨G, 0, none⟩) cs.length cc, p, .agg #[.string ⟨nm.toArray⟩, .string ⟨lt.toArray⟩], .int .i64 b] w fun e w' =>
      e = .returned (.tuple #[.agg (Rc.vals (Al.upto nm lt b cs 4).best), .int .i64 0]) ∧ Below w.heap.size w w' := by
  have hp : ∃ bx, p = .pointer (some ⟨bx, 0, none⟩) := by obtain ⟨bx, _, _, h1, _⟩ := hI; exact ⟨bx, h1⟩
  obtain ⟨bx, rfl⟩ := hp
  obtain ⟨hb0, hb3, hL0, hl128⟩ := Al.err_none hE
  have HREL : Hid _ := Pa.rel (nm := nm) (cs := cs) (b := b) hl128 4 (Nat.le_refl _)
  obtain ⟨x, hx⟩ : ∃ x, x = Pa.upto lt b cs 4 := ⟨_, rfl⟩
  have HEQ : Hid (x.eq ≤ 360000) := by show _ ≤ _; rw [hx]; have := Pa.upto_eq hR lt b 4; omega
  have HCH : Hid (∀ W : World, Below w.heap.size w W → Calls Tryz.prog 92 #[.slice (some ⟨G, 0, none⟩) cs.length cc, .pointer (some ⟨bx, 0, none⟩), .string ⟨lt.toArray⟩, .int .i64 b] W fun e w' => e = .returned (.tuple #[.agg #[.int .i64 x.b.n, .int .i64 (x.b.c : Int), .int .i64 (x.b.a : Int), .string ⟨x.b.s.toArray⟩, .int .i64 (x.b.m : Int), .int .i64 (x.eq : Int)], .int .i64 0]) ∧ Below W.heap.size W w') := fun W hb => by
    rw [hx]
    exact choose_good lt b cs B _ ⟨G, 0, none⟩ cc W hR (IxAt.below hI hb) hE (src_keep hsrc hb)
  rw [← hx] at HREL
  obtain ⟨F, hF⟩ : ∃ F, F = (Al.upto nm lt b cs 4).best := ⟨_, rfl⟩
  rw [← hF]
  have HF : Hid _ := hF
  have HR : Hid _ := hR
  have HZ : Hid _ := hZ
  have HSRC : Hid _ := hsrc
  have HCL : Hid (∀ W : World, Calls Tryz.prog 93 #[.string ⟨nm.toArray⟩] W fun e w' => e = .returned (.string ⟨nm.toArray⟩) ∧ Below W.heap.size W w') := fun W => clone_any _ W (by rw [str_size]; omega)
  have HA0 : Hid _ := PaA.start nm lt w
  clear hx hR hI hE hsrc hL0 hF hZ
  go_enter Tryz.func58, Tryz.ntmps58
  go_wp2_with fail
  refine (HCH.out _ (by exact PaA.below HA0.out)).mono ?_
  rintro e w2 ⟨rfl, hb2⟩
  have HO : Hid (PaO cs nm lt w (w2.alloc (.cells #[.int .i64 x.b.n, .int .i64 (x.b.c : Int), .int .i64 (x.b.a : Int), .string ⟨x.b.s.toArray⟩, .int .i64 (x.b.m : Int), .int .i64 (x.eq : Int)] 143)) G w2.heap.size x) := by
    have h2 := PaA.mono HA0.out hb2
    exact ⟨h2.alloc _, src_keep HSRC.out (h2.alloc _).below, heap_alloc_new w2 _, h2.size, hG⟩
  have hrd := HO.out.st.read
  have q0 : (w2.alloc (.cells #[.int .i64 x.b.n, .int .i64 (x.b.c : Int), .int .i64 (x.b.a : Int), .string ⟨x.b.s.toArray⟩, .int .i64 (x.b.m : Int), .int .i64 (x.eq : Int)] 143)).cell? ⟨w.heap.size, 0, none⟩ = some (.string ⟨nm.toArray⟩) := cell_of_row _ w.heap.size 0 _ _ _ hrd
  clear hb2 HA0 HCH HSRC hrd
  go_wp2_with fail
  refine (HCL.out _).mono ?_
  rintro e w3 ⟨rfl, hb3'⟩
  have HO3 : Hid _ := PaO.mono HO.out hb3'
  generalize w2.heap.size = gb at *
  clear hb3' q0 HO HCL
  have hbox := HO3.out.box
  have hres := HO3.out.st.res
  have m5 : w3.cell? ⟨gb, 5, none⟩ = some (.int .i64 (x.eq : Int)) := cell_of_row w3 gb 5 _ _ _ hbox
  have r0 : w3.cell? ⟨w.heap.size + 1, 0, none⟩ = some (.string ⟨#[]⟩) := cell_of_row w3 (w.heap.size + 1) 0 _ _ _ hres
  have f0 : w3.frozen? ⟨w.heap.size + 1, 0, none⟩ = false := frozen_of_row w3 (w.heap.size + 1) 0 _ _ hres
  have r1 : w3.cell? ⟨w.heap.size + 1, 1, none⟩ = some (.int .i64 0) := cell_of_row w3 (w.heap.size + 1) 1 _ _ _ hres
  have f1 : w3.frozen? ⟨w.heap.size + 1, 1, none⟩ = false := frozen_of_row w3 (w.heap.size + 1) 1 _ _ hres
  have r2 : w3.cell? ⟨w.heap.size + 1, 2, none⟩ = some (.int .i64 0) := cell_of_row w3 (w.heap.size + 1) 2 _ _ _ hres
  have f2 : w3.frozen? ⟨w.heap.size + 1, 2, none⟩ = false := frozen_of_row w3 (w.heap.size + 1) 2 _ _ hres
  have r3 : w3.cell? ⟨w.heap.size + 1, 3, none⟩ = some (.string ⟨#[]⟩) := cell_of_row w3 (w.heap.size + 1) 3 _ _ _ hres
  have f3 : w3.frozen? ⟨w.heap.size + 1, 3, none⟩ = false := frozen_of_row w3 (w.heap.size + 1) 3 _ _ hres
  have r4 : w3.cell? ⟨w.heap.size + 1, 4, none⟩ = some (.int .i64 0) := cell_of_row w3 (w.heap.size + 1) 4 _ _ _ hres
  have f4 : w3.frozen? ⟨w.heap.size + 1, 4, none⟩ = false := frozen_of_row w3 (w.heap.size + 1) 4 _ _ hres
  have r5 : w3.cell? ⟨w.heap.size + 1, 5, none⟩ = some (.int .i64 0) := cell_of_row w3 (w.heap.size + 1) 5 _ _ _ hres
  have f5 : w3.frozen? ⟨w.heap.size + 1, 5, none⟩ = false := frozen_of_row w3 (w.heap.size + 1) 5 _ _ hres
  have r6 : w3.cell? ⟨w.heap.size + 1, 6, none⟩ = some (.string ⟨#[]⟩) := cell_of_row w3 (w.heap.size + 1) 6 _ _ _ hres
  have f6 : w3.frozen? ⟨w.heap.size + 1, 6, none⟩ = false := frozen_of_row w3 (w.heap.size + 1) 6 _ _ hres
  have r7 : w3.cell? ⟨w.heap.size + 1, 7, none⟩ = some (.string ⟨#[]⟩) := cell_of_row w3 (w.heap.size + 1) 7 _ _ _ hres
  have f7 : w3.frozen? ⟨w.heap.size + 1, 7, none⟩ = false := frozen_of_row w3 (w.heap.size + 1) 7 _ _ hres
  have HROW : Hid _ := hres
  cases HREL.out with
  | none h1 h2 h3 =>
    have HV : Hid (F = Pa.unm nm) := by show _ = _; rw [HF.out, h3]
    have hee : ((x.eq : Int) == 0) = true := by rw [beq_iff_eq]; omega
    rw [h1] at m5
    clear hbox hres h1 h2 h3 HREL HEQ
    go_wp2
    refine bodyPost_ret (pa_ret rfl (PaR.store HROW.out _ _ _ _ _ _ _ _) rfl) rfl ?_
    exact ⟨by rw [HV.out]; rfl, HO3.out.st.below.trans ((PaR.beneath _ (w.heap.size + 1) _ _ _ _ _ _ _ _).mono (by omega))⟩
  | more z h1 h2 h3 h4 =>
    have HV : Hid (F = Pa.amb nm) := by show _ = _; rw [HF.out, h3]
    have he0 : ((x.eq : Int) == 0) = false := by rw [beq_eq_false_iff_ne]; omega
    have he1 : ((x.eq : Int) == 1) = false := by rw [beq_eq_false_iff_ne]; omega
    clear hbox hres h1 h2 h3 h4 HREL HEQ
    go_wp2
    refine bodyPost_ret (pa_ret rfl (PaR.store HROW.out _ _ _ _ _ _ _ _) rfl) rfl ?_
    exact ⟨by rw [HV.out]; rfl, HO3.out.st.below.trans ((PaR.beneath _ (w.heap.size + 1) _ _ _ _ _ _ _ _).mono (by omega))⟩
  | one z h1 h2 h3 h4 =>
    clear r0 f0 r1 f1 r2 f2 r3 f3 r4 f4 r5 f5 r6 f6 r7 f7
    have HV : Hid (F = Pa.rec nm x.b z) := by show _ = _; rw [HF.out, h3]
    rw [h1] at m5
    have hc1 : x.b.c < cs.length := (List.getElem?_eq_some_iff.1 h4.at_).1
    have hze : z = cs[x.b.c] := by have h := h4.at_; rw [List.getElem?_eq_getElem hc1] at h; exact (Option.some.inj h).symm
    have hzm : z ∈ cs := by rw [hze]; exact List.getElem_mem _
    have s0 := src_first HO3.out.src x.b.c hc1
    have s1 := src_pair HO3.out.src x.b.c hc1
    rw [← hze, Addr.add_lit, Nat.zero_add] at s0 s1
    have m0 : w3.cell? ⟨gb, 0, none⟩ = some (.int .i64 x.b.n) := cell_of_row w3 gb 0 _ _ _ hbox
    have m1 : w3.cell? ⟨gb, 1, none⟩ = some (.int .i64 (x.b.c : Int)) := cell_of_row w3 gb 1 _ _ _ hbox
    have m2 : w3.cell? ⟨gb, 2, none⟩ = some (.int .i64 (x.b.a : Int)) := cell_of_row w3 gb 2 _ _ _ hbox
    have m3 : w3.cell? ⟨gb, 3, none⟩ = some (.string ⟨x.b.s.toArray⟩) := cell_of_row w3 gb 3 _ _ _ hbox
    have m4 : w3.cell? ⟨gb, 4, none⟩ = some (.int .i64 (x.b.m : Int)) := cell_of_row w3 gb 4 _ _ _ hbox
    have hzn := HZ.out z hzm
    have hzl := HR.out.len z hzm
    have hzL := HR.out.let_ z hzm
    have hlies := h4.lies
    have hsd := h4.strand
    have hsh := h4.short
    have hGb : w.heap.size + 2 ≤ gb := HO3.out.lt
    obtain ⟨xb, xe⟩ := x
    obtain ⟨n, c, a, s, m⟩ := xb
    dsimp only at *
    obtain ⟨CL, hCL⟩ : ∃ CL, CL = Al.calls n s z.2 a s.length := ⟨_, rfl⟩
    have HV2 : Hid (F = ⟨nm, 1, n, z.1, (a : Int), (m : Int), s, CL⟩) := by show _ = _; rw [HV.out, hCL]; rfl
    have HKC : Hid (∀ W : World, (W.cell? ⟨G, c * 2, none⟩ = some (.string ⟨z.1.toArray⟩) ∧ W.cell? ⟨G, c * 2 + 1, none⟩ = some (.string ⟨z.2.toArray⟩) ∧ W.cell? ⟨gb, 0, none⟩ = some (.int .i64 n) ∧ W.cell? ⟨gb, 1, none⟩ = some (.int .i64 (c : Int)) ∧ W.cell? ⟨gb, 2, none⟩ = some (.int .i64 (a : Int)) ∧ W.cell? ⟨gb, 3, none⟩ = some (.string ⟨s.toArray⟩) ∧ W.cell? ⟨gb, 4, none⟩ = some (.int .i64 (m : Int)) ∧ PaR (w.heap.size + 1) W) → Calls Tryz.prog 94 #[.string ⟨nm.toArray⟩, .agg #[.string ⟨z.1.toArray⟩, .string ⟨z.2.toArray⟩], .agg #[.int .i64 n, .int .i64 (c : Int), .int .i64 (a : Int), .string ⟨s.toArray⟩, .int .i64 (m : Int)]] W fun e w' => e = .returned (.agg #[.string ⟨nm.toArray⟩, .int .i64 1, .int .i64 n, .string ⟨z.1.toArray⟩, .int .i64 (a : Int), .int .i64 (m : Int), .string ⟨s.toArray⟩, .string ⟨CL.toArray⟩]) ∧ Below W.heap.size W w' ∧ ∃ a0 a1 a2 a3 a4 a5 a6 a7, w'.cell? ⟨w.heap.size + 1, 0, none⟩ = some a0 ∧ w'.frozen? ⟨w.heap.size + 1, 0, none⟩ = false ∧ w'.cell? ⟨w.heap.size + 1, 1, none⟩ = some a1 ∧ w'.frozen? ⟨w.heap.size + 1, 1, none⟩ = false ∧ w'.cell? ⟨w.heap.size + 1, 2, none⟩ = some a2 ∧ w'.frozen? ⟨w.heap.size + 1, 2, none⟩ = false ∧ w'.cell? ⟨w.heap.size + 1, 3, none⟩ = some a3 ∧ w'.frozen? ⟨w.heap.size + 1, 3, none⟩ = false ∧ w'.cell? ⟨w.heap.size + 1, 4, none⟩ = some a4 ∧ w'.frozen? ⟨w.heap.size + 1, 4, none⟩ = false ∧ w'.cell? ⟨w.heap.size + 1, 5, none⟩ = some a5 ∧ w'.frozen? ⟨w.heap.size + 1, 5, none⟩ = false ∧ w'.cell? ⟨w.heap.size + 1, 6, none⟩ = some a6 ∧ w'.frozen? ⟨w.heap.size + 1, 6, none⟩ = false ∧ w'.cell? ⟨w.heap.size + 1, 7, none⟩ = some a7 ∧ w'.frozen? ⟨w.heap.size + 1, 7, none⟩ = false ∧ Hid (w'.heap[w.heap.size + 1]? = some (.cells #[a0, a1, a2, a3, a4, a5, a6, a7] 47 (0, 0)))) := fun W hS => by
      have h := aligned_any nm z.1 z.2 s n c a m W hsd (by omega) (by omega) (by omega) hlies hzL
      rw [← hCL] at h
      refine h.mono ?_
      rintro e w' ⟨rfl, hb⟩
      obtain ⟨_, _, _, _, _, _, _, a0, a1, a2, a3, a4, a5, a6, a7, hr⟩ := hS
      have hlt : w.heap.size + 1 < W.heap.size := (Array.getElem?_eq_some_iff.1 hr).1
      have hr' := (hb.block _ hlt).trans hr
      refine ⟨rfl, hb, a0, a1, a2, a3, a4, a5, a6, a7, ?_⟩
      exact ⟨cell_of_row _ _ 0 _ _ _ hr', frozen_of_row _ _ 0 _ _ hr', cell_of_row _ _ 1 _ _ _ hr', frozen_of_row _ _ 1 _ _ hr', cell_of_row _ _ 2 _ _ _ hr', frozen_of_row _ _ 2 _ _ hr', cell_of_row _ _ 3 _ _ _ hr', frozen_of_row _ _ 3 _ _ hr', cell_of_row _ _ 4 _ _ _ hr', frozen_of_row _ _ 4 _ _ hr', cell_of_row _ _ 5 _ _ _ hr', frozen_of_row _ _ 5 _ _ hr', cell_of_row _ _ 6 _ _ _ hr', frozen_of_row _ _ 6 _ _ hr', cell_of_row _ _ 7 _ _ _ hr', frozen_of_row _ _ 7 _ _ hr', hr'⟩
    have HK : Hid (∀ w1 W : World, Below W.heap.size W w1 → (W.cell? ⟨G, c * 2, none⟩ = some (.string ⟨z.1.toArray⟩) ∧ W.cell? ⟨G, c * 2 + 1, none⟩ = some (.string ⟨z.2.toArray⟩) ∧ W.cell? ⟨gb, 0, none⟩ = some (.int .i64 n) ∧ W.cell? ⟨gb, 1, none⟩ = some (.int .i64 (c : Int)) ∧ W.cell? ⟨gb, 2, none⟩ = some (.int .i64 (a : Int)) ∧ W.cell? ⟨gb, 3, none⟩ = some (.string ⟨s.toArray⟩) ∧ W.cell? ⟨gb, 4, none⟩ = some (.int .i64 (m : Int)) ∧ PaR (w.heap.size + 1) W) → (w1.cell? ⟨G, c * 2, none⟩ = some (.string ⟨z.1.toArray⟩) ∧ w1.cell? ⟨G, c * 2 + 1, none⟩ = some (.string ⟨z.2.toArray⟩) ∧ w1.cell? ⟨gb, 0, none⟩ = some (.int .i64 n) ∧ w1.cell? ⟨gb, 1, none⟩ = some (.int .i64 (c : Int)) ∧ w1.cell? ⟨gb, 2, none⟩ = some (.int .i64 (a : Int)) ∧ w1.cell? ⟨gb, 3, none⟩ = some (.string ⟨s.toArray⟩) ∧ w1.cell? ⟨gb, 4, none⟩ = some (.int .i64 (m : Int)) ∧ PaR (w.heap.size + 1) w1)) := fun w1 W hb h => by
      obtain ⟨h1, h2, h3, h4, h5, h6, h7, a0, a1, a2, a3, a4, a5, a6, a7, hr⟩ := h
      have e : ∀ p v, W.cell? p = some v → w1.cell? p = some v := fun p v h => (hb.cell (World.block_lt_of_cell? W _ h)).trans h
      have hlt : w.heap.size + 1 < W.heap.size := (Array.getElem?_eq_some_iff.1 hr).1
      exact ⟨e _ _ h1, e _ _ h2, e _ _ h3, e _ _ h4, e _ _ h5, e _ _ h6, e _ _ h7, a0, a1, a2, a3, a4, a5, a6, a7, (hb.block _ hlt).trans hr⟩
    have HSET : Hid (∀ Y : World, (Y.cell? ⟨G, c * 2, none⟩ = some (.string ⟨z.1.toArray⟩) ∧ Y.cell? ⟨G, c * 2 + 1, none⟩ = some (.string ⟨z.2.toArray⟩) ∧ Y.cell? ⟨gb, 0, none⟩ = some (.int .i64 n) ∧ Y.cell? ⟨gb, 1, none⟩ = some (.int .i64 (c : Int)) ∧ Y.cell? ⟨gb, 2, none⟩ = some (.int .i64 (a : Int)) ∧ Y.cell? ⟨gb, 3, none⟩ = some (.string ⟨s.toArray⟩) ∧ Y.cell? ⟨gb, 4, none⟩ = some (.int .i64 (m : Int)) ∧ PaR (w.heap.size + 1) Y) → (((((((((Y.setCell ⟨w.heap.size + 1, 0, none⟩ (.string ⟨nm.toArray⟩)).setCell ⟨w.heap.size + 1, 1, none⟩ (.int .i64 1)).setCell ⟨w.heap.size + 1, 2, none⟩ (.int .i64 n)).setCell ⟨w.heap.size + 1, 3, none⟩ (.string ⟨z.1.toArray⟩)).setCell ⟨w.heap.size + 1, 4, none⟩ (.int .i64 (a : Int))).setCell ⟨w.heap.size + 1, 5, none⟩ (.int .i64 (m : Int))).setCell ⟨w.heap.size + 1, 6, none⟩ (.string ⟨s.toArray⟩)).setCell ⟨w.heap.size + 1, 7, none⟩ (.string ⟨CL.toArray⟩)).cell? ⟨G, c * 2, none⟩ = some (.string ⟨z.1.toArray⟩) ∧ ((((((((Y.setCell ⟨w.heap.size + 1, 0, none⟩ (.string ⟨nm.toArray⟩)).setCell ⟨w.heap.size + 1, 1, none⟩ (.int .i64 1)).setCell ⟨w.heap.size + 1, 2, none⟩ (.int .i64 n)).setCell ⟨w.heap.size + 1, 3, none⟩ (.string ⟨z.1.toArray⟩)).setCell ⟨w.heap.size + 1, 4, none⟩ (.int .i64 (a : Int))).setCell ⟨w.heap.size + 1, 5, none⟩ (.int .i64 (m : Int))).setCell ⟨w.heap.size + 1, 6, none⟩ (.string ⟨s.toArray⟩)).setCell ⟨w.heap.size + 1, 7, none⟩ (.string ⟨CL.toArray⟩)).cell? ⟨G, c * 2 + 1, none⟩ = some (.string ⟨z.2.toArray⟩) ∧ ((((((((Y.setCell ⟨w.heap.size + 1, 0, none⟩ (.string ⟨nm.toArray⟩)).setCell ⟨w.heap.size + 1, 1, none⟩ (.int .i64 1)).setCell ⟨w.heap.size + 1, 2, none⟩ (.int .i64 n)).setCell ⟨w.heap.size + 1, 3, none⟩ (.string ⟨z.1.toArray⟩)).setCell ⟨w.heap.size + 1, 4, none⟩ (.int .i64 (a : Int))).setCell ⟨w.heap.size + 1, 5, none⟩ (.int .i64 (m : Int))).setCell ⟨w.heap.size + 1, 6, none⟩ (.string ⟨s.toArray⟩)).setCell ⟨w.heap.size + 1, 7, none⟩ (.string ⟨CL.toArray⟩)).cell? ⟨gb, 0, none⟩ = some (.int .i64 n) ∧ ((((((((Y.setCell ⟨w.heap.size + 1, 0, none⟩ (.string ⟨nm.toArray⟩)).setCell ⟨w.heap.size + 1, 1, none⟩ (.int .i64 1)).setCell ⟨w.heap.size + 1, 2, none⟩ (.int .i64 n)).setCell ⟨w.heap.size + 1, 3, none⟩ (.string ⟨z.1.toArray⟩)).setCell ⟨w.heap.size + 1, 4, none⟩ (.int .i64 (a : Int))).setCell ⟨w.heap.size + 1, 5, none⟩ (.int .i64 (m : Int))).setCell ⟨w.heap.size + 1, 6, none⟩ (.string ⟨s.toArray⟩)).setCell ⟨w.heap.size + 1, 7, none⟩ (.string ⟨CL.toArray⟩)).cell? ⟨gb, 1, none⟩ = some (.int .i64 (c : Int)) ∧ ((((((((Y.setCell ⟨w.heap.size + 1, 0, none⟩ (.string ⟨nm.toArray⟩)).setCell ⟨w.heap.size + 1, 1, none⟩ (.int .i64 1)).setCell ⟨w.heap.size + 1, 2, none⟩ (.int .i64 n)).setCell ⟨w.heap.size + 1, 3, none⟩ (.string ⟨z.1.toArray⟩)).setCell ⟨w.heap.size + 1, 4, none⟩ (.int .i64 (a : Int))).setCell ⟨w.heap.size + 1, 5, none⟩ (.int .i64 (m : Int))).setCell ⟨w.heap.size + 1, 6, none⟩ (.string ⟨s.toArray⟩)).setCell ⟨w.heap.size + 1, 7, none⟩ (.string ⟨CL.toArray⟩)).cell? ⟨gb, 2, none⟩ = some (.int .i64 (a : Int)) ∧ ((((((((Y.setCell ⟨w.heap.size + 1, 0, none⟩ (.string ⟨nm.toArray⟩)).setCell ⟨w.heap.size + 1, 1, none⟩ (.int .i64 1)).setCell ⟨w.heap.size + 1, 2, none⟩ (.int .i64 n)).setCell ⟨w.heap.size + 1, 3, none⟩ (.string ⟨z.1.toArray⟩)).setCell ⟨w.heap.size + 1, 4, none⟩ (.int .i64 (a : Int))).setCell ⟨w.heap.size + 1, 5, none⟩ (.int .i64 (m : Int))).setCell ⟨w.heap.size + 1, 6, none⟩ (.string ⟨s.toArray⟩)).setCell ⟨w.heap.size + 1, 7, none⟩ (.string ⟨CL.toArray⟩)).cell? ⟨gb, 3, none⟩ = some (.string ⟨s.toArray⟩) ∧ ((((((((Y.setCell ⟨w.heap.size + 1, 0, none⟩ (.string ⟨nm.toArray⟩)).setCell ⟨w.heap.size + 1, 1, none⟩ (.int .i64 1)).setCell ⟨w.heap.size + 1, 2, none⟩ (.int .i64 n)).setCell ⟨w.heap.size + 1, 3, none⟩ (.string ⟨z.1.toArray⟩)).setCell ⟨w.heap.size + 1, 4, none⟩ (.int .i64 (a : Int))).setCell ⟨w.heap.size + 1, 5, none⟩ (.int .i64 (m : Int))).setCell ⟨w.heap.size + 1, 6, none⟩ (.string ⟨s.toArray⟩)).setCell ⟨w.heap.size + 1, 7, none⟩ (.string ⟨CL.toArray⟩)).cell? ⟨gb, 4, none⟩ = some (.int .i64 (m : Int)) ∧ PaR (w.heap.size + 1) ((((((((Y.setCell ⟨w.heap.size + 1, 0, none⟩ (.string ⟨nm.toArray⟩)).setCell ⟨w.heap.size + 1, 1, none⟩ (.int .i64 1)).setCell ⟨w.heap.size + 1, 2, none⟩ (.int .i64 n)).setCell ⟨w.heap.size + 1, 3, none⟩ (.string ⟨z.1.toArray⟩)).setCell ⟨w.heap.size + 1, 4, none⟩ (.int .i64 (a : Int))).setCell ⟨w.heap.size + 1, 5, none⟩ (.int .i64 (m : Int))).setCell ⟨w.heap.size + 1, 6, none⟩ (.string ⟨s.toArray⟩)).setCell ⟨w.heap.size + 1, 7, none⟩ (.string ⟨CL.toArray⟩)))) := fun Y h => by
      obtain ⟨h1, h2, h3, h4, h5, h6, h7, a0, a1, a2, a3, a4, a5, a6, a7, hr⟩ := h
      have e : ∀ g i v, g ≠ w.heap.size + 1 → Y.cell? ⟨g, i, none⟩ = some v → (((((((((Y.setCell ⟨w.heap.size + 1, 0, none⟩ (.string ⟨nm.toArray⟩)).setCell ⟨w.heap.size + 1, 1, none⟩ (.int .i64 1)).setCell ⟨w.heap.size + 1, 2, none⟩ (.int .i64 n)).setCell ⟨w.heap.size + 1, 3, none⟩ (.string ⟨z.1.toArray⟩)).setCell ⟨w.heap.size + 1, 4, none⟩ (.int .i64 (a : Int))).setCell ⟨w.heap.size + 1, 5, none⟩ (.int .i64 (m : Int))).setCell ⟨w.heap.size + 1, 6, none⟩ (.string ⟨s.toArray⟩)).setCell ⟨w.heap.size + 1, 7, none⟩ (.string ⟨CL.toArray⟩))).cell? ⟨g, i, none⟩ = some v := fun g i v hg h => (Pa.cell_same (p := ⟨g, i, none⟩) (PaR.other Y hg _ _ _ _ _ _ _ _)).trans h
      exact ⟨e _ _ _ (by omega) h1, e _ _ _ (by omega) h2, e _ _ _ (by omega) h3, e _ _ _ (by omega) h4, e _ _ _ (by omega) h5, e _ _ _ (by omega) h6, e _ _ _ (by omega) h7, _, _, _, _, _, _, _, _, PaR.store hr (.string ⟨nm.toArray⟩) (.int .i64 1) (.int .i64 n) (.string ⟨z.1.toArray⟩) (.int .i64 (a : Int)) (.int .i64 (m : Int)) (.string ⟨s.toArray⟩) (.string ⟨CL.toArray⟩)⟩
    have HS1 : Hid (w3.drew.cell? ⟨G, c * 2, none⟩ = some (.string ⟨z.1.toArray⟩) ∧ w3.drew.cell? ⟨G, c * 2 + 1, none⟩ = some (.string ⟨z.2.toArray⟩) ∧ w3.drew.cell? ⟨gb, 0, none⟩ = some (.int .i64 n) ∧ w3.drew.cell? ⟨gb, 1, none⟩ = some (.int .i64 (c : Int)) ∧ w3.drew.cell? ⟨gb, 2, none⟩ = some (.int .i64 (a : Int)) ∧ w3.drew.cell? ⟨gb, 3, none⟩ = some (.string ⟨s.toArray⟩) ∧ w3.drew.cell? ⟨gb, 4, none⟩ = some (.int .i64 (m : Int)) ∧ PaR (w.heap.size + 1) w3.drew) := ⟨s0, s1, m0, m1, m2, m3, m4, _, _, _, _, _, _, _, _, HROW.out⟩
    have HBB : Hid _ := HO3.out.st.below
    have hc1' : (c : Int) < (cs.length : Int) := by have : c < cs.length := hc1; omega
    clear hbox hres h1 h2 h3 h4 HREL HEQ hze hzm hzL hsd hlies hsh hzn hzl hCL HV HO3 HROW HZ HR s0 s1 m0 m1 m2 m3 m4
    go_wp2_with fail
    go_region_held3 (fun Y => Y.cell? ⟨G, c * 2, none⟩ = some (.string ⟨z.1.toArray⟩) ∧ Y.cell? ⟨G, c * 2 + 1, none⟩ = some (.string ⟨z.2.toArray⟩) ∧ Y.cell? ⟨gb, 0, none⟩ = some (.int .i64 n) ∧ Y.cell? ⟨gb, 1, none⟩ = some (.int .i64 (c : Int)) ∧ Y.cell? ⟨gb, 2, none⟩ = some (.int .i64 (a : Int)) ∧ Y.cell? ⟨gb, 3, none⟩ = some (.string ⟨s.toArray⟩) ∧ Y.cell? ⟨gb, 4, none⟩ = some (.int .i64 (m : Int)) ∧ PaR (w.heap.size + 1) Y)
      (first | (with_reducible exact HS1.out) | (with_reducible (refine HSET.out _ ?_; assumption)) | (with_reducible (refine HK.out _ _ (by assumption) ?_; assumption)))
      (first
        | (go_at_call 94; refine (HKC.out _ (by assumption)).mono ?_; rintro e w4 ⟨rfl, hb4, a0, a1, a2, a3, a4, a5, a6, a7, r0, f0, r1, f1, r2, f2, r3, f3, r4, f4, r5, f5, r6, f6, r7, f7, HROW⟩))
    all_goals
      go_wp2
      refine bodyPost_ret (pa_ret rfl (PaR.store HROW.out _ _ _ _ _ _ _ _) rfl) rfl ?_
      refine ⟨by rw [HV2.out]; rfl, ?_⟩
      exact (HBB.out.drew.trans (hb4.mono HBB.out.drew.size)).trans ((PaR.beneath w4 (w.heap.size + 1) _ _ _ _ _ _ _ _).mono (by omega))

end Go.Proofs.YtfcbgfomhmcikaaGreatDoor
