/-
  PLAIN MATHEMATICS: what the program chooses is what the document's record says. Own text of the verifier.
  THE WALK of the program's Align. Own text of the verifier.
  THE PROGRAM'S Align, with and without an error. Own text of the verifier.
  THE WALK of the document's Align, where there is no error. Own text of the verifier.
-/
import Derived.Test.YtjebhbopmfcopaaGreatDoorBun12
import Derived.Test.YtjebhbopmfcopaaGreatDoorBun11
import Derived.Test.YtjebhbopmfcopaaGreatDoorBun8
import Derived.Test.YtjebhbopmfcopaaGreatDoorBun1
import Derived.Test.YtjebhbopmfcopaaGreatDoorBun2
import Derived.Test.YtjebhbopmfcopaaGreatDoorBun3
import Derived.Test.YtjebhbopmfcopaaGreatDoorBun4
import Derived.Test.YtjebhbopmfcopaaGreatDoorBun5
import Derived.Test.YtjebhbopmfcopaaGreatDoorBun6
import Derived.Test.YtjebhbopmfcopaaGreatDoorBun7
import Derived.Test.YtjebhbopmfcopaaGreatDoorBun9
import Derived.Test.YtjebhbopmfcopaaGreatDoorBun10
namespace Go.Proofs.YtjebhbopmfcopaaGreatDoor
open Go.RowKit

def Pa.unm (nm : List UInt8) : Rc := ⟨nm, 0, 0, [], 0, 0, [], []⟩
def Pa.amb (nm : List UInt8) : Rc := ⟨nm, 2, 0, [], 0, 0, [], []⟩
def Pa.rec (nm : List UInt8) (x : Pa.Cd) (z : Pr) : Rc := ⟨nm, 1, x.n, z.1, (x.a : Int), (x.m : Int), x.s, Al.calls x.n x.s z.2 x.a x.s.length⟩
/-- what is so of a candidate -/
structure Pa.Ok (cs : List Pr) (b : Int) (x : Pa.Cd) (z : Pr) : Prop where
  at_ : cs[x.c]? = some z
  lies : x.a + x.s.length ≤ z.2.length
  strand : Lt.strandB x.n = true
  short : x.s.length ≤ 128
  mis : x.m = Al.mis x.n x.s (z.2.drop x.a)
  three : (Se.three x.n x.s (z.2.drop x.a) : Int) ≤ b

inductive Pa.Rel (nm : List UInt8) (cs : List Pr) (b : Int) (st : Al.St) (x : Pa.Ch) : Prop
  | none (h1 : x.eq = 0) (h2 : st.least = -1) (h3 : st.best = Pa.unm nm)
  | one (z : Pr) (h1 : x.eq = 1) (h2 : st.least = (x.b.m : Int)) (h3 : st.best = Pa.rec nm x.b z) (h4 : Pa.Ok cs b x.b z)
  | more (z : Pr) (h1 : 2 ≤ x.eq) (h2 : st.least = (x.b.m : Int)) (h3 : st.best = Pa.amb nm) (h4 : Pa.Ok cs b x.b z)

theorem Pa.rel_step {nm : List UInt8} {cs : List Pr} {b : Int} {st : Al.St} {x : Pa.Ch} {n : Int} {s : List UInt8} {q : Nat × Nat} {z : Pr} (h : Pa.Rel nm cs b st x) (hz : cs[q.1]? = some z) (hq : q.2 + s.length ≤ z.2.length) (hn : Lt.strandB n = true) (hs : s.length ≤ 128) (h3 : (Se.three n s (z.2.drop q.2) : Int) ≤ b) :
    Pa.Rel nm cs b (Al.step nm n s cs st q) (Pa.weigh x (Pa.cand n s cs q)) := by
  have hc : Pa.cand n s cs q = ⟨n, q.1, q.2, s, Al.mis n s (z.2.drop q.2)⟩ := by
    unfold Pa.cand
    rw [List.getD_eq_getElem?_getD, hz]
    rfl
  have ho : Pa.Ok cs b ⟨n, q.1, q.2, s, Al.mis n s (z.2.drop q.2)⟩ z := ⟨hz, hq, hn, hs, rfl, h3⟩
  rw [hc]
  unfold Al.step
  rw [hz]
  dsimp only
  unfold Pa.weigh
  dsimp only
  obtain ⟨m, hm⟩ : ∃ m, m = Al.mis n s (z.2.drop q.2) := ⟨_, rfl⟩
  rw [← hm] at ho ⊢
  cases h with
  | none h1 h2 h3 =>
    rw [if_pos h1, if_neg (show ¬ (0 ≤ st.least ∧ st.least < (m : Int)) by omega), if_neg (show ¬ (m : Int) = st.least by omega)]
    exact .one z rfl rfl rfl ho
  | one y h1 h2 h3 h4 =>
    rw [if_neg (show ¬ x.eq = 0 by omega)]
    by_cases hA : x.b.m < m
    · rw [if_pos (show 0 ≤ st.least ∧ st.least < (m : Int) by omega), if_neg (show ¬ m < x.b.m by omega), if_neg (show ¬ m = x.b.m by omega)]
      exact .one y h1 h2 h3 h4
    · rw [if_neg (show ¬ (0 ≤ st.least ∧ st.least < (m : Int)) by omega)]
      by_cases hB : m = x.b.m
      · rw [if_pos (show (m : Int) = st.least by omega), if_neg (show ¬ m < x.b.m by omega), if_pos hB]
        exact .more y (by simp only; omega) h2 rfl h4
      · rw [if_neg (show ¬ (m : Int) = st.least by omega), if_pos (show m < x.b.m by omega)]
        exact .one z rfl rfl rfl ho
  | more y h1 h2 h3 h4 =>
    rw [if_neg (show ¬ x.eq = 0 by omega)]
    by_cases hA : x.b.m < m
    · rw [if_pos (show 0 ≤ st.least ∧ st.least < (m : Int) by omega), if_neg (show ¬ m < x.b.m by omega), if_neg (show ¬ m = x.b.m by omega)]
      exact .more y h1 h2 h3 h4
    · rw [if_neg (show ¬ (0 ≤ st.least ∧ st.least < (m : Int)) by omega)]
      by_cases hB : m = x.b.m
      · rw [if_pos (show (m : Int) = st.least by omega), if_neg (show ¬ m < x.b.m by omega), if_pos hB]
        exact .more y (by simp only; omega) h2 rfl h4
      · rw [if_neg (show ¬ (m : Int) = st.least by omega), if_pos (show m < x.b.m by omega)]
        exact .one z rfl rfl rfl ho

theorem Pa.rel_fold {nm : List UInt8} {cs : List Pr} {b n : Int} {s : List UInt8} (hn : Lt.strandB n = true) (hs : s.length ≤ 128) : ∀ (l : List (Nat × Nat)) (st : Al.St) (x : Pa.Ch), (∀ q ∈ l, ∃ z, cs[q.1]? = some z ∧ q.2 + s.length ≤ z.2.length ∧ (Se.three n s (z.2.drop q.2) : Int) ≤ b) → Pa.Rel nm cs b st x → Pa.Rel nm cs b (l.foldl (Al.step nm n s cs) st) (l.foldl (fun x q => Pa.weigh x (Pa.cand n s cs q)) x) := by
  intro l
  induction l with
  | nil => intro st x _ h; exact h
  | cons q l ih =>
    intro st x hl h
    obtain ⟨z, h1, h2, h3⟩ := hl q List.mem_cons_self
    exact ih _ _ (fun q' hq' => hl q' (List.mem_cons_of_mem _ hq')) (Pa.rel_step h h1 h2 hn hs h3)

theorem Pa.rel {nm r : List UInt8} {cs : List Pr} {b : Int} (hr : r.length ≤ 128) : ∀ k, k ≤ 4 → Pa.Rel nm cs b (Al.upto nm r b cs k) (Pa.upto r b cs k) := by
  intro k
  induction k with
  | zero => intro _; exact .none rfl rfl rfl
  | succ k ih =>
    intro hk
    refine Pa.rel_fold ?_ (by rw [Al.along_length]; exact hr) _ _ _ ?_ (ih (by omega))
    · rw [Lt.strandB, Bool.and_eq_true]
      exact ⟨decide_eq_true (by omega), decide_eq_true (by omega)⟩
    · intro q hq
      obtain ⟨_, z, h1, h2, h3⟩ := Se.inAll_mem _ b _ cs cs.length q hq
      exact ⟨z, h1, h2, h3⟩

end Go.Proofs.YtjebhbopmfcopaaGreatDoor

namespace Go.Proofs.YtjebhbopmfcopaaGreatDoor
open Go.RowKit

/-- how it stands within Align: the read, the result -/
structure PaA (nm lt : List UInt8) (w W : World) : Prop where
  below : Below w.heap.size w W
  size : w.heap.size + 2 ≤ W.heap.size
  read : W.heap[w.heap.size]? = some (.cells #[.string ⟨nm.toArray⟩, .string ⟨lt.toArray⟩] 56 (0, 0))
  res : W.heap[w.heap.size + 1]? = some (.cells #[.string ⟨#[]⟩, .int .i64 0, .int .i64 0, .string ⟨#[]⟩, .int .i64 0, .int .i64 0, .string ⟨#[]⟩, .string ⟨#[]⟩] 52 (0, 0))
theorem PaA.mono {nm lt : List UInt8} {w W W' : World} (h : PaA nm lt w W) (hb : Below W.heap.size W W') : PaA nm lt w W' := by
  have h2 := h.size
  exact ⟨h.below.trans (hb.mono (by omega)), Nat.le_trans h.size hb.size, (hb.block _ (by omega)).trans h.read, (hb.block _ (by omega)).trans h.res⟩
theorem PaA.start (nm lt : List UInt8) (w : World) : PaA nm lt w ((w.alloc (.cells #[.string ⟨nm.toArray⟩, .string ⟨lt.toArray⟩] 56)).alloc (.cells #[.string ⟨#[]⟩, .int .i64 0, .int .i64 0, .string ⟨#[]⟩, .int .i64 0, .int .i64 0, .string ⟨#[]⟩, .string ⟨#[]⟩] 52)) := by
  refine ⟨((Below.refl _ _).alloc (Nat.le_refl _) _).alloc (by simp) _, by simp, ?_, ?_⟩
  · rw [Below.heap_alloc _ _ _ (by simp)]
    exact heap_alloc_new w _
  · exact two_heap w _ _
theorem PaA.alloc {nm lt : List UInt8} {w W : World} (h : PaA nm lt w W) (o : Obj) : PaA nm lt w (W.alloc o) := h.mono ((Below.refl _ _).alloc (Nat.le_refl _) o)

/-- Align's results: a record in a block of its own, and the error -/
theorem pa_ret {w : World} {g : Nat} {A : Array Value} {tmps : Array Value} (hp : tmps.getD 8 undef = .pointer (some ⟨g, 0, none⟩)) (hg : w.heap[g]? = some (.cells A 52 (0, 0))) (h8 : A.size = 8) :
    (results Tryz.f20 tmps).run Tryz.prog w = .ok (.tuple #[.agg A, tmps.getD 9 undef]) w := by
  rw [results_cell_tmp rfl, hp]
  simp only [asAddr, Sem.run_pure, Result.andThen_ok]
  rw [run_loadVar_row w g 52 52 A (0, 0) _ hg Tryz.underlying52 rfl (by rw [Tryz.sizeRec3, h8])]
  rfl

set_option maxRecDepth 100000 in
set_option maxHeartbeats 800000 in
theorem palign_bad (nm lt : List UInt8) (b : Int) (cs : List Pr) (B : Nat) (p : Value) (la : Option Addr) (ln lc : Nat) (w : World) (hl : lt.length ≤ 140737488355327) (hR : Se.Right cs) (hI : IxAt w B p cs) (hE : Al.err b lt ≠ 0) :
    Calls Tryz.prog 20 #[.slice la ln lc, p, .agg #[.string ⟨nm.toArray⟩, .string ⟨lt.toArray⟩], .int .i64 b] w fun e w' =>
      e = .returned (.tuple #[.agg (Rc.vals ⟨[], 0, 0, [], 0, 0, [], []⟩), .int .i64 (Al.err b lt)]) ∧ Below w.heap.size w w' := by
  have hp : ∃ bx, p = .pointer (some ⟨bx, 0, none⟩) := by obtain ⟨bx, _, _, h1, _⟩ := hI; exact ⟨bx, h1⟩
  obtain ⟨bx, rfl⟩ := hp
  obtain ⟨E, hEE⟩ : ∃ E, E = Al.err b lt := ⟨_, rfl⟩
  have HCH : Hid (∀ W : World, Below w.heap.size w W → Calls Tryz.prog 41 #[.slice la ln lc, .pointer (some ⟨bx, 0, none⟩), .string ⟨lt.toArray⟩, .int .i64 b] W fun e w' => e = .returned (.tuple #[.agg #[.int .i64 0, .int .i64 0, .int .i64 0, .string ⟨#[]⟩, .int .i64 0, .int .i64 0], .int .i64 E]) ∧ Below W.heap.size W w') := fun W hb => by
    rw [hEE]
    exact choose_bad lt b cs B _ la ln lc W hl hR (IxAt.below hI hb) hE
  rw [← hEE] at hE ⊢
  have hne : (E != 0) = true := by rw [bne_iff_ne]; exact hE
  have HA0 : Hid _ := PaA.start nm lt w
  clear hEE hE hR hI
  go_enter Tryz.func20, Tryz.ntmps20
  go_wp2_with fail
  refine (HCH.out _ (by exact PaA.below HA0.out)).mono ?_
  rintro e w2 ⟨rfl, hb2⟩
  have HA2 : Hid _ := PaA.alloc (PaA.mono HA0.out hb2) (.cells Pa.zero.vals 103)
  have hres := PaA.res HA2.out
  unfold Pa.Ch.vals Pa.zero at hres
  have r0 : (w2.alloc (.cells #[.int .i64 0, .int .i64 0, .int .i64 0, .string ⟨#[]⟩, .int .i64 0, .int .i64 0] 103)).cell? ⟨w.heap.size + 1, 0, none⟩ = some (.string ⟨#[]⟩) := cell_of_row (w2.alloc (.cells #[.int .i64 0, .int .i64 0, .int .i64 0, .string ⟨#[]⟩, .int .i64 0, .int .i64 0] 103)) (w.heap.size + 1) 0 _ _ _ hres
  have f0 : (w2.alloc (.cells #[.int .i64 0, .int .i64 0, .int .i64 0, .string ⟨#[]⟩, .int .i64 0, .int .i64 0] 103)).frozen? ⟨w.heap.size + 1, 0, none⟩ = false := frozen_of_row (w2.alloc (.cells #[.int .i64 0, .int .i64 0, .int .i64 0, .string ⟨#[]⟩, .int .i64 0, .int .i64 0] 103)) (w.heap.size + 1) 0 _ _ hres
  have r1 : (w2.alloc (.cells #[.int .i64 0, .int .i64 0, .int .i64 0, .string ⟨#[]⟩, .int .i64 0, .int .i64 0] 103)).cell? ⟨w.heap.size + 1, 1, none⟩ = some (.int .i64 0) := cell_of_row (w2.alloc (.cells #[.int .i64 0, .int .i64 0, .int .i64 0, .string ⟨#[]⟩, .int .i64 0, .int .i64 0] 103)) (w.heap.size + 1) 1 _ _ _ hres
  have f1 : (w2.alloc (.cells #[.int .i64 0, .int .i64 0, .int .i64 0, .string ⟨#[]⟩, .int .i64 0, .int .i64 0] 103)).frozen? ⟨w.heap.size + 1, 1, none⟩ = false := frozen_of_row (w2.alloc (.cells #[.int .i64 0, .int .i64 0, .int .i64 0, .string ⟨#[]⟩, .int .i64 0, .int .i64 0] 103)) (w.heap.size + 1) 1 _ _ hres
  have r2 : (w2.alloc (.cells #[.int .i64 0, .int .i64 0, .int .i64 0, .string ⟨#[]⟩, .int .i64 0, .int .i64 0] 103)).cell? ⟨w.heap.size + 1, 2, none⟩ = some (.int .i64 0) := cell_of_row (w2.alloc (.cells #[.int .i64 0, .int .i64 0, .int .i64 0, .string ⟨#[]⟩, .int .i64 0, .int .i64 0] 103)) (w.heap.size + 1) 2 _ _ _ hres
  have f2 : (w2.alloc (.cells #[.int .i64 0, .int .i64 0, .int .i64 0, .string ⟨#[]⟩, .int .i64 0, .int .i64 0] 103)).frozen? ⟨w.heap.size + 1, 2, none⟩ = false := frozen_of_row (w2.alloc (.cells #[.int .i64 0, .int .i64 0, .int .i64 0, .string ⟨#[]⟩, .int .i64 0, .int .i64 0] 103)) (w.heap.size + 1) 2 _ _ hres
  have r3 : (w2.alloc (.cells #[.int .i64 0, .int .i64 0, .int .i64 0, .string ⟨#[]⟩, .int .i64 0, .int .i64 0] 103)).cell? ⟨w.heap.size + 1, 3, none⟩ = some (.string ⟨#[]⟩) := cell_of_row (w2.alloc (.cells #[.int .i64 0, .int .i64 0, .int .i64 0, .string ⟨#[]⟩, .int .i64 0, .int .i64 0] 103)) (w.heap.size + 1) 3 _ _ _ hres
  have f3 : (w2.alloc (.cells #[.int .i64 0, .int .i64 0, .int .i64 0, .string ⟨#[]⟩, .int .i64 0, .int .i64 0] 103)).frozen? ⟨w.heap.size + 1, 3, none⟩ = false := frozen_of_row (w2.alloc (.cells #[.int .i64 0, .int .i64 0, .int .i64 0, .string ⟨#[]⟩, .int .i64 0, .int .i64 0] 103)) (w.heap.size + 1) 3 _ _ hres
  have r4 : (w2.alloc (.cells #[.int .i64 0, .int .i64 0, .int .i64 0, .string ⟨#[]⟩, .int .i64 0, .int .i64 0] 103)).cell? ⟨w.heap.size + 1, 4, none⟩ = some (.int .i64 0) := cell_of_row (w2.alloc (.cells #[.int .i64 0, .int .i64 0, .int .i64 0, .string ⟨#[]⟩, .int .i64 0, .int .i64 0] 103)) (w.heap.size + 1) 4 _ _ _ hres
  have f4 : (w2.alloc (.cells #[.int .i64 0, .int .i64 0, .int .i64 0, .string ⟨#[]⟩, .int .i64 0, .int .i64 0] 103)).frozen? ⟨w.heap.size + 1, 4, none⟩ = false := frozen_of_row (w2.alloc (.cells #[.int .i64 0, .int .i64 0, .int .i64 0, .string ⟨#[]⟩, .int .i64 0, .int .i64 0] 103)) (w.heap.size + 1) 4 _ _ hres
  have r5 : (w2.alloc (.cells #[.int .i64 0, .int .i64 0, .int .i64 0, .string ⟨#[]⟩, .int .i64 0, .int .i64 0] 103)).cell? ⟨w.heap.size + 1, 5, none⟩ = some (.int .i64 0) := cell_of_row (w2.alloc (.cells #[.int .i64 0, .int .i64 0, .int .i64 0, .string ⟨#[]⟩, .int .i64 0, .int .i64 0] 103)) (w.heap.size + 1) 5 _ _ _ hres
  have f5 : (w2.alloc (.cells #[.int .i64 0, .int .i64 0, .int .i64 0, .string ⟨#[]⟩, .int .i64 0, .int .i64 0] 103)).frozen? ⟨w.heap.size + 1, 5, none⟩ = false := frozen_of_row (w2.alloc (.cells #[.int .i64 0, .int .i64 0, .int .i64 0, .string ⟨#[]⟩, .int .i64 0, .int .i64 0] 103)) (w.heap.size + 1) 5 _ _ hres
  have r6 : (w2.alloc (.cells #[.int .i64 0, .int .i64 0, .int .i64 0, .string ⟨#[]⟩, .int .i64 0, .int .i64 0] 103)).cell? ⟨w.heap.size + 1, 6, none⟩ = some (.string ⟨#[]⟩) := cell_of_row (w2.alloc (.cells #[.int .i64 0, .int .i64 0, .int .i64 0, .string ⟨#[]⟩, .int .i64 0, .int .i64 0] 103)) (w.heap.size + 1) 6 _ _ _ hres
  have f6 : (w2.alloc (.cells #[.int .i64 0, .int .i64 0, .int .i64 0, .string ⟨#[]⟩, .int .i64 0, .int .i64 0] 103)).frozen? ⟨w.heap.size + 1, 6, none⟩ = false := frozen_of_row (w2.alloc (.cells #[.int .i64 0, .int .i64 0, .int .i64 0, .string ⟨#[]⟩, .int .i64 0, .int .i64 0] 103)) (w.heap.size + 1) 6 _ _ hres
  have r7 : (w2.alloc (.cells #[.int .i64 0, .int .i64 0, .int .i64 0, .string ⟨#[]⟩, .int .i64 0, .int .i64 0] 103)).cell? ⟨w.heap.size + 1, 7, none⟩ = some (.string ⟨#[]⟩) := cell_of_row (w2.alloc (.cells #[.int .i64 0, .int .i64 0, .int .i64 0, .string ⟨#[]⟩, .int .i64 0, .int .i64 0] 103)) (w.heap.size + 1) 7 _ _ _ hres
  have f7 : (w2.alloc (.cells #[.int .i64 0, .int .i64 0, .int .i64 0, .string ⟨#[]⟩, .int .i64 0, .int .i64 0] 103)).frozen? ⟨w.heap.size + 1, 7, none⟩ = false := frozen_of_row (w2.alloc (.cells #[.int .i64 0, .int .i64 0, .int .i64 0, .string ⟨#[]⟩, .int .i64 0, .int .i64 0] 103)) (w.heap.size + 1) 7 _ _ hres
  have HROW : Hid _ := hres
  clear hb2 hres HA0 HCH
  go_wp2
  refine bodyPost_ret (pa_ret rfl (PaR.store HROW.out _ _ _ _ _ _ _ _) rfl) rfl ?_
  exact ⟨rfl, (PaA.below HA2.out).trans ((PaR.beneath _ (w.heap.size + 1) _ _ _ _ _ _ _ _).mono (by omega))⟩

theorem PaR.other (w : World) {g k : Nat} (hk : k ≠ g) (b0 b1 b2 b3 b4 b5 b6 b7 : Value) :
    ((((((((w.setCell ⟨g, 0, none⟩ b0).setCell ⟨g, 1, none⟩ b1).setCell ⟨g, 2, none⟩ b2).setCell ⟨g, 3, none⟩ b3).setCell ⟨g, 4, none⟩ b4).setCell ⟨g, 5, none⟩ b5).setCell ⟨g, 6, none⟩ b6).setCell ⟨g, 7, none⟩ b7).heap[k]? = w.heap[k]? := by
  have e : ∀ (w : World) i v, (w.setCell ⟨g, i, none⟩ v).heap[k]? = w.heap[k]? := fun w i v => by simp [World.setCell, Array.getElem?_modify, Ne.symm hk]
  rw [e, e, e, e, e, e, e, e]

/-- the last step: the one best candidate is told -/
structure PaO (cs : List Pr) (nm lt : List UInt8) (w W : World) (G gb : Nat) (x : Pa.Ch) : Prop where
  st : PaA nm lt w W
  src : ∀ j u, (Prs cs)[j]? = some u → W.cell? ((⟨G, 0, none⟩ : Addr).add j) = some u
  box : W.heap[gb]? = some (.cells x.vals 103 (0, 0))
  lt : w.heap.size + 2 ≤ gb
  low : G < w.heap.size
theorem PaO.mono {cs : List Pr} {nm lt : List UInt8} {w W W' : World} {G gb : Nat} {x : Pa.Ch} (h : PaO cs nm lt w W G gb x) (hb : Below W.heap.size W W') : PaO cs nm lt w W' G gb x := by
  have h1 : gb < W.heap.size := (Array.getElem?_eq_some_iff.1 h.box).1
  exact ⟨h.st.mono hb, src_keep h.src hb, (hb.block _ h1).trans h.box, h.lt, h.low⟩

set_option maxRecDepth 100000 in
set_option maxHeartbeats 3200000 in
theorem palign_good (nm lt : List UInt8) (b : Int) (cs : List Pr) (B : Nat) (p : Value) (G cc : Nat) (w : World) (hnm : nm.length ≤ 140737488355327) (hR : Se.Right cs) (hZ : ∀ x ∈ cs, x.1.length ≤ 140737488355327) (hI : IxAt w B p cs) (hE : Al.err b lt = 0) (hG : G < w.heap.size) (hsrc : ∀ j u, (Prs cs)[j]? = some u → w.cell? ((⟨G, 0, none⟩ : Addr).add j) = some u) :
    Calls Tryz.prog 20 #[.slice (some ⟨G, 0, none⟩) cs.length cc, p, .agg #[.string ⟨nm.toArray⟩, .string ⟨lt.toArray⟩], .int .i64 b] w fun e w' =>
      e = .returned (.tuple #[.agg (Rc.vals (Al.upto nm lt b cs 4).best), .int .i64 0]) ∧ Below w.heap.size w w' := by
  have hp : ∃ bx, p = .pointer (some ⟨bx, 0, none⟩) := by obtain ⟨bx, _, _, h1, _⟩ := hI; exact ⟨bx, h1⟩
  obtain ⟨bx, rfl⟩ := hp
  obtain ⟨hb0, hb3, hL0, hl128⟩ := Al.err_none hE
  have HREL : Hid _ := Pa.rel (nm := nm) (cs := cs) (b := b) hl128 4 (Nat.le_refl _)
  obtain ⟨x, hx⟩ : ∃ x, x = Pa.upto lt b cs 4 := ⟨_, rfl⟩
  have HEQ : Hid (x.eq ≤ 360000) := by show _ ≤ _; rw [hx]; have := Pa.upto_eq hR lt b 4; omega
  have HCH : Hid (∀ W : World, Below w.heap.size w W → Calls Tryz.prog 41 #[.slice (some ⟨G, 0, none⟩) cs.length cc, .pointer (some ⟨bx, 0, none⟩), .string ⟨lt.toArray⟩, .int .i64 b] W fun e w' => e = .returned (.tuple #[.agg #[.int .i64 x.b.n, .int .i64 (x.b.c : Int), .int .i64 (x.b.a : Int), .string ⟨x.b.s.toArray⟩, .int .i64 (x.b.m : Int), .int .i64 (x.eq : Int)], .int .i64 0]) ∧ Below W.heap.size W w') := fun W hb => by
    rw [hx]
    exact choose_good lt b cs B _ ⟨G, 0, none⟩ cc W hR (IxAt.below hI hb) hE (src_keep hsrc hb)
  rw [← hx] at HREL
  obtain ⟨F, hF⟩ : ∃ F, F = (Al.upto nm lt b cs 4).best := ⟨_, rfl⟩
  rw [← hF]
  have HF : Hid _ := hF
  have HR : Hid _ := hR
  have HZ : Hid _ := hZ
  have HSRC : Hid _ := hsrc
  have HCL : Hid (∀ W : World, Calls Tryz.prog 42 #[.string ⟨nm.toArray⟩] W fun e w' => e = .returned (.string ⟨nm.toArray⟩) ∧ Below W.heap.size W w') := fun W => clone_any _ W (by rw [str_size]; omega)
  have HA0 : Hid _ := PaA.start nm lt w
  clear hx hR hI hE hsrc hL0 hF hZ
  go_enter Tryz.func20, Tryz.ntmps20
  go_wp2_with fail
  refine (HCH.out _ (by exact PaA.below HA0.out)).mono ?_
  rintro e w2 ⟨rfl, hb2⟩
  have HO : Hid (PaO cs nm lt w (w2.alloc (.cells #[.int .i64 x.b.n, .int .i64 (x.b.c : Int), .int .i64 (x.b.a : Int), .string ⟨x.b.s.toArray⟩, .int .i64 (x.b.m : Int), .int .i64 (x.eq : Int)] 103)) G w2.heap.size x) := by
    have h2 := PaA.mono HA0.out hb2
    exact ⟨h2.alloc _, src_keep HSRC.out (h2.alloc _).below, heap_alloc_new w2 _, h2.size, hG⟩
  have hrd := HO.out.st.read
  have q0 : (w2.alloc (.cells #[.int .i64 x.b.n, .int .i64 (x.b.c : Int), .int .i64 (x.b.a : Int), .string ⟨x.b.s.toArray⟩, .int .i64 (x.b.m : Int), .int .i64 (x.eq : Int)] 103)).cell? ⟨w.heap.size, 0, none⟩ = some (.string ⟨nm.toArray⟩) := cell_of_row _ w.heap.size 0 _ _ _ hrd
  clear hb2 HA0 HCH HSRC hrd
  go_wp2_with fail
  refine (HCL.out _).mono ?_
  rintro e w3 ⟨rfl, hb3'⟩
  have HO3 : Hid _ := PaO.mono HO.out hb3'
  generalize w2.heap.size = gb at *
  clear hb3' q0 HO HCL
  have hbox := HO3.out.box
  have hres := HO3.out.st.res
  have m5 : w3.cell? ⟨gb, 5, none⟩ = some (.int .i64 (x.eq : Int)) := cell_of_row w3 gb 5 _ _ _ hbox
  have r0 : w3.cell? ⟨w.heap.size + 1, 0, none⟩ = some (.string ⟨#[]⟩) := cell_of_row w3 (w.heap.size + 1) 0 _ _ _ hres
  have f0 : w3.frozen? ⟨w.heap.size + 1, 0, none⟩ = false := frozen_of_row w3 (w.heap.size + 1) 0 _ _ hres
  have r1 : w3.cell? ⟨w.heap.size + 1, 1, none⟩ = some (.int .i64 0) := cell_of_row w3 (w.heap.size + 1) 1 _ _ _ hres
  have f1 : w3.frozen? ⟨w.heap.size + 1, 1, none⟩ = false := frozen_of_row w3 (w.heap.size + 1) 1 _ _ hres
  have r2 : w3.cell? ⟨w.heap.size + 1, 2, none⟩ = some (.int .i64 0) := cell_of_row w3 (w.heap.size + 1) 2 _ _ _ hres
  have f2 : w3.frozen? ⟨w.heap.size + 1, 2, none⟩ = false := frozen_of_row w3 (w.heap.size + 1) 2 _ _ hres
  have r3 : w3.cell? ⟨w.heap.size + 1, 3, none⟩ = some (.string ⟨#[]⟩) := cell_of_row w3 (w.heap.size + 1) 3 _ _ _ hres
  have f3 : w3.frozen? ⟨w.heap.size + 1, 3, none⟩ = false := frozen_of_row w3 (w.heap.size + 1) 3 _ _ hres
  have r4 : w3.cell? ⟨w.heap.size + 1, 4, none⟩ = some (.int .i64 0) := cell_of_row w3 (w.heap.size + 1) 4 _ _ _ hres
  have f4 : w3.frozen? ⟨w.heap.size + 1, 4, none⟩ = false := frozen_of_row w3 (w.heap.size + 1) 4 _ _ hres
  have r5 : w3.cell? ⟨w.heap.size + 1, 5, none⟩ = some (.int .i64 0) := cell_of_row w3 (w.heap.size + 1) 5 _ _ _ hres
  have f5 : w3.frozen? ⟨w.heap.size + 1, 5, none⟩ = false := frozen_of_row w3 (w.heap.size + 1) 5 _ _ hres
  have r6 : w3.cell? ⟨w.heap.size + 1, 6, none⟩ = some (.string ⟨#[]⟩) := cell_of_row w3 (w.heap.size + 1) 6 _ _ _ hres
  have f6 : w3.frozen? ⟨w.heap.size + 1, 6, none⟩ = false := frozen_of_row w3 (w.heap.size + 1) 6 _ _ hres
  have r7 : w3.cell? ⟨w.heap.size + 1, 7, none⟩ = some (.string ⟨#[]⟩) := cell_of_row w3 (w.heap.size + 1) 7 _ _ _ hres
  have f7 : w3.frozen? ⟨w.heap.size + 1, 7, none⟩ = false := frozen_of_row w3 (w.heap.size + 1) 7 _ _ hres
  have HROW : Hid _ := hres
  cases HREL.out with
  | none h1 h2 h3 =>
    have HV : Hid (F = Pa.unm nm) := by show _ = _; rw [HF.out, h3]
    have hee : ((x.eq : Int) == 0) = true := by rw [beq_iff_eq]; omega
    rw [h1] at m5
    clear hbox hres h1 h2 h3 HREL HEQ
    go_wp2
    refine bodyPost_ret (pa_ret rfl (PaR.store HROW.out _ _ _ _ _ _ _ _) rfl) rfl ?_
    exact ⟨by rw [HV.out]; rfl, HO3.out.st.below.trans ((PaR.beneath _ (w.heap.size + 1) _ _ _ _ _ _ _ _).mono (by omega))⟩
  | more z h1 h2 h3 h4 =>
    have HV : Hid (F = Pa.amb nm) := by show _ = _; rw [HF.out, h3]
    have he0 : ((x.eq : Int) == 0) = false := by rw [beq_eq_false_iff_ne]; omega
    have he1 : ((x.eq : Int) == 1) = false := by rw [beq_eq_false_iff_ne]; omega
    clear hbox hres h1 h2 h3 h4 HREL HEQ
    go_wp2
    refine bodyPost_ret (pa_ret rfl (PaR.store HROW.out _ _ _ _ _ _ _ _) rfl) rfl ?_
    exact ⟨by rw [HV.out]; rfl, HO3.out.st.below.trans ((PaR.beneath _ (w.heap.size + 1) _ _ _ _ _ _ _ _).mono (by omega))⟩
  | one z h1 h2 h3 h4 =>
    clear r0 f0 r1 f1 r2 f2 r3 f3 r4 f4 r5 f5 r6 f6 r7 f7
    have HV : Hid (F = Pa.rec nm x.b z) := by show _ = _; rw [HF.out, h3]
    rw [h1] at m5
    have hc1 : x.b.c < cs.length := (List.getElem?_eq_some_iff.1 h4.at_).1
    have hze : z = cs[x.b.c] := by have h := h4.at_; rw [List.getElem?_eq_getElem hc1] at h; exact (Option.some.inj h).symm
    have hzm : z ∈ cs := by rw [hze]; exact List.getElem_mem _
    have s0 := src_first HO3.out.src x.b.c hc1
    have s1 := src_pair HO3.out.src x.b.c hc1
    rw [← hze, Addr.add_lit, Nat.zero_add] at s0 s1
    have m0 : w3.cell? ⟨gb, 0, none⟩ = some (.int .i64 x.b.n) := cell_of_row w3 gb 0 _ _ _ hbox
    have m1 : w3.cell? ⟨gb, 1, none⟩ = some (.int .i64 (x.b.c : Int)) := cell_of_row w3 gb 1 _ _ _ hbox
    have m2 : w3.cell? ⟨gb, 2, none⟩ = some (.int .i64 (x.b.a : Int)) := cell_of_row w3 gb 2 _ _ _ hbox
    have m3 : w3.cell? ⟨gb, 3, none⟩ = some (.string ⟨x.b.s.toArray⟩) := cell_of_row w3 gb 3 _ _ _ hbox
    have m4 : w3.cell? ⟨gb, 4, none⟩ = some (.int .i64 (x.b.m : Int)) := cell_of_row w3 gb 4 _ _ _ hbox
    have hzn := HZ.out z hzm
    have hzl := HR.out.len z hzm
    have hzL := HR.out.let_ z hzm
    have hlies := h4.lies
    have hsd := h4.strand
    have hsh := h4.short
    have hGb : w.heap.size + 2 ≤ gb := HO3.out.lt
    obtain ⟨xb, xe⟩ := x
    obtain ⟨n, c, a, s, m⟩ := xb
    dsimp only at *
    obtain ⟨CL, hCL⟩ : ∃ CL, CL = Al.calls n s z.2 a s.length := ⟨_, rfl⟩
    have HV2 : Hid (F = ⟨nm, 1, n, z.1, (a : Int), (m : Int), s, CL⟩) := by show _ = _; rw [HV.out, hCL]; rfl
    have HKC : Hid (∀ W : World, (W.cell? ⟨G, c * 2, none⟩ = some (.string ⟨z.1.toArray⟩) ∧ W.cell? ⟨G, c * 2 + 1, none⟩ = some (.string ⟨z.2.toArray⟩) ∧ W.cell? ⟨gb, 0, none⟩ = some (.int .i64 n) ∧ W.cell? ⟨gb, 1, none⟩ = some (.int .i64 (c : Int)) ∧ W.cell? ⟨gb, 2, none⟩ = some (.int .i64 (a : Int)) ∧ W.cell? ⟨gb, 3, none⟩ = some (.string ⟨s.toArray⟩) ∧ W.cell? ⟨gb, 4, none⟩ = some (.int .i64 (m : Int)) ∧ PaR (w.heap.size + 1) W) → Calls Tryz.prog 43 #[.string ⟨nm.toArray⟩, .agg #[.string ⟨z.1.toArray⟩, .string ⟨z.2.toArray⟩], .agg #[.int .i64 n, .int .i64 (c : Int), .int .i64 (a : Int), .string ⟨s.toArray⟩, .int .i64 (m : Int)]] W fun e w' => e = .returned (.agg #[.string ⟨nm.toArray⟩, .int .i64 1, .int .i64 n, .string ⟨z.1.toArray⟩, .int .i64 (a : Int), .int .i64 (m : Int), .string ⟨s.toArray⟩, .string ⟨CL.toArray⟩]) ∧ Below W.heap.size W w' ∧ ∃ a0 a1 a2 a3 a4 a5 a6 a7, w'.cell? ⟨w.heap.size + 1, 0, none⟩ = some a0 ∧ w'.frozen? ⟨w.heap.size + 1, 0, none⟩ = false ∧ w'.cell? ⟨w.heap.size + 1, 1, none⟩ = some a1 ∧ w'.frozen? ⟨w.heap.size + 1, 1, none⟩ = false ∧ w'.cell? ⟨w.heap.size + 1, 2, none⟩ = some a2 ∧ w'.frozen? ⟨w.heap.size + 1, 2, none⟩ = false ∧ w'.cell? ⟨w.heap.size + 1, 3, none⟩ = some a3 ∧ w'.frozen? ⟨w.heap.size + 1, 3, none⟩ = false ∧ w'.cell? ⟨w.heap.size + 1, 4, none⟩ = some a4 ∧ w'.frozen? ⟨w.heap.size + 1, 4, none⟩ = false ∧ w'.cell? ⟨w.heap.size + 1, 5, none⟩ = some a5 ∧ w'.frozen? ⟨w.heap.size + 1, 5, none⟩ = false ∧ w'.cell? ⟨w.heap.size + 1, 6, none⟩ = some a6 ∧ w'.frozen? ⟨w.heap.size + 1, 6, none⟩ = false ∧ w'.cell? ⟨w.heap.size + 1, 7, none⟩ = some a7 ∧ w'.frozen? ⟨w.heap.size + 1, 7, none⟩ = false ∧ Hid (w'.heap[w.heap.size + 1]? = some (.cells #[a0, a1, a2, a3, a4, a5, a6, a7] 52 (0, 0)))) := fun W hS => by
      have h := aligned_any nm z.1 z.2 s n c a m W hsd (by omega) (by omega) (by omega) hlies hzL
      rw [← hCL] at h
      refine h.mono ?_
      rintro e w' ⟨rfl, hb⟩
      obtain ⟨_, _, _, _, _, _, _, a0, a1, a2, a3, a4, a5, a6, a7, hr⟩ := hS
      have hlt : w.heap.size + 1 < W.heap.size := (Array.getElem?_eq_some_iff.1 hr).1
      have hr' := (hb.block _ hlt).trans hr
      refine ⟨rfl, hb, a0, a1, a2, a3, a4, a5, a6, a7, ?_⟩
      exact ⟨cell_of_row _ _ 0 _ _ _ hr', frozen_of_row _ _ 0 _ _ hr', cell_of_row _ _ 1 _ _ _ hr', frozen_of_row _ _ 1 _ _ hr', cell_of_row _ _ 2 _ _ _ hr', frozen_of_row _ _ 2 _ _ hr', cell_of_row _ _ 3 _ _ _ hr', frozen_of_row _ _ 3 _ _ hr', cell_of_row _ _ 4 _ _ _ hr', frozen_of_row _ _ 4 _ _ hr', cell_of_row _ _ 5 _ _ _ hr', frozen_of_row _ _ 5 _ _ hr', cell_of_row _ _ 6 _ _ _ hr', frozen_of_row _ _ 6 _ _ hr', cell_of_row _ _ 7 _ _ _ hr', frozen_of_row _ _ 7 _ _ hr', hr'⟩
    have HK : Hid (∀ w1 W : World, Below W.heap.size W w1 → (W.cell? ⟨G, c * 2, none⟩ = some (.string ⟨z.1.toArray⟩) ∧ W.cell? ⟨G, c * 2 + 1, none⟩ = some (.string ⟨z.2.toArray⟩) ∧ W.cell? ⟨gb, 0, none⟩ = some (.int .i64 n) ∧ W.cell? ⟨gb, 1, none⟩ = some (.int .i64 (c : Int)) ∧ W.cell? ⟨gb, 2, none⟩ = some (.int .i64 (a : Int)) ∧ W.cell? ⟨gb, 3, none⟩ = some (.string ⟨s.toArray⟩) ∧ W.cell? ⟨gb, 4, none⟩ = some (.int .i64 (m : Int)) ∧ PaR (w.heap.size + 1) W) → (w1.cell? ⟨G, c * 2, none⟩ = some (.string ⟨z.1.toArray⟩) ∧ w1.cell? ⟨G, c * 2 + 1, none⟩ = some (.string ⟨z.2.toArray⟩) ∧ w1.cell? ⟨gb, 0, none⟩ = some (.int .i64 n) ∧ w1.cell? ⟨gb, 1, none⟩ = some (.int .i64 (c : Int)) ∧ w1.cell? ⟨gb, 2, none⟩ = some (.int .i64 (a : Int)) ∧ w1.cell? ⟨gb, 3, none⟩ = some (.string ⟨s.toArray⟩) ∧ w1.cell? ⟨gb, 4, none⟩ = some (.int .i64 (m : Int)) ∧ PaR (w.heap.size + 1) w1)) := fun w1 W hb h => by
      obtain ⟨h1, h2, h3, h4, h5, h6, h7, a0, a1, a2, a3, a4, a5, a6, a7, hr⟩ := h
      have e : ∀ p v, W.cell? p = some v → w1.cell? p = some v := fun p v h => (hb.cell (World.block_lt_of_cell? W _ h)).trans h
      have hlt : w.heap.size + 1 < W.heap.size := (Array.getElem?_eq_some_iff.1 hr).1
      exact ⟨e _ _ h1, e _ _ h2, e _ _ h3, e _ _ h4, e _ _ h5, e _ _ h6, e _ _ h7, a0, a1, a2, a3, a4, a5, a6, a7, (hb.block _ hlt).trans hr⟩
    have HSET : Hid (∀ Y : World, (Y.cell? ⟨G, c * 2, none⟩ = some (.string ⟨z.1.toArray⟩) ∧ Y.cell? ⟨G, c * 2 + 1, none⟩ = some (.string ⟨z.2.toArray⟩) ∧ Y.cell? ⟨gb, 0, none⟩ = some (.int .i64 n) ∧ Y.cell? ⟨gb, 1, none⟩ = some (.int .i64 (c : Int)) ∧ Y.cell? ⟨gb, 2, none⟩ = some (.int .i64 (a : Int)) ∧ Y.cell? ⟨gb, 3, none⟩ = some (.string ⟨s.toArray⟩) ∧ Y.cell? ⟨gb, 4, none⟩ = some (.int .i64 (m : Int)) ∧ PaR (w.heap.size + 1) Y) → (((((((((Y.setCell ⟨w.heap.size + 1, 0, none⟩ (.string ⟨nm.toArray⟩)).setCell ⟨w.heap.size + 1, 1, none⟩ (.int .i64 1)).setCell ⟨w.heap.size + 1, 2, none⟩ (.int .i64 n)).setCell ⟨w.heap.size + 1, 3, none⟩ (.string ⟨z.1.toArray⟩)).setCell ⟨w.heap.size + 1, 4, none⟩ (.int .i64 (a : Int))).setCell ⟨w.heap.size + 1, 5, none⟩ (.int .i64 (m : Int))).setCell ⟨w.heap.size + 1, 6, none⟩ (.string ⟨s.toArray⟩)).setCell ⟨w.heap.size + 1, 7, none⟩ (.string ⟨CL.toArray⟩)).cell? ⟨G, c * 2, none⟩ = some (.string ⟨z.1.toArray⟩) ∧ ((((((((Y.setCell ⟨w.heap.size + 1, 0, none⟩ (.string ⟨nm.toArray⟩)).setCell ⟨w.heap.size + 1, 1, none⟩ (.int .i64 1)).setCell ⟨w.heap.size + 1, 2, none⟩ (.int .i64 n)).setCell ⟨w.heap.size + 1, 3, none⟩ (.string ⟨z.1.toArray⟩)).setCell ⟨w.heap.size + 1, 4, none⟩ (.int .i64 (a : Int))).setCell ⟨w.heap.size + 1, 5, none⟩ (.int .i64 (m : Int))).setCell ⟨w.heap.size + 1, 6, none⟩ (.string ⟨s.toArray⟩)).setCell ⟨w.heap.size + 1, 7, none⟩ (.string ⟨CL.toArray⟩)).cell? ⟨G, c * 2 + 1, none⟩ = some (.string ⟨z.2.toArray⟩) ∧ ((((((((Y.setCell ⟨w.heap.size + 1, 0, none⟩ (.string ⟨nm.toArray⟩)).setCell ⟨w.heap.size + 1, 1, none⟩ (.int .i64 1)).setCell ⟨w.heap.size + 1, 2, none⟩ (.int .i64 n)).setCell ⟨w.heap.size + 1, 3, none⟩ (.string ⟨z.1.toArray⟩)).setCell ⟨w.heap.size + 1, 4, none⟩ (.int .i64 (a : Int))).setCell ⟨w.heap.size + 1, 5, none⟩ (.int .i64 (m : Int))).setCell ⟨w.heap.size + 1, 6, none⟩ (.string ⟨s.toArray⟩)).setCell ⟨w.heap.size + 1, 7, none⟩ (.string ⟨CL.toArray⟩)).cell? ⟨gb, 0, none⟩ = some (.int .i64 n) ∧ ((((((((Y.setCell ⟨w.heap.size + 1, 0, none⟩ (.string ⟨nm.toArray⟩)).setCell ⟨w.heap.size + 1, 1, none⟩ (.int .i64 1)).setCell ⟨w.heap.size + 1, 2, none⟩ (.int .i64 n)).setCell ⟨w.heap.size + 1, 3, none⟩ (.string ⟨z.1.toArray⟩)).setCell ⟨w.heap.size + 1, 4, none⟩ (.int .i64 (a : Int))).setCell ⟨w.heap.size + 1, 5, none⟩ (.int .i64 (m : Int))).setCell ⟨w.heap.size + 1, 6, none⟩ (.string ⟨s.toArray⟩)).setCell ⟨w.heap.size + 1, 7, none⟩ (.string ⟨CL.toArray⟩)).cell? ⟨gb, 1, none⟩ = some (.int .i64 (c : Int)) ∧ ((((((((Y.setCell ⟨w.heap.size + 1, 0, none⟩ (.string ⟨nm.toArray⟩)).setCell ⟨w.heap.size + 1, 1, none⟩ (.int .i64 1)).setCell ⟨w.heap.size + 1, 2, none⟩ (.int .i64 n)).setCell ⟨w.heap.size + 1, 3, none⟩ (.string ⟨z.1.toArray⟩)).setCell ⟨w.heap.size + 1, 4, none⟩ (.int .i64 (a : Int))).setCell ⟨w.heap.size + 1, 5, none⟩ (.int .i64 (m : Int))).setCell ⟨w.heap.size + 1, 6, none⟩ (.string ⟨s.toArray⟩)).setCell ⟨w.heap.size + 1, 7, none⟩ (.string ⟨CL.toArray⟩)).cell? ⟨gb, 2, none⟩ = some (.int .i64 (a : Int)) ∧ ((((((((Y.setCell ⟨w.heap.size + 1, 0, none⟩ (.string ⟨nm.toArray⟩)).setCell ⟨w.heap.size + 1, 1, none⟩ (.int .i64 1)).setCell ⟨w.heap.size + 1, 2, none⟩ (.int .i64 n)).setCell ⟨w.heap.size + 1, 3, none⟩ (.string ⟨z.1.toArray⟩)).setCell ⟨w.heap.size + 1, 4, none⟩ (.int .i64 (a : Int))).setCell ⟨w.heap.size + 1, 5, none⟩ (.int .i64 (m : Int))).setCell ⟨w.heap.size + 1, 6, none⟩ (.string ⟨s.toArray⟩)).setCell ⟨w.heap.size + 1, 7, none⟩ (.string ⟨CL.toArray⟩)).cell? ⟨gb, 3, none⟩ = some (.string ⟨s.toArray⟩) ∧ ((((((((Y.setCell ⟨w.heap.size + 1, 0, none⟩ (.string ⟨nm.toArray⟩)).setCell ⟨w.heap.size + 1, 1, none⟩ (.int .i64 1)).setCell ⟨w.heap.size + 1, 2, none⟩ (.int .i64 n)).setCell ⟨w.heap.size + 1, 3, none⟩ (.string ⟨z.1.toArray⟩)).setCell ⟨w.heap.size + 1, 4, none⟩ (.int .i64 (a : Int))).setCell ⟨w.heap.size + 1, 5, none⟩ (.int .i64 (m : Int))).setCell ⟨w.heap.size + 1, 6, none⟩ (.string ⟨s.toArray⟩)).setCell ⟨w.heap.size + 1, 7, none⟩ (.string ⟨CL.toArray⟩)).cell? ⟨gb, 4, none⟩ = some (.int .i64 (m : Int)) ∧ PaR (w.heap.size + 1) ((((((((Y.setCell ⟨w.heap.size + 1, 0, none⟩ (.string ⟨nm.toArray⟩)).setCell ⟨w.heap.size + 1, 1, none⟩ (.int .i64 1)).setCell ⟨w.heap.size + 1, 2, none⟩ (.int .i64 n)).setCell ⟨w.heap.size + 1, 3, none⟩ (.string ⟨z.1.toArray⟩)).setCell ⟨w.heap.size + 1, 4, none⟩ (.int .i64 (a : Int))).setCell ⟨w.heap.size + 1, 5, none⟩ (.int .i64 (m : Int))).setCell ⟨w.heap.size + 1, 6, none⟩ (.string ⟨s.toArray⟩)).setCell ⟨w.heap.size + 1, 7, none⟩ (.string ⟨CL.toArray⟩)))) := fun Y h => by
      obtain ⟨h1, h2, h3, h4, h5, h6, h7, a0, a1, a2, a3, a4, a5, a6, a7, hr⟩ := h
      have e : ∀ g i v, g ≠ w.heap.size + 1 → Y.cell? ⟨g, i, none⟩ = some v → (((((((((Y.setCell ⟨w.heap.size + 1, 0, none⟩ (.string ⟨nm.toArray⟩)).setCell ⟨w.heap.size + 1, 1, none⟩ (.int .i64 1)).setCell ⟨w.heap.size + 1, 2, none⟩ (.int .i64 n)).setCell ⟨w.heap.size + 1, 3, none⟩ (.string ⟨z.1.toArray⟩)).setCell ⟨w.heap.size + 1, 4, none⟩ (.int .i64 (a : Int))).setCell ⟨w.heap.size + 1, 5, none⟩ (.int .i64 (m : Int))).setCell ⟨w.heap.size + 1, 6, none⟩ (.string ⟨s.toArray⟩)).setCell ⟨w.heap.size + 1, 7, none⟩ (.string ⟨CL.toArray⟩))).cell? ⟨g, i, none⟩ = some v := fun g i v hg h => (Pa.cell_same (p := ⟨g, i, none⟩) (PaR.other Y hg _ _ _ _ _ _ _ _)).trans h
      exact ⟨e _ _ _ (by omega) h1, e _ _ _ (by omega) h2, e _ _ _ (by omega) h3, e _ _ _ (by omega) h4, e _ _ _ (by omega) h5, e _ _ _ (by omega) h6, e _ _ _ (by omega) h7, _, _, _, _, _, _, _, _, PaR.store hr (.string ⟨nm.toArray⟩) (.int .i64 1) (.int .i64 n) (.string ⟨z.1.toArray⟩) (.int .i64 (a : Int)) (.int .i64 (m : Int)) (.string ⟨s.toArray⟩) (.string ⟨CL.toArray⟩)⟩
    have HS1 : Hid (w3.drew.cell? ⟨G, c * 2, none⟩ = some (.string ⟨z.1.toArray⟩) ∧ w3.drew.cell? ⟨G, c * 2 + 1, none⟩ = some (.string ⟨z.2.toArray⟩) ∧ w3.drew.cell? ⟨gb, 0, none⟩ = some (.int .i64 n) ∧ w3.drew.cell? ⟨gb, 1, none⟩ = some (.int .i64 (c : Int)) ∧ w3.drew.cell? ⟨gb, 2, none⟩ = some (.int .i64 (a : Int)) ∧ w3.drew.cell? ⟨gb, 3, none⟩ = some (.string ⟨s.toArray⟩) ∧ w3.drew.cell? ⟨gb, 4, none⟩ = some (.int .i64 (m : Int)) ∧ PaR (w.heap.size + 1) w3.drew) := ⟨s0, s1, m0, m1, m2, m3, m4, _, _, _, _, _, _, _, _, HROW.out⟩
    have HBB : Hid _ := HO3.out.st.below
    have hc1' : (c : Int) < (cs.length : Int) := by have : c < cs.length := hc1; omega
    clear hbox hres h1 h2 h3 h4 HREL HEQ hze hzm hzL hsd hlies hsh hzn hzl hCL HV HO3 HROW HZ HR s0 s1 m0 m1 m2 m3 m4
    go_wp2_with fail
    go_region_held3 (fun Y => Y.cell? ⟨G, c * 2, none⟩ = some (.string ⟨z.1.toArray⟩) ∧ Y.cell? ⟨G, c * 2 + 1, none⟩ = some (.string ⟨z.2.toArray⟩) ∧ Y.cell? ⟨gb, 0, none⟩ = some (.int .i64 n) ∧ Y.cell? ⟨gb, 1, none⟩ = some (.int .i64 (c : Int)) ∧ Y.cell? ⟨gb, 2, none⟩ = some (.int .i64 (a : Int)) ∧ Y.cell? ⟨gb, 3, none⟩ = some (.string ⟨s.toArray⟩) ∧ Y.cell? ⟨gb, 4, none⟩ = some (.int .i64 (m : Int)) ∧ PaR (w.heap.size + 1) Y)
      (first | (with_reducible exact HS1.out) | (with_reducible (refine HSET.out _ ?_; assumption)) | (with_reducible (refine HK.out _ _ (by assumption) ?_; assumption)))
      (first
        | (go_at_call 43; refine (HKC.out _ (by assumption)).mono ?_; rintro e w4 ⟨rfl, hb4, a0, a1, a2, a3, a4, a5, a6, a7, r0, f0, r1, f1, r2, f2, r3, f3, r4, f4, r5, f5, r6, f6, r7, f7, HROW⟩))
    all_goals
      go_wp2
      refine bodyPost_ret (pa_ret rfl (PaR.store HROW.out _ _ _ _ _ _ _ _) rfl) rfl ?_
      refine ⟨by rw [HV2.out]; rfl, ?_⟩
      exact (HBB.out.drew.trans (hb4.mono HBB.out.drew.size)).trans ((PaR.beneath w4 (w.heap.size + 1) _ _ _ _ _ _ _ _).mono (by omega))

end Go.Proofs.YtjebhbopmfcopaaGreatDoor

namespace Go.Proofs.YtjebhbopmfcopaaGreatDoor
open Go.RowKit

theorem palign_any (nm lt : List UInt8) (b : Int) (cs : List Pr) (B : Nat) (p : Value) (G cc : Nat) (w : World) (hnm : nm.length ≤ 140737488355327) (hl : lt.length ≤ 140737488355327) (hR : Se.Right cs) (hZ : ∀ x ∈ cs, x.1.length ≤ 140737488355327) (hI : IxAt w B p cs) (hG : G < w.heap.size) (hsrc : ∀ j u, (Prs cs)[j]? = some u → w.cell? ((⟨G, 0, none⟩ : Addr).add j) = some u) :
    Calls Tryz.prog 20 #[.slice (some ⟨G, 0, none⟩) cs.length cc, p, .agg #[.string ⟨nm.toArray⟩, .string ⟨lt.toArray⟩], .int .i64 b] w fun e w' =>
      e = .returned (.tuple #[.agg (Rc.vals (Al.align nm lt b cs)), .int .i64 (Al.err b lt)]) ∧ Below w.heap.size w w' := by
  by_cases hE : Al.err b lt = 0
  · have h := palign_good nm lt b cs B p G cc w hnm hR hZ hI hE hG hsrc
    rw [Al.align, if_pos hE, hE]
    exact h
  · rw [Al.align, if_neg hE]
    exact palign_bad nm lt b cs B p _ _ _ w hl hR hI hE

end Go.Proofs.YtjebhbopmfcopaaGreatDoor

namespace Go.Proofs.YtjebhbopmfcopaaGreatDoor
open Go.RowKit

set_option maxRecDepth 100000 in
set_option maxHeartbeats 1600000 in
theorem refAlign_good (nm lt : List UInt8) (b : Int) (cs : List Pr) (ad : Addr) (cc : Nat) (w : World) (hR : Se.Right cs) (hE : Al.err b lt = 0) (hsrc : ∀ j u, (Prs cs)[j]? = some u → w.cell? (ad.add j) = some u) :
    Calls Tryz.prog 116 #[.slice (some ad) cs.length cc, .agg #[.string ⟨nm.toArray⟩, .string ⟨lt.toArray⟩], .int .i64 b] w fun e w' =>
      e = .returned (.tuple #[.agg (Al.upto nm lt b cs 4).best.vals, .int .i64 0]) ∧ Below w.heap.size w w' := by
  obtain ⟨hb0, hb3, hL0, hl128⟩ := Al.err_none hE
  have HR : Hid _ := hR
  have HSRC : Hid _ := hsrc
  have hfew := hR.few
  have hpos := hR.pos
  have HLC : Hid (∀ W : World, Calls Tryz.prog 164 #[.string ⟨lt.toArray⟩] W fun e w' => e = .returned (.int .i64 0) ∧ w' = W) := fun W => by
    have h := refLetters_any ⟨lt.toArray⟩ W (by rw [str_size]; omega)
    rw [show (⟨lt.toArray⟩ : ByteArray).data.toList = lt from by simp, hL0] at h
    exact h
  have HFIN : Hid (∀ st : Al.St, st = Al.upto nm lt b cs 4 → (Al.upto nm lt b cs 4).best.vals = st.best.vals) := fun st h => by rw [h]
  obtain ⟨FV, hFV⟩ : ∃ FV, FV = (Al.upto nm lt b cs 4).best.vals := ⟨_, rfl⟩
  rw [← hFV] at HFIN ⊢
  clear hFV hR hsrc hE hL0
  go_enter Tryz.func116, Tryz.ntmps116
  go_wp2_with (go_at_call 164; refine (HLC.out _).mono ?_; rintro e w' ⟨rfl, hw⟩; subst w')
  clear hb0 hb3
  go_loopw [10, 11] (fun ls i wr => ∃ (k : Nat) (st : Al.St), k ≤ 4 ∧ i = .int .i64 ((k : Int) + 1) ∧ ls = .int .i64 st.least ∧ Hid (st = Al.upto nm lt b cs k) ∧ Hid (AlB w wr nm lt st.best)) (fun _ i _ => 5 - (intOf i).toNat)
  case atStart =>
    exact ⟨0, ⟨⟨nm, 0, 0, [], 0, 0, [], []⟩, -1⟩, by omega, rfl, rfl, rfl, AlB.start w nm lt ⟨nm, 0, 0, [], 0, 0, [], []⟩⟩
  case round =>
    obtain ⟨k, st, hk, rfl, rfl, HST, HAB⟩ := hrel
    by_cases hlt : k < 4
    · have hlt' : (k : Int) + 1 ≤ 4 := by omega
      have c0 : wr.cell? ⟨w.heap.size, 0, none⟩ = some (.string ⟨nm.toArray⟩) := cell_of_row wr _ 0 _ _ _ (AlB.read HAB.out)
      have c1 : wr.cell? ⟨w.heap.size, 1, none⟩ = some (.string ⟨lt.toArray⟩) := cell_of_row wr _ 1 _ _ _ (AlB.read HAB.out)
      have HNN : Hid ((k : Int) + 1 = ((k + 1 : Nat) : Int)) := by show _ = _; omega
      obtain ⟨n, hnn⟩ : ∃ n : Int, n = (k : Int) + 1 := ⟨_, rfl⟩
      obtain ⟨S, hS⟩ : ∃ S, S = Al.along lt n := ⟨_, rfl⟩
      have hSl : S.length ≤ 128 := by rw [hS, Al.along_length]; exact hl128
      have HAC : Hid (∀ W : World, Calls Tryz.prog 166 #[.string ⟨lt.toArray⟩, .int .i64 ((k : Int) + 1)] W fun e w' => e = .returned (.string ⟨S.toArray⟩) ∧ Below W.heap.size W w') := fun W => by
        have h := along_any ⟨lt.toArray⟩ ((k : Int) + 1) W (by rw [str_size]; omega)
        rw [show (⟨lt.toArray⟩ : ByteArray).data.toList = lt from by simp, ← hnn, ← hS, hnn] at h
        exact h
      obtain ⟨PL, hPL⟩ : ∃ PL, PL = Se.inAll n b S cs cs.length := ⟨_, rfl⟩
      have HST2 : Hid (PL.foldl (Al.step nm n S cs) st = Al.upto nm lt b cs (k + 1)) := by
        show _ = _
        rw [Al.upto, Al.strand, ← HNN.out, ← hnn, ← hS, ← hPL, ← HST.out]
      have HMEM : Hid (∀ q ∈ PL, q.1 < cs.length ∧ ∃ x, cs[q.1]? = some x ∧ q.2 + S.length ≤ x.2.length) := fun q hq => by
        rw [hPL] at hq
        obtain ⟨h1, x, h2, h3, _⟩ := Se.inAll_mem n b S cs cs.length q hq
        exact ⟨h1, x, h2, h3⟩
      have hPLl : PL.length ≤ 90000 := by
        rw [hPL]
        have h1 := Se.inAll_length n b S cs 4096 HR.out.len cs.length
        have h3 : cs.length * (4096 + 1) ≤ 16 * (4096 + 1) := Nat.mul_le_mul_right _ hfew
        omega
      have HFC : Hid (∀ W : World, Below w.heap.size w W → Calls Tryz.prog 165 #[.slice (some ad) cs.length cc, .string ⟨S.toArray⟩, .int .i64 ((k : Int) + 1), .int .i64 b] W fun e w' => ∃ v, e = .returned v ∧ w'.ownsRow W.heap.size 78 2 v PL.length (Se.pls PL) ∧ Below W.heap.size W w') := fun W hb => by
        have h := refFind_row cs ad cc ⟨S.toArray⟩ n b W (by omega) (fun x hx => by have := HR.out.len x hx; omega) (by rw [str_size]; omega) (src_keep HSRC.out hb) hpos
        rw [show (⟨S.toArray⟩ : ByteArray).data.toList = S from by simp, ← hPL, hnn] at h
        exact h
      have HNE : Hid _ := hnn
      clear HST hS hPL hnn
      go_wp2_with fail
      refine (HAC.out _).mono ?_
      rintro e w1 ⟨rfl, hb1⟩
      have HAB1 : Hid _ := AlB.mono HAB.out (hb1.mono (AlB.size HAB.out))
      clear hb1 c0 c1 HAB
      go_wp2_with fail
      refine (HFC.out _ (AlB.below HAB1.out)).mono ?_
      rintro e w2 ⟨v, rfl, ho, hb2⟩
      obtain ⟨va, vcap, hv⟩ := own_form ho
      subst hv
      have HAB2 : Hid _ := AlB.mono HAB1.out (hb2.mono (AlB.size HAB1.out))
      have HOW2 : Hid _ := own_base ho (AlB.size HAB1.out)
      clear hb2 ho HAB1
      go_wp2
      go_loopw [10, 14] (fun ls i wr2 => ∃ (q : Nat) (st2 : Al.St), q ≤ PL.length ∧ i = .int .i64 (q : Int) ∧ ls = .int .i64 st2.least ∧ Hid (st2 = (PL.take q).foldl (Al.step nm n S cs) st) ∧ Hid (AlB w wr2 nm lt st2.best) ∧ Hid (wr2.ownsRow (w.heap.size + 3) 78 2 (.slice va PL.length vcap) PL.length (Se.pls PL))) (fun _ i _ => PL.length - (intOf i).toNat)
      case atStart => exact ⟨0, st, Nat.zero_le _, rfl, rfl, by simp [Hid], HAB2.out, HOW2.out⟩
      case round =>
        clear HAB2 HOW2
        obtain ⟨q, st2, hq, rfl, rfl, HST3, HAB, HOW⟩ := hrel
        by_cases hqlt : q < PL.length
        · have hq' : (q : Int) < (PL.length : Int) := by omega
          obtain ⟨y, hy⟩ : ∃ y, y = PL[q] := ⟨_, rfl⟩
          have HSTEP : Hid ((PL.take (q + 1)).foldl (Al.step nm n S cs) st = Al.step nm n S cs st2 y) := by
            show _ = _
            rw [List.take_succ_eq_append_getElem hqlt, List.foldl_append, ← HST3.out, hy]
            first | done | rfl
          obtain ⟨hc1, x, hx, hpx⟩ := HMEM.out y (by rw [hy]; exact List.getElem_mem _)
          have hxe : x = cs[y.1] := by rw [List.getElem?_eq_getElem hc1] at hx; exact (Option.some.inj hx).symm
          have hxl : x.2.length ≤ 4096 := HR.out.len x (by rw [hxe]; exact List.getElem_mem _)
          obtain ⟨gv, cv, hvv, _, _⟩ := own_pos HOW.out (by omega)
          simp only [Value.slice.injEq, true_and] at hvv
          obtain ⟨hva, rfl⟩ := hvv
          have hpl := own_place (l := PL) (by have := HOW.out; rw [hva] at this; exact this) q hqlt
          rw [← hy] at hpl
          obtain ⟨p0, p1⟩ := hpl
          have hsw := src_keep HSRC.out (AlB.below HAB.out)
          have s0 := src_first hsw y.1 hc1
          have s1 := src_pair hsw y.1 hc1
          rw [← hxe] at s0 s1
          rw [← addr_next] at s1
          have hc1' : (y.1 : Int) < (cs.length : Int) := by omega
          obtain ⟨c, p⟩ := y
          dsimp only at p0 p1 s0 s1 hc1 hc1' hpx hx HSTEP
          have hp1 : (p : Int) ≤ (p : Int) + (S.length : Int) := by omega
          have hp2 : (p : Int) + (S.length : Int) ≤ (x.2.length : Int) := by omega
          have hxs : (⟨x.2.toArray⟩ : ByteArray).size = x.2.length := str_size x.2
          obtain ⟨m, hm⟩ : ∃ m, m = Al.mis n S (x.2.drop p) := ⟨_, rfl⟩
          have hmS : m ≤ S.length := by rw [hm]; exact Al.mis_le n _ _
          have HMC : Hid (∀ W : World, Calls Tryz.prog 167 #[.string ⟨S.toArray⟩, .string ((⟨x.2.toArray⟩ : ByteArray).extract p (p + S.length)), .int .i64 ((k : Int) + 1)] W fun e w' => e = .returned (.int .i64 (m : Int)) ∧ ∃ j, w' = W.drewN j) := fun W => by
            have h := mismatches_any ⟨S.toArray⟩ ((⟨x.2.toArray⟩ : ByteArray).extract p (p + S.length)) n W (by rw [str_size]; omega) (by rw [ByteArray.size_extract, hxs, str_size]; omega) (by rw [ByteArray.size_extract, hxs]; omega)
            have e : Al.mis n (⟨S.toArray⟩ : ByteArray).data.toList ((⟨x.2.toArray⟩ : ByteArray).extract p (p + S.length)).data.toList = m := by
              rw [extract_piece]
              show Al.mis n S (Tx.piece ⟨x.2.toArray⟩ p (p + S.length)) = m
              rw [Tx.piece, show p + S.length - p = S.length by omega, Al.mis_short _ _ _ _ (Nat.le_refl _), hm]
            rw [e, HNE.out] at h
            exact h
          have HST5 : Hid (Al.step nm n S cs st2 (c, p) = if 0 ≤ st2.least ∧ st2.least < (m : Int) then st2 else if (m : Int) = st2.least then ⟨⟨nm, 2, 0, [], 0, 0, [], []⟩, st2.least⟩ else ⟨⟨nm, 1, n, x.1, (p : Int), (m : Int), S, Al.calls n S x.2 p S.length⟩, (m : Int)⟩) := by
            show _ = _
            unfold Al.step
            dsimp only
            rw [hx]
            dsimp only
            rw [← hm]
          have HXE : Hid _ := hxe
          have HY : Hid _ := hy
          clear hx hy hxe HST3 hsw hm
          subst hva
          go_wp2_with fail
          refine (HMC.out _).mono ?_
          rintro e w3 ⟨rfl, hw3⟩
          have hb3 : Below wr.heap.size wr w3 := by obtain ⟨j, rfl⟩ := hw3; exact below_drewN (Below.refl _ _) j
          have HAB3 : Hid _ := AlB.mono HAB.out (hb3.mono (AlB.size HAB.out))
          have HOW3 : Hid _ := own_below HOW.out hb3
          clear hw3 hb3 HAB HOW p0 p1 s0 s1
          by_cases hA : 0 ≤ st2.least ∧ st2.least < (m : Int)
          · have HS6 : Hid (st2 = (PL.take (q + 1)).foldl (Al.step nm n S cs) st) := by show _ = _; rw [HSTEP.out, HST5.out, if_pos hA]
            obtain ⟨hA1, hA2⟩ := hA
            clear HSTEP HST5
            go_wp2
            go_roundw
            case rel => exact ⟨q + 1, st2, by omega, by go_num, rfl, HS6.out, HAB3.out, HOW3.out⟩
            case measure => simp [intOf]; omega
          · have d0 : w3.cell? ⟨w.heap.size, 0, none⟩ = some (.string ⟨nm.toArray⟩) := cell_of_row w3 _ 0 _ _ _ (AlB.read HAB3.out)
            have hbox3 := AlB.box HAB3.out
            have m0 : w3.cell? ⟨w.heap.size + 1 + 1, 0, none⟩ = some (.string ⟨st2.best.nm.toArray⟩) := cell_of_row w3 (w.heap.size + 2) 0 _ _ _ hbox3
            have f0 : w3.frozen? ⟨w.heap.size + 1 + 1, 0, none⟩ = false := frozen_of_row w3 (w.heap.size + 2) 0 _ _ hbox3
            have m1 : w3.cell? ⟨w.heap.size + 1 + 1, 1, none⟩ = some (.int .i64 st2.best.vd) := cell_of_row w3 (w.heap.size + 2) 1 _ _ _ hbox3
            have f1 : w3.frozen? ⟨w.heap.size + 1 + 1, 1, none⟩ = false := frozen_of_row w3 (w.heap.size + 2) 1 _ _ hbox3
            have m2 : w3.cell? ⟨w.heap.size + 1 + 1, 2, none⟩ = some (.int .i64 st2.best.sd) := cell_of_row w3 (w.heap.size + 2) 2 _ _ _ hbox3
            have f2 : w3.frozen? ⟨w.heap.size + 1 + 1, 2, none⟩ = false := frozen_of_row w3 (w.heap.size + 2) 2 _ _ hbox3
            have m3 : w3.cell? ⟨w.heap.size + 1 + 1, 3, none⟩ = some (.string ⟨st2.best.ct.toArray⟩) := cell_of_row w3 (w.heap.size + 2) 3 _ _ _ hbox3
            have f3 : w3.frozen? ⟨w.heap.size + 1 + 1, 3, none⟩ = false := frozen_of_row w3 (w.heap.size + 2) 3 _ _ hbox3
            have m4 : w3.cell? ⟨w.heap.size + 1 + 1, 4, none⟩ = some (.int .i64 st2.best.pl) := cell_of_row w3 (w.heap.size + 2) 4 _ _ _ hbox3
            have f4 : w3.frozen? ⟨w.heap.size + 1 + 1, 4, none⟩ = false := frozen_of_row w3 (w.heap.size + 2) 4 _ _ hbox3
            have m5 : w3.cell? ⟨w.heap.size + 1 + 1, 5, none⟩ = some (.int .i64 st2.best.mm) := cell_of_row w3 (w.heap.size + 2) 5 _ _ _ hbox3
            have f5 : w3.frozen? ⟨w.heap.size + 1 + 1, 5, none⟩ = false := frozen_of_row w3 (w.heap.size + 2) 5 _ _ hbox3
            have m6 : w3.cell? ⟨w.heap.size + 1 + 1, 6, none⟩ = some (.string ⟨st2.best.lt.toArray⟩) := cell_of_row w3 (w.heap.size + 2) 6 _ _ _ hbox3
            have f6 : w3.frozen? ⟨w.heap.size + 1 + 1, 6, none⟩ = false := frozen_of_row w3 (w.heap.size + 2) 6 _ _ hbox3
            have m7 : w3.cell? ⟨w.heap.size + 1 + 1, 7, none⟩ = some (.string ⟨st2.best.cl.toArray⟩) := cell_of_row w3 (w.heap.size + 2) 7 _ _ _ hbox3
            have f7 : w3.frozen? ⟨w.heap.size + 1 + 1, 7, none⟩ = false := frozen_of_row w3 (w.heap.size + 2) 7 _ _ hbox3
            have hAd : (decide (0 ≤ st2.least) && decide (st2.least < (m : Int))) = false := by
              rw [Bool.and_eq_false_iff, decide_eq_false_iff_not, decide_eq_false_iff_not]
              by_cases h : 0 ≤ st2.least
              · exact .inr (fun h2 => hA ⟨h, h2⟩)
              · exact .inl h
            by_cases hB : (m : Int) = st2.least
            · have HS6 : Hid ((⟨⟨nm, 2, 0, [], 0, 0, [], []⟩, st2.least⟩ : Al.St) = (PL.take (q + 1)).foldl (Al.step nm n S cs) st) := by show _ = _; rw [HSTEP.out, HST5.out, if_neg hA, if_pos hB]
              have HST7 : Hid _ := AlB.store HAB3.out ⟨nm, 2, 0, [], 0, 0, [], []⟩ (w.heap.size + 1 + 1) rfl
              have HOW7 : Hid (∀ i u, ∀ Y : World, Y.ownsRow (w.heap.size + 3) 78 2 (.slice (some ⟨gv, 0, none⟩) PL.length vcap) PL.length (Se.pls PL) → (Y.setCell ⟨w.heap.size + 1 + 1, i, none⟩ u).ownsRow (w.heap.size + 3) 78 2 (.slice (some ⟨gv, 0, none⟩) PL.length vcap) PL.length (Se.pls PL)) := fun i u Y ho => ownsRow_setCell_below ho (a := ⟨w.heap.size + 1 + 1, i, none⟩) (by simp) u
              have hm0 : ¬ st2.least < 0 := by omega
              have hB1 : ((m : Int) == st2.least) = true := by rw [beq_iff_eq]; exact hB
              have hA3 : decide (st2.least < (m : Int)) = false := by rw [decide_eq_false_iff_not]; omega
              have hA4 : decide (0 ≤ st2.least) = true := by rw [decide_eq_true_iff]; omega
              clear HSTEP HST5 hA hAd hB hbox3
              go_wp2
              go_roundw
              case rel => exact ⟨q + 1, ⟨⟨nm, 2, 0, [], 0, 0, [], []⟩, st2.least⟩, by omega, by go_num, rfl, HS6.out, HST7.out, HOW7.out _ _ _ (HOW7.out _ _ _ (HOW7.out _ _ _ (HOW7.out _ _ _ (HOW7.out _ _ _ (HOW7.out _ _ _ (HOW7.out _ _ _ (HOW7.out _ _ _ HOW3.out)))))))⟩
              case measure => simp [intOf]; omega
            · have HS6 : Hid ((⟨⟨nm, 1, n, x.1, (p : Int), (m : Int), S, Al.calls n S x.2 p S.length⟩, (m : Int)⟩ : Al.St) = (PL.take (q + 1)).foldl (Al.step nm n S cs) st) := by show _ = _; rw [HSTEP.out, HST5.out, if_neg hA, if_neg hB]
              have hB1 : ((m : Int) == st2.least) = false := by rw [beq_eq_false_iff_ne]; exact hB
              have hg : decide (0 ≤ st2.least) = false ∨ (decide (0 ≤ st2.least) = true ∧ decide (st2.least < (m : Int)) = false) := by
                by_cases h : 0 ≤ st2.least
                · exact .inr ⟨decide_eq_true h, by rw [decide_eq_false_iff_not]; exact fun h2 => hA ⟨h, h2⟩⟩
                · exact .inl (decide_eq_false h)
              have HX1 : Hid (∀ W, Below w.heap.size w W → W.cell? (ad.add (c * 2)) = some (.string ⟨x.1.toArray⟩)) := fun W hb => by
                have h := src_first (src_keep HSRC.out hb) c hc1
                rw [← HXE.out] at h
                exact h
              have hsz3 := AlB.size HAB3.out
              clear HSTEP HST5 hA hAd hB hbox3 m0 m1 m2 m3 m4 m5 m6 m7 f0 f1 f2 f3 f4 f5 f6 f7 d0
              rcases hg with hg | ⟨hg, hg2⟩
              all_goals
                go_wp2
                go_loopw [18, 19] (fun v i wr3 => ∃ j : Nat, j ≤ S.length ∧ i = .int .i64 (j : Int) ∧ wr3.ownsRow w3.heap.size 5 1 v (Al.calls n S x.2 p j).length (Bys (Al.calls n S x.2 p j)) ∧ Below w3.heap.size w3 wr3) (fun _ i _ => S.length - (intOf i).toNat)
                case atStart => exact ⟨0, Nat.zero_le _, rfl, World.ownsRow_nil _ _ _ _, Below.refl _ _⟩
                case round =>
                  obtain ⟨j, hj, rfl, hown, hbel⟩ := hrel
                  obtain ⟨ba, bcap, hbv⟩ := own_form hown
                  subst hbv
                  by_cases hjl : j < S.length
                  · have hjl' : (j : Int) < (S.length : Int) := by omega
                    have hi := ix_str ⟨S.toArray⟩ j (by rw [str_size]; exact hjl) (j : Int) rfl
                    have hSj : (⟨S.toArray⟩ : ByteArray)[j]'(by rw [str_size]; exact hjl) = S.getD j 0 := by simp [List.getD, hjl]; rfl
                    rw [hSj] at hi
                    have hsS : (⟨S.toArray⟩ : ByteArray).size = S.length := str_size S
                    obtain ⟨cl, hcl⟩ : ∃ cl, cl = Al.call n (S.getD j 0) x.2 (p + j) := ⟨_, rfl⟩
                    have HCC : Hid (∀ W : World, Calls Tryz.prog 168 #[.int .u8 ((S.getD j 0).toNat : Int), .string ⟨x.2.toArray⟩, .int .i64 ((p : Int) + (j : Int)), .int .i64 ((k : Int) + 1)] W fun e w' => e = .returned (.int .u8 (cl.toNat : Int)) ∧ w' = W) := fun W => by
                      have h := call_any (S.getD j 0) ⟨x.2.toArray⟩ (p + j) n W (by rw [hxs]; omega) (by rw [hxs]; omega)
                      rw [show (⟨x.2.toArray⟩ : ByteArray).data.toList = x.2 from by simp, ← hcl, HNE.out, show ((p + j : Nat) : Int) = (p : Int) + (j : Int) by omega] at h
                      exact h
                    have HCS : Hid (Al.calls n S x.2 p (j + 1) = Al.calls n S x.2 p j ++ [cl]) := by show _ = _; rw [Al.calls_succ, hcl]
                    have hcll : (Al.calls n S x.2 p j).length + 1 ≤ 140737488355328 := by rw [Al.calls_length]; omega
                    have HO4 : Hid _ := hown
                    have HB4 : Hid _ := hbel
                    have hsz4 := hbel.size
                    obtain ⟨gc, hgc⟩ : ∃ gc : UInt8, gc = S.getD j 0 := ⟨_, rfl⟩
                    rw [← hgc] at hi HCC
                    clear hcl hown hbel hSj hgc
                    go_wp2_with (first
                      | (go_at_call 168; refine (HCC.out _).mono ?_; rintro e w' ⟨rfl, hw⟩; subst w')
                      | (at_builtin; refine app_byte rfl _ _ rfl w3.heap.size (.slice ba (Al.calls n S x.2 p j).length bcap) (Al.calls n S x.2 p j) cl rfl rfl (by exact HO4.out) (by exact HB4.out) (by omega) hcll ?_; intro v5 w5 hown5 hbel5 _))
                    go_roundw
                    case rel => exact ⟨j + 1, by omega, by go_num, by rw [HCS.out]; exact hown5, hbel5⟩
                    case measure => simp [intOf]; omega
                  · have hje : j = S.length := by omega
                    have hjl' : ¬ (j : Int) < (S.length : Int) := by omega
                    have hcj : Al.calls n S x.2 p S.length = Al.calls n S x.2 p j := by rw [hje]
                    have HAB4 : Hid _ := AlB.mono HAB3.out (hbel.mono hsz3)
                    have HOW4 : Hid _ := own_below HOW3.out hbel
                    obtain ⟨p0, p1⟩ := own_place (l := PL) HOW4.out q hqlt
                    rw [← HY.out] at p0 p1
                    have s0 := HX1.out wr (AlB.below HAB4.out)
                    have d0 : wr.cell? ⟨w.heap.size, 0, none⟩ = some (.string ⟨nm.toArray⟩) := cell_of_row wr _ 0 _ _ _ (AlB.read HAB4.out)
                    have hbox4 := AlB.box HAB4.out
                    have m0 : wr.cell? ⟨w.heap.size + 1 + 1, 0, none⟩ = some (.string ⟨st2.best.nm.toArray⟩) := cell_of_row wr (w.heap.size + 2) 0 _ _ _ hbox4
                    have f0 : wr.frozen? ⟨w.heap.size + 1 + 1, 0, none⟩ = false := frozen_of_row wr (w.heap.size + 2) 0 _ _ hbox4
                    have m1 : wr.cell? ⟨w.heap.size + 1 + 1, 1, none⟩ = some (.int .i64 st2.best.vd) := cell_of_row wr (w.heap.size + 2) 1 _ _ _ hbox4
                    have f1 : wr.frozen? ⟨w.heap.size + 1 + 1, 1, none⟩ = false := frozen_of_row wr (w.heap.size + 2) 1 _ _ hbox4
                    have m2 : wr.cell? ⟨w.heap.size + 1 + 1, 2, none⟩ = some (.int .i64 st2.best.sd) := cell_of_row wr (w.heap.size + 2) 2 _ _ _ hbox4
                    have f2 : wr.frozen? ⟨w.heap.size + 1 + 1, 2, none⟩ = false := frozen_of_row wr (w.heap.size + 2) 2 _ _ hbox4
                    have m3 : wr.cell? ⟨w.heap.size + 1 + 1, 3, none⟩ = some (.string ⟨st2.best.ct.toArray⟩) := cell_of_row wr (w.heap.size + 2) 3 _ _ _ hbox4
                    have f3 : wr.frozen? ⟨w.heap.size + 1 + 1, 3, none⟩ = false := frozen_of_row wr (w.heap.size + 2) 3 _ _ hbox4
                    have m4 : wr.cell? ⟨w.heap.size + 1 + 1, 4, none⟩ = some (.int .i64 st2.best.pl) := cell_of_row wr (w.heap.size + 2) 4 _ _ _ hbox4
                    have f4 : wr.frozen? ⟨w.heap.size + 1 + 1, 4, none⟩ = false := frozen_of_row wr (w.heap.size + 2) 4 _ _ hbox4
                    have m5 : wr.cell? ⟨w.heap.size + 1 + 1, 5, none⟩ = some (.int .i64 st2.best.mm) := cell_of_row wr (w.heap.size + 2) 5 _ _ _ hbox4
                    have f5 : wr.frozen? ⟨w.heap.size + 1 + 1, 5, none⟩ = false := frozen_of_row wr (w.heap.size + 2) 5 _ _ hbox4
                    have m6 : wr.cell? ⟨w.heap.size + 1 + 1, 6, none⟩ = some (.string ⟨st2.best.lt.toArray⟩) := cell_of_row wr (w.heap.size + 2) 6 _ _ _ hbox4
                    have f6 : wr.frozen? ⟨w.heap.size + 1 + 1, 6, none⟩ = false := frozen_of_row wr (w.heap.size + 2) 6 _ _ hbox4
                    have m7 : wr.cell? ⟨w.heap.size + 1 + 1, 7, none⟩ = some (.string ⟨st2.best.cl.toArray⟩) := cell_of_row wr (w.heap.size + 2) 7 _ _ _ hbox4
                    have f7 : wr.frozen? ⟨w.heap.size + 1 + 1, 7, none⟩ = false := frozen_of_row wr (w.heap.size + 2) 7 _ _ hbox4
                    obtain ⟨CL, hCL⟩ : ∃ CL, CL = Al.calls n S x.2 p j := ⟨_, rfl⟩
                    rw [hcj, ← hCL] at HS6
                    rw [← hCL] at hown ⊢
                    have hback := back_own (own_below hown (Below.drew (Below.refl _ _)))
                    have hbd : Below wr.heap.size wr wr.drew := Below.drew (Below.refl _ _)
                    have HST7 : Hid _ := AlB.mono (AlB.store HAB4.out ⟨nm, 1, n, x.1, (p : Int), (m : Int), S, CL⟩ (w.heap.size + 1 + 1) rfl) (Below.drew (Below.refl _ _))
                    have HS7 : Hid ((⟨⟨nm, 1, (k : Int) + 1, x.1, (p : Int), (m : Int), S, CL⟩, (m : Int)⟩ : Al.St) = List.foldl (Al.step nm n S cs) st (PL.take (q + 1))) := by rw [← HNE.out]; exact HS6
                    rw [HNE.out] at HST7
                    have HOW7 : Hid (∀ i u, ∀ Y : World, Y.ownsRow (w.heap.size + 3) 78 2 (.slice (some ⟨gv, 0, none⟩) PL.length vcap) PL.length (Se.pls PL) → (Y.setCell ⟨w.heap.size + 1 + 1, i, none⟩ u).ownsRow (w.heap.size + 3) 78 2 (.slice (some ⟨gv, 0, none⟩) PL.length vcap) PL.length (Se.pls PL)) := fun i u Y ho => ownsRow_setCell_below ho (a := ⟨w.heap.size + 1 + 1, i, none⟩) (by simp) u
                    clear hje hcj hbox4 hbel hown hCL hbd
                    go_wp2_with fail
                    go_region
                    all_goals
                      go_wp2
                      go_roundw
                      case rel => exact ⟨q + 1, ⟨⟨nm, 1, (k : Int) + 1, x.1, (p : Int), (m : Int), S, CL⟩, (m : Int)⟩, by omega, by go_num, rfl, HS7.out, HST7.out, own_below (HOW7.out _ _ _ (HOW7.out _ _ _ (HOW7.out _ _ _ (HOW7.out _ _ _ (HOW7.out _ _ _ (HOW7.out _ _ _ (HOW7.out _ _ _ (HOW7.out _ _ _ HOW4.out)))))))) (Below.drew (Below.refl _ _))⟩
                      case measure => simp [intOf]; omega
        · have hqe : q = PL.length := by omega
          have hqlt' : ¬ (q : Int) < (PL.length : Int) := by omega
          have HST4 : Hid (st2 = Al.upto nm lt b cs (k + 1)) := by show _ = _; rw [← HST2.out, HST3.out, hqe, List.take_length]
          clear hqe
          go_wp2
          go_roundw
          case rel => exact ⟨k + 1, st2, by omega, by go_num, rfl, HST4.out, HAB.out⟩
          case measure => simp [intOf]; omega
    · have hk4 : k = 4 := by omega
      have hlt' : ¬ (k : Int) + 1 ≤ 4 := by omega
      have HV : Hid (FV = st.best.vals) := HFIN.out st (by rw [HST.out, hk4])
      have hbox := AlB.box HAB.out
      have hres := AlB.res HAB.out
      have m0 : wr.cell? ⟨w.heap.size + 1 + 1, 0, none⟩ = some (.string ⟨st.best.nm.toArray⟩) := cell_of_row wr (w.heap.size + 2) 0 _ _ _ hbox
      have m1 : wr.cell? ⟨w.heap.size + 1 + 1, 1, none⟩ = some (.int .i64 st.best.vd) := cell_of_row wr (w.heap.size + 2) 1 _ _ _ hbox
      have m2 : wr.cell? ⟨w.heap.size + 1 + 1, 2, none⟩ = some (.int .i64 st.best.sd) := cell_of_row wr (w.heap.size + 2) 2 _ _ _ hbox
      have m3 : wr.cell? ⟨w.heap.size + 1 + 1, 3, none⟩ = some (.string ⟨st.best.ct.toArray⟩) := cell_of_row wr (w.heap.size + 2) 3 _ _ _ hbox
      have m4 : wr.cell? ⟨w.heap.size + 1 + 1, 4, none⟩ = some (.int .i64 st.best.pl) := cell_of_row wr (w.heap.size + 2) 4 _ _ _ hbox
      have m5 : wr.cell? ⟨w.heap.size + 1 + 1, 5, none⟩ = some (.int .i64 st.best.mm) := cell_of_row wr (w.heap.size + 2) 5 _ _ _ hbox
      have m6 : wr.cell? ⟨w.heap.size + 1 + 1, 6, none⟩ = some (.string ⟨st.best.lt.toArray⟩) := cell_of_row wr (w.heap.size + 2) 6 _ _ _ hbox
      have m7 : wr.cell? ⟨w.heap.size + 1 + 1, 7, none⟩ = some (.string ⟨st.best.cl.toArray⟩) := cell_of_row wr (w.heap.size + 2) 7 _ _ _ hbox
      have r0 : wr.cell? ⟨w.heap.size + 1, 0, none⟩ = some (.string ⟨#[]⟩) := cell_of_row wr (w.heap.size + 1) 0 _ _ _ hres
      have f0 : wr.frozen? ⟨w.heap.size + 1, 0, none⟩ = false := frozen_of_row wr (w.heap.size + 1) 0 _ _ hres
      have r1 : wr.cell? ⟨w.heap.size + 1, 1, none⟩ = some (.int .i64 0) := cell_of_row wr (w.heap.size + 1) 1 _ _ _ hres
      have f1 : wr.frozen? ⟨w.heap.size + 1, 1, none⟩ = false := frozen_of_row wr (w.heap.size + 1) 1 _ _ hres
      have r2 : wr.cell? ⟨w.heap.size + 1, 2, none⟩ = some (.int .i64 0) := cell_of_row wr (w.heap.size + 1) 2 _ _ _ hres
      have f2 : wr.frozen? ⟨w.heap.size + 1, 2, none⟩ = false := frozen_of_row wr (w.heap.size + 1) 2 _ _ hres
      have r3 : wr.cell? ⟨w.heap.size + 1, 3, none⟩ = some (.string ⟨#[]⟩) := cell_of_row wr (w.heap.size + 1) 3 _ _ _ hres
      have f3 : wr.frozen? ⟨w.heap.size + 1, 3, none⟩ = false := frozen_of_row wr (w.heap.size + 1) 3 _ _ hres
      have r4 : wr.cell? ⟨w.heap.size + 1, 4, none⟩ = some (.int .i64 0) := cell_of_row wr (w.heap.size + 1) 4 _ _ _ hres
      have f4 : wr.frozen? ⟨w.heap.size + 1, 4, none⟩ = false := frozen_of_row wr (w.heap.size + 1) 4 _ _ hres
      have r5 : wr.cell? ⟨w.heap.size + 1, 5, none⟩ = some (.int .i64 0) := cell_of_row wr (w.heap.size + 1) 5 _ _ _ hres
      have f5 : wr.frozen? ⟨w.heap.size + 1, 5, none⟩ = false := frozen_of_row wr (w.heap.size + 1) 5 _ _ hres
      have r6 : wr.cell? ⟨w.heap.size + 1, 6, none⟩ = some (.string ⟨#[]⟩) := cell_of_row wr (w.heap.size + 1) 6 _ _ _ hres
      have f6 : wr.frozen? ⟨w.heap.size + 1, 6, none⟩ = false := frozen_of_row wr (w.heap.size + 1) 6 _ _ hres
      have r7 : wr.cell? ⟨w.heap.size + 1, 7, none⟩ = some (.string ⟨#[]⟩) := cell_of_row wr (w.heap.size + 1) 7 _ _ _ hres
      have f7 : wr.frozen? ⟨w.heap.size + 1, 7, none⟩ = false := frozen_of_row wr (w.heap.size + 1) 7 _ _ hres
      have hst := res_store st.best (w.heap.size + 1) hres
      have HS1 : Hid _ := hst.1
      have HS2 : Hid _ := (AlB.below HAB.out).trans (hst.2.mono (Nat.le_succ _))
      clear hbox hres hst hk4 HST HAB
      go_wp2
      refine bodyPost_ret (al_ret rfl HS1.out rfl) rfl ?_
      exact ⟨by rw [HV.out]; rfl, HS2.out⟩

end Go.Proofs.YtjebhbopmfcopaaGreatDoor
