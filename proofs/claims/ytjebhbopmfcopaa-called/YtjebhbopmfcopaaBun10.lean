/-
  THE WALK of the document's Align. Own text of the verifier.
  LAWS for the walk of the document's Align, where there is no error. Own text of the verifier.
-/
import Derived.Test.YtjebhbopmfcopaaBun4
import Derived.Test.YtjebhbopmfcopaaBun9
import Derived.Test.YtjebhbopmfcopaaBun6
import Derived.Laws.ResultCell
namespace Go.Proofs.Ytjebhbopmfcopaa
open Go.RowKit

theorem Try.sizeRec3 : (Try.prog.info? 42).map (·.size) = some 8 := by kernel_rfl

theorem two_heap (w : World) (A B : Obj) : ((w.alloc A).alloc B).heap[w.heap.size + 1]? = some B := by
  have h := heap_alloc_new (w.alloc A) B
  rw [World.size_alloc] at h
  exact h

end Go.Proofs.Ytjebhbopmfcopaa

namespace Go.Proofs.Ytjebhbopmfcopaa
open Go.RowKit

/-- how it stands within Align: the read, the result, the best so far -/
structure AlB (w wr : World) (nm lt : List UInt8) (best : Rc) : Prop where
  below : Below w.heap.size w wr
  size : w.heap.size + 3 ≤ wr.heap.size
  read : wr.heap[w.heap.size]? = some (.cells #[.string ⟨nm.toArray⟩, .string ⟨lt.toArray⟩] 46 (0, 0))
  res : wr.heap[w.heap.size + 1]? = some (.cells #[.string ⟨#[]⟩, .int .i64 0, .int .i64 0, .string ⟨#[]⟩, .int .i64 0, .int .i64 0, .string ⟨#[]⟩, .string ⟨#[]⟩] 42 (0, 0))
  box : wr.heap[w.heap.size + 2]? = some (.cells best.vals 42 (0, 0))

theorem AlB.mono {w wr wr' : World} {nm lt : List UInt8} {best : Rc} (h : AlB w wr nm lt best) (hb : Below (w.heap.size + 3) wr wr') : AlB w wr' nm lt best :=
  ⟨h.below.trans (hb.mono (by omega)), Nat.le_trans h.size hb.size, (hb.block _ (by omega)).trans h.read, (hb.block _ (by omega)).trans h.res, (hb.block _ (by omega)).trans h.box⟩

theorem below_set {B : Nat} {a w : World} (h : Below B a w) {g : Nat} (hg : B ≤ g) (i : Nat) (u : Value) : Below B a (w.setCell ⟨g, i, none⟩ u) := h.setCell (p := ⟨g, i, none⟩) hg u

theorem AlB.store {w wr : World} {nm lt : List UInt8} {best : Rc} (h : AlB w wr nm lt best) (x : Rc) (g : Nat) (hg : g = w.heap.size + 2) :
    AlB w ((((((((wr.setCell ⟨g, 0, none⟩ (.string ⟨x.nm.toArray⟩)).setCell ⟨g, 1, none⟩ (.int .i64 x.vd)).setCell ⟨g, 2, none⟩ (.int .i64 x.sd)).setCell ⟨g, 3, none⟩ (.string ⟨x.ct.toArray⟩)).setCell ⟨g, 4, none⟩ (.int .i64 x.pl)).setCell ⟨g, 5, none⟩ (.int .i64 x.mm)).setCell ⟨g, 6, none⟩ (.string ⟨x.lt.toArray⟩)).setCell ⟨g, 7, none⟩ (.string ⟨x.cl.toArray⟩)) nm lt x := by
  have hle : g ≤ g := Nat.le_refl _
  have b_ : Below g wr wr := Below.refl g wr
  have h_ : wr.heap[g]? = some (.cells #[.string ⟨best.nm.toArray⟩, .int .i64 best.vd, .int .i64 best.sd, .string ⟨best.ct.toArray⟩, .int .i64 best.pl, .int .i64 best.mm, .string ⟨best.lt.toArray⟩, .string ⟨best.cl.toArray⟩] 42 (0, 0)) := by rw [hg]; exact h.box
  have b0 := below_set b_ hle 0 (.string ⟨x.nm.toArray⟩)
  have h0 : (wr.setCell ⟨g, 0, none⟩ (.string ⟨x.nm.toArray⟩)).heap[g]? = some (.cells #[.string ⟨x.nm.toArray⟩, .int .i64 best.vd, .int .i64 best.sd, .string ⟨best.ct.toArray⟩, .int .i64 best.pl, .int .i64 best.mm, .string ⟨best.lt.toArray⟩, .string ⟨best.cl.toArray⟩] 42 (0, 0)) := heap_setCell_same wr g 0 _ _ (.string ⟨x.nm.toArray⟩) h_
  generalize wr.setCell ⟨g, 0, none⟩ (.string ⟨x.nm.toArray⟩) = y0 at b0 h0 ⊢
  have b1 := below_set b0 hle 1 (.int .i64 x.vd)
  have h1 : (y0.setCell ⟨g, 1, none⟩ (.int .i64 x.vd)).heap[g]? = some (.cells #[.string ⟨x.nm.toArray⟩, .int .i64 x.vd, .int .i64 best.sd, .string ⟨best.ct.toArray⟩, .int .i64 best.pl, .int .i64 best.mm, .string ⟨best.lt.toArray⟩, .string ⟨best.cl.toArray⟩] 42 (0, 0)) := heap_setCell_same y0 g 1 _ _ (.int .i64 x.vd) h0
  generalize y0.setCell ⟨g, 1, none⟩ (.int .i64 x.vd) = y1 at b1 h1 ⊢
  have b2 := below_set b1 hle 2 (.int .i64 x.sd)
  have h2 : (y1.setCell ⟨g, 2, none⟩ (.int .i64 x.sd)).heap[g]? = some (.cells #[.string ⟨x.nm.toArray⟩, .int .i64 x.vd, .int .i64 x.sd, .string ⟨best.ct.toArray⟩, .int .i64 best.pl, .int .i64 best.mm, .string ⟨best.lt.toArray⟩, .string ⟨best.cl.toArray⟩] 42 (0, 0)) := heap_setCell_same y1 g 2 _ _ (.int .i64 x.sd) h1
  generalize y1.setCell ⟨g, 2, none⟩ (.int .i64 x.sd) = y2 at b2 h2 ⊢
  have b3 := below_set b2 hle 3 (.string ⟨x.ct.toArray⟩)
  have h3 : (y2.setCell ⟨g, 3, none⟩ (.string ⟨x.ct.toArray⟩)).heap[g]? = some (.cells #[.string ⟨x.nm.toArray⟩, .int .i64 x.vd, .int .i64 x.sd, .string ⟨x.ct.toArray⟩, .int .i64 best.pl, .int .i64 best.mm, .string ⟨best.lt.toArray⟩, .string ⟨best.cl.toArray⟩] 42 (0, 0)) := heap_setCell_same y2 g 3 _ _ (.string ⟨x.ct.toArray⟩) h2
  generalize y2.setCell ⟨g, 3, none⟩ (.string ⟨x.ct.toArray⟩) = y3 at b3 h3 ⊢
  have b4 := below_set b3 hle 4 (.int .i64 x.pl)
  have h4 : (y3.setCell ⟨g, 4, none⟩ (.int .i64 x.pl)).heap[g]? = some (.cells #[.string ⟨x.nm.toArray⟩, .int .i64 x.vd, .int .i64 x.sd, .string ⟨x.ct.toArray⟩, .int .i64 x.pl, .int .i64 best.mm, .string ⟨best.lt.toArray⟩, .string ⟨best.cl.toArray⟩] 42 (0, 0)) := heap_setCell_same y3 g 4 _ _ (.int .i64 x.pl) h3
  generalize y3.setCell ⟨g, 4, none⟩ (.int .i64 x.pl) = y4 at b4 h4 ⊢
  have b5 := below_set b4 hle 5 (.int .i64 x.mm)
  have h5 : (y4.setCell ⟨g, 5, none⟩ (.int .i64 x.mm)).heap[g]? = some (.cells #[.string ⟨x.nm.toArray⟩, .int .i64 x.vd, .int .i64 x.sd, .string ⟨x.ct.toArray⟩, .int .i64 x.pl, .int .i64 x.mm, .string ⟨best.lt.toArray⟩, .string ⟨best.cl.toArray⟩] 42 (0, 0)) := heap_setCell_same y4 g 5 _ _ (.int .i64 x.mm) h4
  generalize y4.setCell ⟨g, 5, none⟩ (.int .i64 x.mm) = y5 at b5 h5 ⊢
  have b6 := below_set b5 hle 6 (.string ⟨x.lt.toArray⟩)
  have h6 : (y5.setCell ⟨g, 6, none⟩ (.string ⟨x.lt.toArray⟩)).heap[g]? = some (.cells #[.string ⟨x.nm.toArray⟩, .int .i64 x.vd, .int .i64 x.sd, .string ⟨x.ct.toArray⟩, .int .i64 x.pl, .int .i64 x.mm, .string ⟨x.lt.toArray⟩, .string ⟨best.cl.toArray⟩] 42 (0, 0)) := heap_setCell_same y5 g 6 _ _ (.string ⟨x.lt.toArray⟩) h5
  generalize y5.setCell ⟨g, 6, none⟩ (.string ⟨x.lt.toArray⟩) = y6 at b6 h6 ⊢
  have b7 := below_set b6 hle 7 (.string ⟨x.cl.toArray⟩)
  have h7 : (y6.setCell ⟨g, 7, none⟩ (.string ⟨x.cl.toArray⟩)).heap[g]? = some (.cells #[.string ⟨x.nm.toArray⟩, .int .i64 x.vd, .int .i64 x.sd, .string ⟨x.ct.toArray⟩, .int .i64 x.pl, .int .i64 x.mm, .string ⟨x.lt.toArray⟩, .string ⟨x.cl.toArray⟩] 42 (0, 0)) := heap_setCell_same y6 g 7 _ _ (.string ⟨x.cl.toArray⟩) h6
  generalize y6.setCell ⟨g, 7, none⟩ (.string ⟨x.cl.toArray⟩) = y7 at b7 h7 ⊢
  subst hg
  exact ⟨h.below.trans (b7.mono (by omega)), Nat.le_trans h.size b7.size, (b7.block _ (by omega)).trans h.read, (b7.block _ (by omega)).trans h.res, h7⟩

theorem res_store {wr : World} (x : Rc) (g : Nat) (h_ : wr.heap[g]? = some (.cells #[.string ⟨#[]⟩, .int .i64 0, .int .i64 0, .string ⟨#[]⟩, .int .i64 0, .int .i64 0, .string ⟨#[]⟩, .string ⟨#[]⟩] 42 (0, 0))) :
    (((((((((wr.setCell ⟨g, 0, none⟩ (.string ⟨x.nm.toArray⟩)).setCell ⟨g, 1, none⟩ (.int .i64 x.vd)).setCell ⟨g, 2, none⟩ (.int .i64 x.sd)).setCell ⟨g, 3, none⟩ (.string ⟨x.ct.toArray⟩)).setCell ⟨g, 4, none⟩ (.int .i64 x.pl)).setCell ⟨g, 5, none⟩ (.int .i64 x.mm)).setCell ⟨g, 6, none⟩ (.string ⟨x.lt.toArray⟩)).setCell ⟨g, 7, none⟩ (.string ⟨x.cl.toArray⟩))).heap[g]? = some (.cells x.vals 42 (0, 0)) ∧ Below g wr ((((((((wr.setCell ⟨g, 0, none⟩ (.string ⟨x.nm.toArray⟩)).setCell ⟨g, 1, none⟩ (.int .i64 x.vd)).setCell ⟨g, 2, none⟩ (.int .i64 x.sd)).setCell ⟨g, 3, none⟩ (.string ⟨x.ct.toArray⟩)).setCell ⟨g, 4, none⟩ (.int .i64 x.pl)).setCell ⟨g, 5, none⟩ (.int .i64 x.mm)).setCell ⟨g, 6, none⟩ (.string ⟨x.lt.toArray⟩)).setCell ⟨g, 7, none⟩ (.string ⟨x.cl.toArray⟩)) := by
  have hle : g ≤ g := Nat.le_refl _
  have b_ : Below g wr wr := Below.refl g wr
  have b0 := below_set b_ hle 0 (.string ⟨x.nm.toArray⟩)
  have h0 : (wr.setCell ⟨g, 0, none⟩ (.string ⟨x.nm.toArray⟩)).heap[g]? = some (.cells #[.string ⟨x.nm.toArray⟩, .int .i64 0, .int .i64 0, .string ⟨#[]⟩, .int .i64 0, .int .i64 0, .string ⟨#[]⟩, .string ⟨#[]⟩] 42 (0, 0)) := heap_setCell_same wr g 0 _ _ (.string ⟨x.nm.toArray⟩) h_
  generalize wr.setCell ⟨g, 0, none⟩ (.string ⟨x.nm.toArray⟩) = y0 at b0 h0 ⊢
  have b1 := below_set b0 hle 1 (.int .i64 x.vd)
  have h1 : (y0.setCell ⟨g, 1, none⟩ (.int .i64 x.vd)).heap[g]? = some (.cells #[.string ⟨x.nm.toArray⟩, .int .i64 x.vd, .int .i64 0, .string ⟨#[]⟩, .int .i64 0, .int .i64 0, .string ⟨#[]⟩, .string ⟨#[]⟩] 42 (0, 0)) := heap_setCell_same y0 g 1 _ _ (.int .i64 x.vd) h0
  generalize y0.setCell ⟨g, 1, none⟩ (.int .i64 x.vd) = y1 at b1 h1 ⊢
  have b2 := below_set b1 hle 2 (.int .i64 x.sd)
  have h2 : (y1.setCell ⟨g, 2, none⟩ (.int .i64 x.sd)).heap[g]? = some (.cells #[.string ⟨x.nm.toArray⟩, .int .i64 x.vd, .int .i64 x.sd, .string ⟨#[]⟩, .int .i64 0, .int .i64 0, .string ⟨#[]⟩, .string ⟨#[]⟩] 42 (0, 0)) := heap_setCell_same y1 g 2 _ _ (.int .i64 x.sd) h1
  generalize y1.setCell ⟨g, 2, none⟩ (.int .i64 x.sd) = y2 at b2 h2 ⊢
  have b3 := below_set b2 hle 3 (.string ⟨x.ct.toArray⟩)
  have h3 : (y2.setCell ⟨g, 3, none⟩ (.string ⟨x.ct.toArray⟩)).heap[g]? = some (.cells #[.string ⟨x.nm.toArray⟩, .int .i64 x.vd, .int .i64 x.sd, .string ⟨x.ct.toArray⟩, .int .i64 0, .int .i64 0, .string ⟨#[]⟩, .string ⟨#[]⟩] 42 (0, 0)) := heap_setCell_same y2 g 3 _ _ (.string ⟨x.ct.toArray⟩) h2
  generalize y2.setCell ⟨g, 3, none⟩ (.string ⟨x.ct.toArray⟩) = y3 at b3 h3 ⊢
  have b4 := below_set b3 hle 4 (.int .i64 x.pl)
  have h4 : (y3.setCell ⟨g, 4, none⟩ (.int .i64 x.pl)).heap[g]? = some (.cells #[.string ⟨x.nm.toArray⟩, .int .i64 x.vd, .int .i64 x.sd, .string ⟨x.ct.toArray⟩, .int .i64 x.pl, .int .i64 0, .string ⟨#[]⟩, .string ⟨#[]⟩] 42 (0, 0)) := heap_setCell_same y3 g 4 _ _ (.int .i64 x.pl) h3
  generalize y3.setCell ⟨g, 4, none⟩ (.int .i64 x.pl) = y4 at b4 h4 ⊢
  have b5 := below_set b4 hle 5 (.int .i64 x.mm)
  have h5 : (y4.setCell ⟨g, 5, none⟩ (.int .i64 x.mm)).heap[g]? = some (.cells #[.string ⟨x.nm.toArray⟩, .int .i64 x.vd, .int .i64 x.sd, .string ⟨x.ct.toArray⟩, .int .i64 x.pl, .int .i64 x.mm, .string ⟨#[]⟩, .string ⟨#[]⟩] 42 (0, 0)) := heap_setCell_same y4 g 5 _ _ (.int .i64 x.mm) h4
  generalize y4.setCell ⟨g, 5, none⟩ (.int .i64 x.mm) = y5 at b5 h5 ⊢
  have b6 := below_set b5 hle 6 (.string ⟨x.lt.toArray⟩)
  have h6 : (y5.setCell ⟨g, 6, none⟩ (.string ⟨x.lt.toArray⟩)).heap[g]? = some (.cells #[.string ⟨x.nm.toArray⟩, .int .i64 x.vd, .int .i64 x.sd, .string ⟨x.ct.toArray⟩, .int .i64 x.pl, .int .i64 x.mm, .string ⟨x.lt.toArray⟩, .string ⟨#[]⟩] 42 (0, 0)) := heap_setCell_same y5 g 6 _ _ (.string ⟨x.lt.toArray⟩) h5
  generalize y5.setCell ⟨g, 6, none⟩ (.string ⟨x.lt.toArray⟩) = y6 at b6 h6 ⊢
  have b7 := below_set b6 hle 7 (.string ⟨x.cl.toArray⟩)
  have h7 : (y6.setCell ⟨g, 7, none⟩ (.string ⟨x.cl.toArray⟩)).heap[g]? = some (.cells #[.string ⟨x.nm.toArray⟩, .int .i64 x.vd, .int .i64 x.sd, .string ⟨x.ct.toArray⟩, .int .i64 x.pl, .int .i64 x.mm, .string ⟨x.lt.toArray⟩, .string ⟨x.cl.toArray⟩] 42 (0, 0)) := heap_setCell_same y6 g 7 _ _ (.string ⟨x.cl.toArray⟩) h6
  generalize y6.setCell ⟨g, 7, none⟩ (.string ⟨x.cl.toArray⟩) = y7 at b7 h7 ⊢
  exact ⟨h7, b7⟩

theorem AlB.start (w : World) (nm lt : List UInt8) (best : Rc) :
    AlB w (((w.alloc (.cells #[.string ⟨nm.toArray⟩, .string ⟨lt.toArray⟩] 46)).alloc (.cells #[.string ⟨#[]⟩, .int .i64 0, .int .i64 0, .string ⟨#[]⟩, .int .i64 0, .int .i64 0, .string ⟨#[]⟩, .string ⟨#[]⟩] 42)).alloc (.cells best.vals 42)) nm lt best := by
  refine ⟨(((Below.refl _ _).alloc (Nat.le_refl _) _).alloc (by simp) _).alloc (by simp; omega) _, by simp, ?_, ?_, ?_⟩
  · rw [Below.heap_alloc _ _ _ (by simp; omega), Below.heap_alloc _ _ _ (by simp)]
    exact heap_alloc_new w _
  · rw [Below.heap_alloc _ _ _ (by simp)]
    exact two_heap w _ _
  · have h := heap_alloc_new ((w.alloc (.cells #[.string ⟨nm.toArray⟩, .string ⟨lt.toArray⟩] 46)).alloc (.cells #[.string ⟨#[]⟩, .int .i64 0, .int .i64 0, .string ⟨#[]⟩, .int .i64 0, .int .i64 0, .string ⟨#[]⟩, .string ⟨#[]⟩] 42)) (.cells best.vals 42)
    rw [World.size_alloc, World.size_alloc] at h
    exact h

theorem Al.mis_short (n : Int) : ∀ (s t : List UInt8) (k : Nat), s.length ≤ k → Al.mis n s (t.take k) = Al.mis n s t := by
  intro s
  induction s with
  | nil => intro t k _; simp [Al.mis]
  | cons a s ih =>
    intro t k h
    obtain ⟨k, rfl⟩ : ∃ j, k = j + 1 := ⟨k - 1, by simp at h; omega⟩
    cases t with
    | nil => simp [Al.mis]
    | cons b t => simp only [List.take_succ_cons, Al.mis]; rw [ih t k (by simpa using h)]

theorem Al.err_none {b : Int} {lt : List UInt8} (h : Al.err b lt = 0) : 0 ≤ b ∧ b ≤ 3 ∧ Se.lettersErr lt = 0 ∧ lt.length ≤ 128 := by
  unfold Al.err at h
  split at h
  · simp at h
  · split at h
    · simp at h
    · refine ⟨by omega, by omega, h, ?_⟩
      unfold Se.lettersErr at h
      split at h
      · simp at h
      · split at h
        · simp at h
        · split at h
          · simp at h
          · omega

end Go.Proofs.Ytjebhbopmfcopaa
