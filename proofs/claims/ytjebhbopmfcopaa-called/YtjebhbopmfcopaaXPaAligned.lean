/-
  THE WALK of the program's aligned. Own text of the verifier.
-/
import Derived.Test.YtjebhbopmfcopaaXPaChosenG
import Derived.Test.YtjebhbopmfcopaaBun14
namespace Go.Proofs.Ytjebhbopmfcopaa
open Go.RowKit

/-- a block that holds a record -/
def PaR (B : Nat) (Y : World) : Prop := ∃ a0 a1 a2 a3 a4 a5 a6 a7, Y.heap[B]? = some (.cells #[a0, a1, a2, a3, a4, a5, a6, a7] 42 (0, 0))

/-- one block alone has turned, whatever its type -/
theorem PaR.store {w : World} {g : Nat} {a0 a1 a2 a3 a4 a5 a6 a7 : Value} (h : w.heap[g]? = some (.cells #[a0, a1, a2, a3, a4, a5, a6, a7] 42 (0, 0))) (b0 b1 b2 b3 b4 b5 b6 b7 : Value) :
    ((((((((w.setCell ⟨g, 0, none⟩ b0).setCell ⟨g, 1, none⟩ b1).setCell ⟨g, 2, none⟩ b2).setCell ⟨g, 3, none⟩ b3).setCell ⟨g, 4, none⟩ b4).setCell ⟨g, 5, none⟩ b5).setCell ⟨g, 6, none⟩ b6).setCell ⟨g, 7, none⟩ b7).heap[g]? = some (.cells #[b0, b1, b2, b3, b4, b5, b6, b7] 42 (0, 0)) := by
  have h0 : (w.setCell ⟨g, 0, none⟩ b0).heap[g]? = some (.cells #[b0, a1, a2, a3, a4, a5, a6, a7] 42 (0, 0)) := heap_setCell_same w g 0 _ _ b0 h
  generalize w.setCell ⟨g, 0, none⟩ b0 = y0 at h0 ⊢
  have h1 : (y0.setCell ⟨g, 1, none⟩ b1).heap[g]? = some (.cells #[b0, b1, a2, a3, a4, a5, a6, a7] 42 (0, 0)) := heap_setCell_same y0 g 1 _ _ b1 h0
  generalize y0.setCell ⟨g, 1, none⟩ b1 = y1 at h1 ⊢
  have h2 : (y1.setCell ⟨g, 2, none⟩ b2).heap[g]? = some (.cells #[b0, b1, b2, a3, a4, a5, a6, a7] 42 (0, 0)) := heap_setCell_same y1 g 2 _ _ b2 h1
  generalize y1.setCell ⟨g, 2, none⟩ b2 = y2 at h2 ⊢
  have h3 : (y2.setCell ⟨g, 3, none⟩ b3).heap[g]? = some (.cells #[b0, b1, b2, b3, a4, a5, a6, a7] 42 (0, 0)) := heap_setCell_same y2 g 3 _ _ b3 h2
  generalize y2.setCell ⟨g, 3, none⟩ b3 = y3 at h3 ⊢
  have h4 : (y3.setCell ⟨g, 4, none⟩ b4).heap[g]? = some (.cells #[b0, b1, b2, b3, b4, a5, a6, a7] 42 (0, 0)) := heap_setCell_same y3 g 4 _ _ b4 h3
  generalize y3.setCell ⟨g, 4, none⟩ b4 = y4 at h4 ⊢
  have h5 : (y4.setCell ⟨g, 5, none⟩ b5).heap[g]? = some (.cells #[b0, b1, b2, b3, b4, b5, a6, a7] 42 (0, 0)) := heap_setCell_same y4 g 5 _ _ b5 h4
  generalize y4.setCell ⟨g, 5, none⟩ b5 = y5 at h5 ⊢
  have h6 : (y5.setCell ⟨g, 6, none⟩ b6).heap[g]? = some (.cells #[b0, b1, b2, b3, b4, b5, b6, a7] 42 (0, 0)) := heap_setCell_same y5 g 6 _ _ b6 h5
  generalize y5.setCell ⟨g, 6, none⟩ b6 = y6 at h6 ⊢
  have h7 : (y6.setCell ⟨g, 7, none⟩ b7).heap[g]? = some (.cells #[b0, b1, b2, b3, b4, b5, b6, b7] 42 (0, 0)) := heap_setCell_same y6 g 7 _ _ b7 h6
  generalize y6.setCell ⟨g, 7, none⟩ b7 = y7 at h7 ⊢
  exact h7
theorem PaR.beneath (w : World) (g : Nat) (b0 b1 b2 b3 b4 b5 b6 b7 : Value) :
    Below g w ((((((((w.setCell ⟨g, 0, none⟩ b0).setCell ⟨g, 1, none⟩ b1).setCell ⟨g, 2, none⟩ b2).setCell ⟨g, 3, none⟩ b3).setCell ⟨g, 4, none⟩ b4).setCell ⟨g, 5, none⟩ b5).setCell ⟨g, 6, none⟩ b6).setCell ⟨g, 7, none⟩ b7) := by
  have hle := Nat.le_refl g
  exact below_set (below_set (below_set (below_set (below_set (below_set (below_set (below_set (Below.refl g w) hle 0 b0) hle 1 b1) hle 2 b2) hle 3 b3) hle 4 b4) hle 5 b5) hle 6 b6) hle 7 b7

/-- aligned's result: a record in a block of its own -/
theorem ad_ret {w : World} {g : Nat} {A : Array Value} {tmps : Array Value} (hp : tmps.getD 6 undef = .pointer (some ⟨g, 0, none⟩)) (hg : w.heap[g]? = some (.cells A 42 (0, 0))) (h8 : A.size = 8) :
    (results Try.f31 tmps).run Try.prog w = .ok (.agg A) w :=
  results_cell_row rfl tmps _ g 42 A (0, 0) _ hp hg Try.underlying42 rfl (by rw [Try.sizeRec3, h8])

set_option maxRecDepth 100000 in
set_option maxHeartbeats 3200000 in
theorem aligned_any (nm zn zl s : List UInt8) (n : Int) (c a m : Nat) (w : World) (hn : Lt.strandB n = true) (hzn : zn.length ≤ 281474976710656) (hs : s.length ≤ 1000000) (hzl : zl.length ≤ 1000000) (hp : a + s.length ≤ zl.length) (hL : Lt.allL zl = true) :
    Calls Try.prog 31 #[.string ⟨nm.toArray⟩, .agg #[.string ⟨zn.toArray⟩, .string ⟨zl.toArray⟩], .agg #[.int .i64 n, .int .i64 (c : Int), .int .i64 (a : Int), .string ⟨s.toArray⟩, .int .i64 (m : Int)]] w fun e w' =>
      e = .returned (.agg (Rc.vals ⟨nm, 1, n, zn, (a : Int), (m : Int), s, Al.calls n s zl a s.length⟩)) ∧ Below w.heap.size w w' := by
  obtain ⟨CL, hCL⟩ : ∃ CL, CL = Al.calls n s zl a s.length := ⟨_, rfl⟩
  rw [← hCL]
  have HC1 : Hid (∀ W : World, Calls Try.prog 30 #[.string ⟨zn.toArray⟩] W fun e w' => e = .returned (.string ⟨zn.toArray⟩) ∧ Below W.heap.size W w') := fun W => clone_any _ W (by rw [str_size]; exact hzn)
  have HC2 : Hid (∀ W : World, Calls Try.prog 30 #[.string ⟨s.toArray⟩] W fun e w' => e = .returned (.string ⟨s.toArray⟩) ∧ Below W.heap.size W w') := fun W => clone_any _ W (by rw [str_size]; omega)
  have HKC : Hid (∀ W : World, (W.cell? ⟨w.heap.size, 0, none⟩ = some (.string ⟨zn.toArray⟩) ∧ W.cell? ⟨w.heap.size, 1, none⟩ = some (.string ⟨zl.toArray⟩) ∧ W.cell? ⟨w.heap.size + 1, 0, none⟩ = some (.int .i64 n) ∧ W.cell? ⟨w.heap.size + 1, 1, none⟩ = some (.int .i64 (c : Int)) ∧ W.cell? ⟨w.heap.size + 1, 2, none⟩ = some (.int .i64 (a : Int)) ∧ W.cell? ⟨w.heap.size + 1, 3, none⟩ = some (.string ⟨s.toArray⟩) ∧ W.cell? ⟨w.heap.size + 1, 4, none⟩ = some (.int .i64 (m : Int)) ∧ PaR (w.heap.size + 2) W) → Calls Try.prog 47 #[.string ⟨s.toArray⟩, .string ⟨zl.toArray⟩, .int .i64 (a : Int), .int .i64 n] W fun e w' => e = .returned (.string ⟨CL.toArray⟩) ∧ Below W.heap.size W w' ∧ ∃ a0 a1 a2 a3 a4 a5 a6 a7, w'.cell? ⟨w.heap.size + 1 + 1, 0, none⟩ = some a0 ∧ w'.frozen? ⟨w.heap.size + 1 + 1, 0, none⟩ = false ∧ w'.cell? ⟨w.heap.size + 1 + 1, 1, none⟩ = some a1 ∧ w'.frozen? ⟨w.heap.size + 1 + 1, 1, none⟩ = false ∧ w'.cell? ⟨w.heap.size + 1 + 1, 2, none⟩ = some a2 ∧ w'.frozen? ⟨w.heap.size + 1 + 1, 2, none⟩ = false ∧ w'.cell? ⟨w.heap.size + 1 + 1, 3, none⟩ = some a3 ∧ w'.frozen? ⟨w.heap.size + 1 + 1, 3, none⟩ = false ∧ w'.cell? ⟨w.heap.size + 1 + 1, 4, none⟩ = some a4 ∧ w'.frozen? ⟨w.heap.size + 1 + 1, 4, none⟩ = false ∧ w'.cell? ⟨w.heap.size + 1 + 1, 5, none⟩ = some a5 ∧ w'.frozen? ⟨w.heap.size + 1 + 1, 5, none⟩ = false ∧ w'.cell? ⟨w.heap.size + 1 + 1, 6, none⟩ = some a6 ∧ w'.frozen? ⟨w.heap.size + 1 + 1, 6, none⟩ = false ∧ w'.cell? ⟨w.heap.size + 1 + 1, 7, none⟩ = some a7 ∧ w'.frozen? ⟨w.heap.size + 1 + 1, 7, none⟩ = false ∧ Hid (w'.heap[w.heap.size + 1 + 1]? = some (.cells #[a0, a1, a2, a3, a4, a5, a6, a7] 42 (0, 0)))) := fun W hS => by
    have h := pcalls_any ⟨s.toArray⟩ ⟨zl.toArray⟩ a n W hn (by rw [str_size]; omega) (by rw [str_size]; omega) (by rw [str_size, str_size]; exact hp) hL
    rw [show (⟨s.toArray⟩ : ByteArray).data.toList = s from by simp, show (⟨zl.toArray⟩ : ByteArray).data.toList = zl from by simp, str_size, ← hCL] at h
    refine h.mono ?_
    rintro e w' ⟨rfl, hb⟩
    obtain ⟨_, _, _, _, _, _, _, a0, a1, a2, a3, a4, a5, a6, a7, hr⟩ := hS
    have hlt : w.heap.size + 2 < W.heap.size := (Array.getElem?_eq_some_iff.1 hr).1
    have hr' := (hb.block _ hlt).trans hr
    refine ⟨rfl, hb, a0, a1, a2, a3, a4, a5, a6, a7, ?_⟩
    exact ⟨cell_of_row _ _ 0 _ _ _ hr', frozen_of_row _ _ 0 _ _ hr', cell_of_row _ _ 1 _ _ _ hr', frozen_of_row _ _ 1 _ _ hr', cell_of_row _ _ 2 _ _ _ hr', frozen_of_row _ _ 2 _ _ hr', cell_of_row _ _ 3 _ _ _ hr', frozen_of_row _ _ 3 _ _ hr', cell_of_row _ _ 4 _ _ _ hr', frozen_of_row _ _ 4 _ _ hr', cell_of_row _ _ 5 _ _ _ hr', frozen_of_row _ _ 5 _ _ hr', cell_of_row _ _ 6 _ _ _ hr', frozen_of_row _ _ 6 _ _ hr', cell_of_row _ _ 7 _ _ _ hr', frozen_of_row _ _ 7 _ _ hr', hr'⟩
  have HK : Hid (∀ w1 W : World, Below W.heap.size W w1 → (W.cell? ⟨w.heap.size, 0, none⟩ = some (.string ⟨zn.toArray⟩) ∧ W.cell? ⟨w.heap.size, 1, none⟩ = some (.string ⟨zl.toArray⟩) ∧ W.cell? ⟨w.heap.size + 1, 0, none⟩ = some (.int .i64 n) ∧ W.cell? ⟨w.heap.size + 1, 1, none⟩ = some (.int .i64 (c : Int)) ∧ W.cell? ⟨w.heap.size + 1, 2, none⟩ = some (.int .i64 (a : Int)) ∧ W.cell? ⟨w.heap.size + 1, 3, none⟩ = some (.string ⟨s.toArray⟩) ∧ W.cell? ⟨w.heap.size + 1, 4, none⟩ = some (.int .i64 (m : Int)) ∧ PaR (w.heap.size + 2) W) → (w1.cell? ⟨w.heap.size, 0, none⟩ = some (.string ⟨zn.toArray⟩) ∧ w1.cell? ⟨w.heap.size, 1, none⟩ = some (.string ⟨zl.toArray⟩) ∧ w1.cell? ⟨w.heap.size + 1, 0, none⟩ = some (.int .i64 n) ∧ w1.cell? ⟨w.heap.size + 1, 1, none⟩ = some (.int .i64 (c : Int)) ∧ w1.cell? ⟨w.heap.size + 1, 2, none⟩ = some (.int .i64 (a : Int)) ∧ w1.cell? ⟨w.heap.size + 1, 3, none⟩ = some (.string ⟨s.toArray⟩) ∧ w1.cell? ⟨w.heap.size + 1, 4, none⟩ = some (.int .i64 (m : Int)) ∧ PaR (w.heap.size + 2) w1)) := fun w1 W hb h => by
    obtain ⟨h1, h2, h3, h4, h5, h6, h7, a0, a1, a2, a3, a4, a5, a6, a7, hr⟩ := h
    have e : ∀ p v, W.cell? p = some v → w1.cell? p = some v := fun p v h => (hb.cell (World.block_lt_of_cell? W _ h)).trans h
    have hlt : w.heap.size + 2 < W.heap.size := (Array.getElem?_eq_some_iff.1 hr).1
    exact ⟨e _ _ h1, e _ _ h2, e _ _ h3, e _ _ h4, e _ _ h5, e _ _ h6, e _ _ h7, a0, a1, a2, a3, a4, a5, a6, a7, (hb.block _ hlt).trans hr⟩
  have HSET : Hid (∀ Y : World, (Y.cell? ⟨w.heap.size, 0, none⟩ = some (.string ⟨zn.toArray⟩) ∧ Y.cell? ⟨w.heap.size, 1, none⟩ = some (.string ⟨zl.toArray⟩) ∧ Y.cell? ⟨w.heap.size + 1, 0, none⟩ = some (.int .i64 n) ∧ Y.cell? ⟨w.heap.size + 1, 1, none⟩ = some (.int .i64 (c : Int)) ∧ Y.cell? ⟨w.heap.size + 1, 2, none⟩ = some (.int .i64 (a : Int)) ∧ Y.cell? ⟨w.heap.size + 1, 3, none⟩ = some (.string ⟨s.toArray⟩) ∧ Y.cell? ⟨w.heap.size + 1, 4, none⟩ = some (.int .i64 (m : Int)) ∧ PaR (w.heap.size + 2) Y) → (((((((((Y.setCell ⟨w.heap.size + 1 + 1, 0, none⟩ (.string ⟨nm.toArray⟩)).setCell ⟨w.heap.size + 1 + 1, 1, none⟩ (.int .i64 1)).setCell ⟨w.heap.size + 1 + 1, 2, none⟩ (.int .i64 n)).setCell ⟨w.heap.size + 1 + 1, 3, none⟩ (.string ⟨zn.toArray⟩)).setCell ⟨w.heap.size + 1 + 1, 4, none⟩ (.int .i64 (a : Int))).setCell ⟨w.heap.size + 1 + 1, 5, none⟩ (.int .i64 (m : Int))).setCell ⟨w.heap.size + 1 + 1, 6, none⟩ (.string ⟨s.toArray⟩)).setCell ⟨w.heap.size + 1 + 1, 7, none⟩ (.string ⟨CL.toArray⟩)).cell? ⟨w.heap.size, 0, none⟩ = some (.string ⟨zn.toArray⟩) ∧ ((((((((Y.setCell ⟨w.heap.size + 1 + 1, 0, none⟩ (.string ⟨nm.toArray⟩)).setCell ⟨w.heap.size + 1 + 1, 1, none⟩ (.int .i64 1)).setCell ⟨w.heap.size + 1 + 1, 2, none⟩ (.int .i64 n)).setCell ⟨w.heap.size + 1 + 1, 3, none⟩ (.string ⟨zn.toArray⟩)).setCell ⟨w.heap.size + 1 + 1, 4, none⟩ (.int .i64 (a : Int))).setCell ⟨w.heap.size + 1 + 1, 5, none⟩ (.int .i64 (m : Int))).setCell ⟨w.heap.size + 1 + 1, 6, none⟩ (.string ⟨s.toArray⟩)).setCell ⟨w.heap.size + 1 + 1, 7, none⟩ (.string ⟨CL.toArray⟩)).cell? ⟨w.heap.size, 1, none⟩ = some (.string ⟨zl.toArray⟩) ∧ ((((((((Y.setCell ⟨w.heap.size + 1 + 1, 0, none⟩ (.string ⟨nm.toArray⟩)).setCell ⟨w.heap.size + 1 + 1, 1, none⟩ (.int .i64 1)).setCell ⟨w.heap.size + 1 + 1, 2, none⟩ (.int .i64 n)).setCell ⟨w.heap.size + 1 + 1, 3, none⟩ (.string ⟨zn.toArray⟩)).setCell ⟨w.heap.size + 1 + 1, 4, none⟩ (.int .i64 (a : Int))).setCell ⟨w.heap.size + 1 + 1, 5, none⟩ (.int .i64 (m : Int))).setCell ⟨w.heap.size + 1 + 1, 6, none⟩ (.string ⟨s.toArray⟩)).setCell ⟨w.heap.size + 1 + 1, 7, none⟩ (.string ⟨CL.toArray⟩)).cell? ⟨w.heap.size + 1, 0, none⟩ = some (.int .i64 n) ∧ ((((((((Y.setCell ⟨w.heap.size + 1 + 1, 0, none⟩ (.string ⟨nm.toArray⟩)).setCell ⟨w.heap.size + 1 + 1, 1, none⟩ (.int .i64 1)).setCell ⟨w.heap.size + 1 + 1, 2, none⟩ (.int .i64 n)).setCell ⟨w.heap.size + 1 + 1, 3, none⟩ (.string ⟨zn.toArray⟩)).setCell ⟨w.heap.size + 1 + 1, 4, none⟩ (.int .i64 (a : Int))).setCell ⟨w.heap.size + 1 + 1, 5, none⟩ (.int .i64 (m : Int))).setCell ⟨w.heap.size + 1 + 1, 6, none⟩ (.string ⟨s.toArray⟩)).setCell ⟨w.heap.size + 1 + 1, 7, none⟩ (.string ⟨CL.toArray⟩)).cell? ⟨w.heap.size + 1, 1, none⟩ = some (.int .i64 (c : Int)) ∧ ((((((((Y.setCell ⟨w.heap.size + 1 + 1, 0, none⟩ (.string ⟨nm.toArray⟩)).setCell ⟨w.heap.size + 1 + 1, 1, none⟩ (.int .i64 1)).setCell ⟨w.heap.size + 1 + 1, 2, none⟩ (.int .i64 n)).setCell ⟨w.heap.size + 1 + 1, 3, none⟩ (.string ⟨zn.toArray⟩)).setCell ⟨w.heap.size + 1 + 1, 4, none⟩ (.int .i64 (a : Int))).setCell ⟨w.heap.size + 1 + 1, 5, none⟩ (.int .i64 (m : Int))).setCell ⟨w.heap.size + 1 + 1, 6, none⟩ (.string ⟨s.toArray⟩)).setCell ⟨w.heap.size + 1 + 1, 7, none⟩ (.string ⟨CL.toArray⟩)).cell? ⟨w.heap.size + 1, 2, none⟩ = some (.int .i64 (a : Int)) ∧ ((((((((Y.setCell ⟨w.heap.size + 1 + 1, 0, none⟩ (.string ⟨nm.toArray⟩)).setCell ⟨w.heap.size + 1 + 1, 1, none⟩ (.int .i64 1)).setCell ⟨w.heap.size + 1 + 1, 2, none⟩ (.int .i64 n)).setCell ⟨w.heap.size + 1 + 1, 3, none⟩ (.string ⟨zn.toArray⟩)).setCell ⟨w.heap.size + 1 + 1, 4, none⟩ (.int .i64 (a : Int))).setCell ⟨w.heap.size + 1 + 1, 5, none⟩ (.int .i64 (m : Int))).setCell ⟨w.heap.size + 1 + 1, 6, none⟩ (.string ⟨s.toArray⟩)).setCell ⟨w.heap.size + 1 + 1, 7, none⟩ (.string ⟨CL.toArray⟩)).cell? ⟨w.heap.size + 1, 3, none⟩ = some (.string ⟨s.toArray⟩) ∧ ((((((((Y.setCell ⟨w.heap.size + 1 + 1, 0, none⟩ (.string ⟨nm.toArray⟩)).setCell ⟨w.heap.size + 1 + 1, 1, none⟩ (.int .i64 1)).setCell ⟨w.heap.size + 1 + 1, 2, none⟩ (.int .i64 n)).setCell ⟨w.heap.size + 1 + 1, 3, none⟩ (.string ⟨zn.toArray⟩)).setCell ⟨w.heap.size + 1 + 1, 4, none⟩ (.int .i64 (a : Int))).setCell ⟨w.heap.size + 1 + 1, 5, none⟩ (.int .i64 (m : Int))).setCell ⟨w.heap.size + 1 + 1, 6, none⟩ (.string ⟨s.toArray⟩)).setCell ⟨w.heap.size + 1 + 1, 7, none⟩ (.string ⟨CL.toArray⟩)).cell? ⟨w.heap.size + 1, 4, none⟩ = some (.int .i64 (m : Int)) ∧ PaR (w.heap.size + 2) ((((((((Y.setCell ⟨w.heap.size + 1 + 1, 0, none⟩ (.string ⟨nm.toArray⟩)).setCell ⟨w.heap.size + 1 + 1, 1, none⟩ (.int .i64 1)).setCell ⟨w.heap.size + 1 + 1, 2, none⟩ (.int .i64 n)).setCell ⟨w.heap.size + 1 + 1, 3, none⟩ (.string ⟨zn.toArray⟩)).setCell ⟨w.heap.size + 1 + 1, 4, none⟩ (.int .i64 (a : Int))).setCell ⟨w.heap.size + 1 + 1, 5, none⟩ (.int .i64 (m : Int))).setCell ⟨w.heap.size + 1 + 1, 6, none⟩ (.string ⟨s.toArray⟩)).setCell ⟨w.heap.size + 1 + 1, 7, none⟩ (.string ⟨CL.toArray⟩)))) := fun Y h => by
    obtain ⟨h1, h2, h3, h4, h5, h6, h7, a0, a1, a2, a3, a4, a5, a6, a7, hr⟩ := h
    have hb := PaR.beneath Y (w.heap.size + 1 + 1) (.string ⟨nm.toArray⟩) (.int .i64 1) (.int .i64 n) (.string ⟨zn.toArray⟩) (.int .i64 (a : Int)) (.int .i64 (m : Int)) (.string ⟨s.toArray⟩) (.string ⟨CL.toArray⟩)
    have e : ∀ g i v, g < w.heap.size + 2 → Y.cell? ⟨g, i, none⟩ = some v → (((((((((Y.setCell ⟨w.heap.size + 1 + 1, 0, none⟩ (.string ⟨nm.toArray⟩)).setCell ⟨w.heap.size + 1 + 1, 1, none⟩ (.int .i64 1)).setCell ⟨w.heap.size + 1 + 1, 2, none⟩ (.int .i64 n)).setCell ⟨w.heap.size + 1 + 1, 3, none⟩ (.string ⟨zn.toArray⟩)).setCell ⟨w.heap.size + 1 + 1, 4, none⟩ (.int .i64 (a : Int))).setCell ⟨w.heap.size + 1 + 1, 5, none⟩ (.int .i64 (m : Int))).setCell ⟨w.heap.size + 1 + 1, 6, none⟩ (.string ⟨s.toArray⟩)).setCell ⟨w.heap.size + 1 + 1, 7, none⟩ (.string ⟨CL.toArray⟩))).cell? ⟨g, i, none⟩ = some v := fun g i v hg h => (Pa.cell_same (p := ⟨g, i, none⟩) (hb.block g hg)).trans h
    exact ⟨e _ _ _ (by omega) h1, e _ _ _ (by omega) h2, e _ _ _ (by omega) h3, e _ _ _ (by omega) h4, e _ _ _ (by omega) h5, e _ _ _ (by omega) h6, e _ _ _ (by omega) h7, _, _, _, _, _, _, _, _, PaR.store hr (.string ⟨nm.toArray⟩) (.int .i64 1) (.int .i64 n) (.string ⟨zn.toArray⟩) (.int .i64 (a : Int)) (.int .i64 (m : Int)) (.string ⟨s.toArray⟩) (.string ⟨CL.toArray⟩)⟩
  have HS0 : Hid (∀ Y : World, Y.heap = (((w.alloc (.cells #[.string ⟨zn.toArray⟩, .string ⟨zl.toArray⟩] 58)).alloc (.cells #[.int .i64 n, .int .i64 (c : Int), .int .i64 (a : Int), .string ⟨s.toArray⟩, .int .i64 (m : Int)] 67)).alloc (.cells #[.string ⟨#[]⟩, .int .i64 0, .int .i64 0, .string ⟨#[]⟩, .int .i64 0, .int .i64 0, .string ⟨#[]⟩, .string ⟨#[]⟩] 42)).heap → (Y.cell? ⟨w.heap.size, 0, none⟩ = some (.string ⟨zn.toArray⟩) ∧ Y.cell? ⟨w.heap.size, 1, none⟩ = some (.string ⟨zl.toArray⟩) ∧ Y.cell? ⟨w.heap.size + 1, 0, none⟩ = some (.int .i64 n) ∧ Y.cell? ⟨w.heap.size + 1, 1, none⟩ = some (.int .i64 (c : Int)) ∧ Y.cell? ⟨w.heap.size + 1, 2, none⟩ = some (.int .i64 (a : Int)) ∧ Y.cell? ⟨w.heap.size + 1, 3, none⟩ = some (.string ⟨s.toArray⟩) ∧ Y.cell? ⟨w.heap.size + 1, 4, none⟩ = some (.int .i64 (m : Int)) ∧ PaR (w.heap.size + 2) Y)) := fun Y hY => by
    have e1 : Y.heap[w.heap.size]? = some (.cells #[.string ⟨zn.toArray⟩, .string ⟨zl.toArray⟩] 58 (0, 0)) := by
      rw [hY, Below.heap_alloc _ _ _ (by simp; omega), Below.heap_alloc _ _ _ (by simp)]
      exact heap_alloc_new w _
    have e2 : Y.heap[w.heap.size + 1]? = some (.cells #[.int .i64 n, .int .i64 (c : Int), .int .i64 (a : Int), .string ⟨s.toArray⟩, .int .i64 (m : Int)] 67 (0, 0)) := by
      rw [hY, Below.heap_alloc _ _ _ (by simp)]
      exact two_heap w _ _
    have e3 : Y.heap[w.heap.size + 2]? = some (.cells #[.string ⟨#[]⟩, .int .i64 0, .int .i64 0, .string ⟨#[]⟩, .int .i64 0, .int .i64 0, .string ⟨#[]⟩, .string ⟨#[]⟩] 42 (0, 0)) := by
      rw [hY]
      have h := heap_alloc_new ((w.alloc (.cells #[.string ⟨zn.toArray⟩, .string ⟨zl.toArray⟩] 58)).alloc (.cells #[.int .i64 n, .int .i64 (c : Int), .int .i64 (a : Int), .string ⟨s.toArray⟩, .int .i64 (m : Int)] 67)) (.cells #[.string ⟨#[]⟩, .int .i64 0, .int .i64 0, .string ⟨#[]⟩, .int .i64 0, .int .i64 0, .string ⟨#[]⟩, .string ⟨#[]⟩] 42)
      rw [World.size_alloc, World.size_alloc] at h
      exact h
    exact ⟨cell_of_row _ _ 0 _ _ _ e1, cell_of_row _ _ 1 _ _ _ e1, cell_of_row _ _ 0 _ _ _ e2, cell_of_row _ _ 1 _ _ _ e2, cell_of_row _ _ 2 _ _ _ e2, cell_of_row _ _ 3 _ _ _ e2, cell_of_row _ _ 4 _ _ _ e2, _, _, _, _, _, _, _, _, e3⟩
  have HS1 : Hid _ := HS0.out ((((w.alloc (.cells #[.string ⟨zn.toArray⟩, .string ⟨zl.toArray⟩] 58)).alloc (.cells #[.int .i64 n, .int .i64 (c : Int), .int .i64 (a : Int), .string ⟨s.toArray⟩, .int .i64 (m : Int)] 67)).alloc (.cells #[.string ⟨#[]⟩, .int .i64 0, .int .i64 0, .string ⟨#[]⟩, .int .i64 0, .int .i64 0, .string ⟨#[]⟩, .string ⟨#[]⟩] 42)).drew) rfl
  clear HS0
  have HB0 : Hid (∀ o1 o2 o3, Below w.heap.size w (((w.alloc o1).alloc o2).alloc o3).drew) := fun o1 o2 o3 => ((((Below.refl _ _).alloc (Nat.le_refl _) o1).alloc (by simp) o2).alloc (by simp; omega) o3).drew
  have HB2 : Hid (∀ (W w1 : World), Below w.heap.size w W → Below W.heap.size W w1 → Below w.heap.size w w1) := fun W w1 h1 h2 => h1.trans (h2.mono h1.size)
  clear hCL hn hL hzn hs hzl hp
  go_enter Try.func31, Try.ntmps31
  go_wp2_with fail
  go_region_held3 (fun Y => Y.cell? ⟨w.heap.size, 0, none⟩ = some (.string ⟨zn.toArray⟩) ∧ Y.cell? ⟨w.heap.size, 1, none⟩ = some (.string ⟨zl.toArray⟩) ∧ Y.cell? ⟨w.heap.size + 1, 0, none⟩ = some (.int .i64 n) ∧ Y.cell? ⟨w.heap.size + 1, 1, none⟩ = some (.int .i64 (c : Int)) ∧ Y.cell? ⟨w.heap.size + 1, 2, none⟩ = some (.int .i64 (a : Int)) ∧ Y.cell? ⟨w.heap.size + 1, 3, none⟩ = some (.string ⟨s.toArray⟩) ∧ Y.cell? ⟨w.heap.size + 1, 4, none⟩ = some (.int .i64 (m : Int)) ∧ PaR (w.heap.size + 2) Y)
    (first | (with_reducible exact HS1.out) | (with_reducible (refine HSET.out _ ?_; assumption)) | (with_reducible (refine HK.out _ _ (by assumption) ?_; assumption)))
    (first
      | (go_at_call_of 30 (Value.string ⟨zn.toArray⟩); refine (HC1.out _).mono ?_; rintro e w1 ⟨rfl, hb1⟩)
      | (go_at_call 30; refine (HC2.out _).mono ?_; rintro e w2 ⟨rfl, hb2⟩)
      | (go_at_call 47; refine (HKC.out _ (by assumption)).mono ?_; rintro e w3 ⟨rfl, hb3, a0, a1, a2, a3, a4, a5, a6, a7, r0, f0, r1, f1, r2, f2, r3, f3, r4, f4, r5, f5, r6, f6, r7, f7, HROW⟩))
  all_goals
    go_wp2
    refine bodyPost_ret (ad_ret rfl (PaR.store HROW.out _ _ _ _ _ _ _ _) rfl) rfl ?_
    refine ⟨rfl, HB2.out _ _ (HB2.out _ _ (HB2.out _ _ (HB0.out _ _ _) hb1) hb2) hb3 |>.trans ?_⟩
    exact (PaR.beneath w3 (w.heap.size + 1 + 1) _ _ _ _ _ _ _ _).mono (by omega)

end Go.Proofs.Ytjebhbopmfcopaa
