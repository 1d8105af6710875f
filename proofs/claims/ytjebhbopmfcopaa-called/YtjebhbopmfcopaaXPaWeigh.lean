/-
  THE PROGRAM'S Align: a candidate weighed. Own text of the verifier.
-/
import Derived.Test.YtjebhbopmfcopaaBun9
import Derived.Test.YtjebhbopmfcopaaBun10
namespace Go.Proofs.Ytjebhbopmfcopaa
open Go.RowKit

/-- a candidate: strand, contig, place, letters, mismatches -/
structure Pa.Cd where
  n : Int
  c : Nat
  a : Nat
  s : List UInt8
  m : Nat
/-- the best candidate, and how many are as good -/
structure Pa.Ch where
  b : Pa.Cd
  eq : Nat
def Pa.Cd.vals (x : Pa.Cd) : Array Value := #[.int .i64 x.n, .int .i64 (x.c : Int), .int .i64 (x.a : Int), .string ⟨x.s.toArray⟩, .int .i64 (x.m : Int)]
def Pa.Ch.vals (x : Pa.Ch) : Array Value := #[.int .i64 x.b.n, .int .i64 (x.b.c : Int), .int .i64 (x.b.a : Int), .string ⟨x.b.s.toArray⟩, .int .i64 (x.b.m : Int), .int .i64 (x.eq : Int)]
def Pa.zero : Pa.Ch := ⟨⟨0, 0, 0, [], 0⟩, 0⟩
def Pa.weigh (x : Pa.Ch) (o : Pa.Cd) : Pa.Ch := if x.eq = 0 then ⟨o, 1⟩ else if o.m < x.b.m then ⟨o, 1⟩ else if o.m = x.b.m then ⟨x.b, x.eq + 1⟩ else x

/-- a world in which one block alone has turned -/
structure Pa.T (g : Nat) (w w' : World) (A : Array Value) : Prop where
  os : w'.os = w.os
  tape : w'.tape = w.tape
  output : w'.output = w.output
  size : w.heap.size ≤ w'.heap.size
  other : ∀ k, k < w.heap.size → k ≠ g → w'.heap[k]? = w.heap[k]?
  row : w'.heap[g]? = some (.cells A 69 (0, 0))

theorem Pa.T.refl {g : Nat} {w : World} {A : Array Value} (h : w.heap[g]? = some (.cells A 69 (0, 0))) : Pa.T g w w A := ⟨rfl, rfl, rfl, Nat.le_refl _, fun _ _ _ => rfl, h⟩
theorem Pa.T.set {g : Nat} {w w' : World} {A : Array Value} (h : Pa.T g w w' A) (i : Nat) (v : Value) : Pa.T g w (w'.setCell ⟨g, i, none⟩ v) (A.setIfInBounds i v) := by
  have hb := below_set (Below.refl g w') (Nat.le_refl g) i v
  exact ⟨hb.os.trans h.os, hb.tape.trans h.tape, hb.output.trans h.output, Nat.le_trans h.size hb.size, fun k hk hg => (heap_setCell_other w' ⟨g, i, none⟩ k v hg).trans (h.other k hk hg), heap_setCell_same w' g i A _ v h.row⟩
theorem Pa.T.below {g : Nat} {w w' w'' : World} {A : Array Value} (h : Pa.T g w w' A) (hb : Below w'.heap.size w' w'') : Pa.T g w w'' A := by
  have hg : g < w'.heap.size := by
    rcases Nat.lt_or_ge g w'.heap.size with h1 | h1
    · exact h1
    · have := h.row; rw [Array.getElem?_eq_none h1] at this; cases this
  have hs := h.size
  exact ⟨hb.os.trans h.os, hb.tape.trans h.tape, hb.output.trans h.output, Nat.le_trans h.size hb.size, fun k hk hk2 => (hb.block k (by omega)).trans (h.other k hk hk2), (hb.block g hg).trans h.row⟩
theorem Pa.T.alloc {g : Nat} {w w' : World} {A : Array Value} (h : Pa.T g w w' A) (o : Obj) (n : Nat) : Pa.T g w ((w'.alloc o).drewN n) A := h.below (below_drewN ((Below.refl _ _).alloc (Nat.le_refl _) o) n)
/-- what lies beneath the block is as it was -/
theorem Pa.T.beneath {g B : Nat} {w w' : World} {A : Array Value} (h : Pa.T g w w' A) (hB : B ≤ g) (hB2 : B ≤ w.heap.size) : Below B w w' := ⟨h.os, h.tape, h.output, h.size, fun k hk => h.other k (by omega) (by omega)⟩

set_option maxRecDepth 100000 in
set_option maxHeartbeats 1600000 in
theorem pweigh (x : Pa.Ch) (o : Pa.Cd) (g : Nat) (w : World) (hrow : w.heap[g]? = some (.cells x.vals 69 (0, 0))) (he : x.eq ≤ 1000000000) :
    Calls Try.prog 44 #[.pointer (some ⟨g, 0, none⟩), .agg o.vals] w fun e w' => e = .returned (.tuple #[]) ∧ Pa.T g w w' (Pa.weigh x o).vals := by
  have HT : Hid (Pa.T g w w x.vals) := Pa.T.refl hrow
  obtain ⟨R, hR⟩ : ∃ R, R = Pa.weigh x o := ⟨_, rfl⟩
  rw [← hR]
  unfold Pa.weigh at hR
  obtain ⟨⟨xn, xc, xa, xs, xm⟩, eq⟩ := x
  obtain ⟨on, oc, oa, os, om⟩ := o
  dsimp only [Pa.Ch.vals, Pa.Cd.vals] at *
  have c4 : w.cell? ⟨g, 4, none⟩ = some (.int .i64 (xm : Int)) := cell_of_row w g 4 _ _ _ hrow
  have c5 : w.cell? ⟨g, 5, none⟩ = some (.int .i64 (eq : Int)) := cell_of_row w g 5 _ _ _ hrow
  have c0 : w.cell? ⟨g, 0, none⟩ = some (.int .i64 xn) := cell_of_row w g 0 _ _ _ hrow
  have c1 : w.cell? ⟨g, 1, none⟩ = some (.int .i64 (xc : Int)) := cell_of_row w g 1 _ _ _ hrow
  have c2 : w.cell? ⟨g, 2, none⟩ = some (.int .i64 (xa : Int)) := cell_of_row w g 2 _ _ _ hrow
  have c3 : w.cell? ⟨g, 3, none⟩ = some (.string ⟨xs.toArray⟩) := cell_of_row w g 3 _ _ _ hrow
  have f0 : w.frozen? ⟨g, 0, none⟩ = false := frozen_of_row w g 0 _ _ hrow
  have f1 : w.frozen? ⟨g, 1, none⟩ = false := frozen_of_row w g 1 _ _ hrow
  have f2 : w.frozen? ⟨g, 2, none⟩ = false := frozen_of_row w g 2 _ _ hrow
  have f3 : w.frozen? ⟨g, 3, none⟩ = false := frozen_of_row w g 3 _ _ hrow
  have f4 : w.frozen? ⟨g, 4, none⟩ = false := frozen_of_row w g 4 _ _ hrow
  have f5 : w.frozen? ⟨g, 5, none⟩ = false := frozen_of_row w g 5 _ _ hrow
  have hgs : g < w.heap.size := World.block_lt_of_cell? w _ c5
  clear hrow
  by_cases h0 : eq = 0
  · rw [if_pos h0] at hR
    subst h0
    have HR : Hid _ := hR
    clear hR
    go_enter Try.func44, Try.ntmps44
    go_wp2_with fail
    go_quiet (fail)
    go_wp2
    go_end0
    exact ⟨rfl, by rw [HR.out]; exact ((((((HT.out.alloc _ _).set 0 _).set 1 _).set 2 _).set 3 _).set 4 _).set 5 _⟩
  · rw [if_neg h0] at hR
    have h0' : ((eq : Int) == 0) = false := by rw [beq_eq_false_iff_ne]; omega
    clear h0
    by_cases h1 : om < xm
    · rw [if_pos h1] at hR
      have h1' : (om : Int) < (xm : Int) := by omega
      have HR : Hid _ := hR
      clear hR h1
      go_enter Try.func44, Try.ntmps44
      go_wp2_with fail
      go_quiet (fail)
      go_wp2
      go_end0
      exact ⟨rfl, by rw [HR.out]; exact ((((((HT.out.alloc _ _).set 0 _).set 1 _).set 2 _).set 3 _).set 4 _).set 5 _⟩
    · rw [if_neg h1] at hR
      have h1' : ¬ (om : Int) < (xm : Int) := by omega
      clear h1
      by_cases h2 : om = xm
      · rw [if_pos h2] at hR
        subst h2
        have HR : Hid _ := hR
        clear hR
        go_enter Try.func44, Try.ntmps44
        go_wp2_with fail
        go_quiet (fail)
        go_wp2_with fail
        go_quiet (fail)
        go_wp2
        go_end0
        exact ⟨rfl, by rw [HR.out]; exact (HT.out.alloc _ _).set 5 _⟩
      · rw [if_neg h2] at hR
        have h2' : ((om : Int) == (xm : Int)) = false := by rw [beq_eq_false_iff_ne]; omega
        have HR : Hid _ := hR
        clear hR h2
        go_enter Try.func44, Try.ntmps44
        go_wp2_with fail
        go_quiet (fail)
        go_wp2_with fail
        go_quiet (fail)
        go_wp2
        go_end0
        exact ⟨rfl, by rw [HR.out]; simp only [drewN_more]; exact HT.out.alloc _ _⟩

end Go.Proofs.Ytjebhbopmfcopaa
