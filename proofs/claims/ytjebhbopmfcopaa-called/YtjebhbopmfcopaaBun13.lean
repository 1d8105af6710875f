/-
  THE WALK of the program's choose. Own text of the verifier.
-/
import Derived.Test.YtjebhbopmfcopaaBun11
namespace Go.Proofs.Ytjebhbopmfcopaa
open Go.RowKit

theorem Try.sizeChoice : (Try.prog.info? 69).map (·.size) = some 6 := by kernel_rfl

/-- choose's results: a choice in a block of its own, and the error -/
theorem ch_ret {w : World} {g : Nat} {A : Array Value} {tmps : Array Value} (hp : tmps.getD 8 undef = .pointer (some ⟨g, 0, none⟩)) (hg : w.heap[g]? = some (.cells A 69 (0, 0))) (h8 : A.size = 6) :
    (results Try.f29 tmps).run Try.prog w = .ok (.tuple #[.agg A, tmps.getD 9 undef]) w := by
  rw [results_cell_tmp rfl, hp]
  simp only [asAddr, Sem.run_pure, Result.andThen_ok]
  rw [run_loadVar_row w g 69 69 A (0, 0) _ hg Try.underlying69 rfl (by rw [Try.sizeChoice, h8])]
  rfl

theorem PaB.start (w : World) : PaB w ((w.alloc (.cells Pa.zero.vals 69)).alloc (.cells Pa.zero.vals 69)) Pa.zero := by
  refine ⟨((Below.refl _ _).alloc (Nat.le_refl _) _).alloc (by simp) _, by simp, ?_, ?_⟩
  · rw [Below.heap_alloc _ _ _ (by simp)]
    exact heap_alloc_new w _
  · exact two_heap w _ _

theorem Pa.find_err {b : Int} {s : List UInt8} {n : Int} (hn : Lt.strandB n = true) : Se.findErr n b s = Al.err b s := by
  unfold Se.findErr Al.err
  rw [if_neg (by rw [hn]; simp)]

theorem Pa.along_err {b : Int} {s : List UInt8} (h : Al.err b s = 0) (n : Int) : Al.err b (Al.along s n) = 0 := by
  obtain ⟨h0, h3, hL, _⟩ := Al.err_none h
  unfold Al.err
  rw [if_neg (by omega), if_neg (by omega)]
  unfold Al.along
  split
  · unfold Se.lettersErr at hL ⊢
    split at hL
    · simp at hL
    · next h1 =>
      have h1' : Lt.allL s = true := by simpa using h1
      rw [if_neg (by rw [Lt.rev_allL h1']; simp), Lt.rev_length]
      exact hL
  · exact hL

theorem Pa.err_allL {b : Int} {s : List UInt8} (h : Al.err b s = 0) : Lt.allL s = true := by
  obtain ⟨_, _, hL, _⟩ := Al.err_none h
  unfold Se.lettersErr at hL
  split at hL
  · simp at hL
  · next h1 => simpa using h1

set_option maxRecDepth 100000 in
set_option maxHeartbeats 800000 in
theorem choose_bad (lt : List UInt8) (b : Int) (cs : List Pr) (B : Nat) (p : Value) (la : Option Addr) (ln lc : Nat) (w : World) (hl : lt.length ≤ 140737488355327) (hR : Se.Right cs) (hI : IxAt w B p cs) (hE : Al.err b lt ≠ 0) :
    Calls Try.prog 29 #[.slice la ln lc, p, .string ⟨lt.toArray⟩, .int .i64 b] w fun e w' =>
      e = .returned (.tuple #[.agg Pa.zero.vals, .int .i64 (Al.err b lt)]) ∧ Below w.heap.size w w' := by
  have hp : ∃ bx, p = .pointer (some ⟨bx, 0, none⟩) := by obtain ⟨bx, _, _, h1, _⟩ := hI; exact ⟨bx, h1⟩
  obtain ⟨bx, rfl⟩ := hp
  have HIX : Hid _ := hI
  have HR : Hid _ := hR
  obtain ⟨E, hEE⟩ : ∃ E, E = Al.err b lt := ⟨_, rfl⟩
  have HAC : Hid (∀ W : World, Calls Try.prog 42 #[.string ⟨lt.toArray⟩, .int .i64 1] W fun e w' => e = .returned (.string ⟨lt.toArray⟩) ∧ Below W.heap.size W w') := fun W => palong_any ⟨lt.toArray⟩ 1 W (by rw [str_size]; exact hl) (by decide) (.inl rfl)
  have HFC : Hid (∀ W : World, Below w.heap.size w W → Calls Try.prog 21 #[.pointer (some ⟨bx, 0, none⟩), .string ⟨lt.toArray⟩, .int .i64 1, .int .i64 b] W fun e w' => e = .returned (.tuple #[.slice none 0 0, .int .i64 E]) ∧ Below W.heap.size W w') := fun W hb => by
    refine (ixFind_any cs B _ ⟨lt.toArray⟩ 1 b W (IxAt.below HIX.out hb) HR.out (by rw [str_size]; exact hl)).mono ?_
    rintro e w' ⟨v, rfl, _, hv, hb2⟩
    rw [show (⟨lt.toArray⟩ : ByteArray).data.toList = lt from by simp, Pa.find_err (by decide), ← hEE] at hv ⊢
    rw [hv (by rw [hEE]; exact hE)]
    exact ⟨rfl, hb2⟩
  rw [← hEE] at hE ⊢
  have hne : (E != 0) = true := by rw [bne_iff_ne]; exact hE
  have h4 : ∀ wy : World, (Instr.index 81 (.agg #[.int .i64 1, .int .i64 2, .int .i64 3, .int .i64 4]) (.int .i64 0)).run Try.prog wy = .ok (.int .i64 1) wy := ix_four 0 (by omega)
  clear hEE hE hR hI
  go_enter Try.func29, Try.ntmps29
  go_wp2
  go_loopw [20] (fun i wr => i = .int .i64 0 ∧ Hid (PaB w wr Pa.zero)) (fun _ _ => 0)
  case atStart => exact ⟨rfl, PaB.start w⟩
  case round =>
    obtain ⟨rfl, HAB⟩ := hrel
    go_wp2_with fail
    refine (HAC.out _).mono ?_
    rintro e w1 ⟨rfl, hb1⟩
    have HAB1 : Hid _ := PaB.mono HAB.out hb1
    clear hb1 HAB
    go_wp2_with fail
    refine (HFC.out _ (PaB.below HAB1.out)).mono ?_
    rintro e w2 ⟨rfl, hb2⟩
    have HAB2 : Hid _ := PaB.mono HAB1.out hb2
    have hres := PaB.res HAB2.out
    have r0 : w2.cell? ⟨w.heap.size, 0, none⟩ = some (.int .i64 0) := cell_of_row w2 w.heap.size 0 _ _ _ hres
    have f0 : w2.frozen? ⟨w.heap.size, 0, none⟩ = false := frozen_of_row w2 w.heap.size 0 _ _ hres
    have r1 : w2.cell? ⟨w.heap.size, 1, none⟩ = some (.int .i64 0) := cell_of_row w2 w.heap.size 1 _ _ _ hres
    have f1 : w2.frozen? ⟨w.heap.size, 1, none⟩ = false := frozen_of_row w2 w.heap.size 1 _ _ hres
    have r2 : w2.cell? ⟨w.heap.size, 2, none⟩ = some (.int .i64 0) := cell_of_row w2 w.heap.size 2 _ _ _ hres
    have f2 : w2.frozen? ⟨w.heap.size, 2, none⟩ = false := frozen_of_row w2 w.heap.size 2 _ _ hres
    have r3 : w2.cell? ⟨w.heap.size, 3, none⟩ = some (.string ⟨#[]⟩) := cell_of_row w2 w.heap.size 3 _ _ _ hres
    have f3 : w2.frozen? ⟨w.heap.size, 3, none⟩ = false := frozen_of_row w2 w.heap.size 3 _ _ hres
    have r4 : w2.cell? ⟨w.heap.size, 4, none⟩ = some (.int .i64 0) := cell_of_row w2 w.heap.size 4 _ _ _ hres
    have f4 : w2.frozen? ⟨w.heap.size, 4, none⟩ = false := frozen_of_row w2 w.heap.size 4 _ _ hres
    have r5 : w2.cell? ⟨w.heap.size, 5, none⟩ = some (.int .i64 0) := cell_of_row w2 w.heap.size 5 _ _ _ hres
    have f5 : w2.frozen? ⟨w.heap.size, 5, none⟩ = false := frozen_of_row w2 w.heap.size 5 _ _ hres
    have HTT : Hid (Pa.T w.heap.size w2 w2 Pa.zero.vals) := Pa.T.refl hres
    have HBB : Hid _ := PaB.below HAB2.out
    clear hb2 HAB1 hres
    go_wp2
    have hT := (((((HTT.out.set 0 (.int .i64 0)).set 1 (.int .i64 0)).set 2 (.int .i64 0)).set 3 (.string ⟨#[]⟩)).set 4 (.int .i64 0)).set 5 (.int .i64 0)
    refine bodyPost_ret (ch_ret rfl hT.row rfl) rfl ?_
    exact ⟨rfl, HBB.out.trans (hT.beneath (Nat.le_refl _) (PaB.below HAB2.out).size)⟩

end Go.Proofs.Ytjebhbopmfcopaa
