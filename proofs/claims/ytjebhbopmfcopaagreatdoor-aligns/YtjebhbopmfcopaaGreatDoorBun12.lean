/-
  THE PROGRAM'S Align: the candidates of all strands are weighed. Own text of the verifier.
  THE WALK of the program's choose. Own text of the verifier.
  THE WALK of the program's choose, where there is no error. Own text of the verifier.
  strings.Clone, by the library's contract laid at this program. Own text of the verifier.
  THE WALK of the program's aligned. Own text of the verifier.
-/
import Derived.Test.YtjebhbopmfcopaaGreatDoorBun11
import Derived.Test.YtjebhbopmfcopaaGreatDoorBun8
import Derived.Deep.RegionHeld3
import Derived.Test.YtjebhbopmfcopaaGreatDoorBun1
import Derived.Shelf.LaysM
import Derived.Shelf.Strconv.Clone
import Derived.Test.YtjebhbopmfcopaaGreatDoorBun2
import Derived.Test.YtjebhbopmfcopaaGreatDoorBun3
import Derived.Test.YtjebhbopmfcopaaGreatDoorBun4
import Derived.Test.YtjebhbopmfcopaaGreatDoorBun5
import Derived.Test.YtjebhbopmfcopaaGreatDoorBun6
import Derived.Test.YtjebhbopmfcopaaGreatDoorBun7
import Derived.Test.YtjebhbopmfcopaaGreatDoorBun9
import Derived.Test.YtjebhbopmfcopaaGreatDoorBun10
namespace Go.Proofs.YtjebhbopmfcopaaGreatDoor
open Go.RowKit

/-- the candidate of a place -/
def Pa.cand (n : Int) (s : List UInt8) (cs : List Pr) (q : Nat × Nat) : Pa.Cd := ⟨n, q.1, q.2, s, Al.mis n s ((cs.getD q.1 ([], [])).2.drop q.2)⟩
/-- all candidates of a strand -/
def Pa.strand (r : List UInt8) (b : Int) (cs : List Pr) (x : Pa.Ch) (n : Int) : Pa.Ch := (Se.inAll n b (Al.along r n) cs cs.length).foldl (fun x q => Pa.weigh x (Pa.cand n (Al.along r n) cs q)) x
/-- the strands from 1 to k -/
def Pa.upto (r : List UInt8) (b : Int) (cs : List Pr) : Nat → Pa.Ch
  | 0 => Pa.zero
  | k + 1 => Pa.strand r b cs (Pa.upto r b cs k) ((k + 1 : Nat) : Int)

theorem Pa.weigh_eq (x : Pa.Ch) (o : Pa.Cd) : (Pa.weigh x o).eq ≤ x.eq + 1 := by
  unfold Pa.weigh
  split
  · simp
  · split
    · simp
    · split <;> simp
theorem Pa.fold_eq (n : Int) (s : List UInt8) (cs : List Pr) : ∀ (l : List (Nat × Nat)) (x : Pa.Ch), (l.foldl (fun x q => Pa.weigh x (Pa.cand n s cs q)) x).eq ≤ x.eq + l.length := by
  intro l
  induction l with
  | nil => intro x; simp
  | cons q l ih =>
    intro x
    have h1 := ih (Pa.weigh x (Pa.cand n s cs q))
    have h2 := Pa.weigh_eq x (Pa.cand n s cs q)
    simp only [List.foldl_cons, List.length_cons]
    omega
theorem Pa.places_few {cs : List Pr} (h : Se.Right cs) (n b : Int) (S : List UInt8) : (Se.inAll n b S cs cs.length).length ≤ 90000 := by
  have h1 := Se.inAll_length n b S cs 4096 h.len cs.length
  have h2 := h.few
  have h3 : cs.length * (4096 + 1) ≤ 16 * (4096 + 1) := Nat.mul_le_mul_right _ h2
  omega
theorem Pa.upto_eq {cs : List Pr} (h : Se.Right cs) (r : List UInt8) (b : Int) : ∀ k, (Pa.upto r b cs k).eq ≤ k * 90000 := by
  intro k
  induction k with
  | zero => simp [Pa.upto, Pa.zero]
  | succ k ih =>
    have h1 := Pa.fold_eq ((k + 1 : Nat) : Int) (Al.along r ((k + 1 : Nat) : Int)) cs (Se.inAll ((k + 1 : Nat) : Int) b (Al.along r ((k + 1 : Nat) : Int)) cs cs.length) (Pa.upto r b cs k)
    have h2 := Pa.places_few h ((k + 1 : Nat) : Int) b (Al.along r ((k + 1 : Nat) : Int))
    show (Pa.strand r b cs (Pa.upto r b cs k) ((k + 1 : Nat) : Int)).eq ≤ _
    unfold Pa.strand
    omega

/-- how it stands within choose -/
structure PaB (w wr : World) (x : Pa.Ch) : Prop where
  below : Below w.heap.size w wr
  size : w.heap.size + 2 ≤ wr.heap.size
  res : wr.heap[w.heap.size]? = some (.cells Pa.zero.vals 103 (0, 0))
  box : wr.heap[w.heap.size + 1]? = some (.cells x.vals 103 (0, 0))
theorem PaB.mono {w wr wr' : World} {x : Pa.Ch} (h : PaB w wr x) (hb : Below wr.heap.size wr wr') : PaB w wr' x := by
  have h2 := h.size
  exact ⟨h.below.trans (hb.mono (by omega)), Nat.le_trans h.size hb.size, (hb.block _ (by omega)).trans h.res, (hb.block _ (by omega)).trans h.box⟩
theorem PaB.turn {w wr wr' : World} {x y : Pa.Ch} (h : PaB w wr x) (t : Pa.T (w.heap.size + 1) wr wr' y.vals) : PaB w wr' y := by
  have h2 := h.size
  exact ⟨h.below.trans (t.beneath (by omega) (by omega)), Nat.le_trans h.size t.size, (t.other _ (by omega) (by omega)).trans h.res, t.row⟩

/-- places that were found, as they lie -/
def Pa.Pl (W : World) (lo : Nat) (va : Option Addr) (l : List (Nat × Nat)) : Prop :=
  ∀ j (h : j < l.length), ∃ gv, va = some ⟨gv, 0, none⟩ ∧ lo ≤ gv ∧ gv < W.heap.size ∧ W.cell? ⟨gv, j * 2, none⟩ = some (.int .i64 (l[j].1 : Int)) ∧ W.cell? ⟨gv, j * 2 + 1, none⟩ = some (.int .i64 (l[j].2 : Int))
theorem Pa.Pl.of_own {W : World} {lo : Nat} {va : Option Addr} {vc : Nat} {l : List (Nat × Nat)} (h : W.ownsRow lo 78 2 (.slice va l.length vc) l.length (Se.pls l)) : Pa.Pl W lo va l := by
  intro j hj
  obtain ⟨g, c, hv, h1, h2⟩ := own_pos h (by omega)
  simp only [Value.slice.injEq, true_and] at hv
  obtain ⟨rfl, rfl⟩ := hv
  obtain ⟨p0, p1⟩ := own_place h j hj
  exact ⟨g, rfl, h1, h2, p0, p1⟩
theorem Pa.cell_same {w w' : World} {p : Addr} (h : w'.heap[p.block]? = w.heap[p.block]?) : w'.cell? p = w.cell? p := by
  unfold World.cell?
  rw [h]
theorem Pa.Pl.mono {W W' : World} {lo : Nat} {va : Option Addr} {l : List (Nat × Nat)} (h : Pa.Pl W lo va l) (hb : Below W.heap.size W W') : Pa.Pl W' lo va l := by
  intro j hj
  obtain ⟨g, h1, h2, h3, h4, h5⟩ := h j hj
  exact ⟨g, h1, h2, Nat.lt_of_lt_of_le h3 hb.size, (Pa.cell_same (hb.block g h3)).trans h4, (Pa.cell_same (hb.block g h3)).trans h5⟩
theorem Pa.Pl.turn {W W' : World} {lo g : Nat} {va : Option Addr} {l : List (Nat × Nat)} {A : Array Value} (h : Pa.Pl W lo va l) (t : Pa.T g W W' A) (hg : g < lo) : Pa.Pl W' lo va l := by
  intro j hj
  obtain ⟨gv, h1, h2, h3, h4, h5⟩ := h j hj
  exact ⟨gv, h1, h2, Nat.lt_of_lt_of_le h3 t.size, (Pa.cell_same (t.other gv h3 (by omega))).trans h4, (Pa.cell_same (t.other gv h3 (by omega))).trans h5⟩

theorem ix_four (k : Nat) (h : k < 4) (wy : World) : (Instr.index 37 (.agg #[.int .i64 1, .int .i64 2, .int .i64 3, .int .i64 4]) (.int .i64 (k : Int))).run Tryz.prog wy = .ok (.int .i64 ((k : Int) + 1)) wy := by
  obtain rfl | rfl | rfl | rfl : k = 0 ∨ k = 1 ∨ k = 2 ∨ k = 3 := by omega
  all_goals first | kernel_rfl | go_simp

end Go.Proofs.YtjebhbopmfcopaaGreatDoor

namespace Go.Proofs.YtjebhbopmfcopaaGreatDoor
open Go.RowKit

theorem Tryz.sizeChoice : (Tryz.prog.info? 103).map (·.size) = some 6 := by kernel_rfl

/-- choose's results: a choice in a block of its own, and the error -/
theorem ch_ret {w : World} {g : Nat} {A : Array Value} {tmps : Array Value} (hp : tmps.getD 8 undef = .pointer (some ⟨g, 0, none⟩)) (hg : w.heap[g]? = some (.cells A 103 (0, 0))) (h8 : A.size = 6) :
    (results Tryz.f41 tmps).run Tryz.prog w = .ok (.tuple #[.agg A, tmps.getD 9 undef]) w := by
  rw [results_cell_tmp rfl, hp]
  simp only [asAddr, Sem.run_pure, Result.andThen_ok]
  rw [run_loadVar_row w g 103 103 A (0, 0) _ hg Tryz.underlying103 rfl (by rw [Tryz.sizeChoice, h8])]
  rfl

theorem PaB.start (w : World) : PaB w ((w.alloc (.cells Pa.zero.vals 103)).alloc (.cells Pa.zero.vals 103)) Pa.zero := by
  refine ⟨((Below.refl _ _).alloc (Nat.le_refl _) _).alloc (by simp) _, by simp, ?_, ?_⟩
  · rw [Below.heap_alloc _ _ _ (by simp)]
    exact heap_alloc_new w _
  · exact two_heap w _ _

theorem Pa.find_err {b : Int} {s : List UInt8} {n : Int} (hn : Lt.strandB n = true) : Se.findErr n b s = Al.err b s := by
  unfold Se.findErr Al.err
  rw [if_neg (by rw [hn]; simp)]

theorem Pa.along_err {b : Int} {s : List UInt8} (h : Al.err b s = 0) (n : Int) : Al.err b (Al.along s n) = 0 := by
  obtain ⟨h0, h3, hL, _⟩ := Al.err_none h
  unfold Al.err
  rw [if_neg (by omega), if_neg (by omega)]
  unfold Al.along
  split
  · unfold Se.lettersErr at hL ⊢
    split at hL
    · simp at hL
    · next h1 =>
      have h1' : Lt.allL s = true := by simpa using h1
      rw [if_neg (by rw [Lt.rev_allL h1']; simp), Lt.rev_length]
      exact hL
  · exact hL

theorem Pa.err_allL {b : Int} {s : List UInt8} (h : Al.err b s = 0) : Lt.allL s = true := by
  obtain ⟨_, _, hL, _⟩ := Al.err_none h
  unfold Se.lettersErr at hL
  split at hL
  · simp at hL
  · next h1 => simpa using h1

set_option maxRecDepth 100000 in
set_option maxHeartbeats 800000 in
theorem choose_bad (lt : List UInt8) (b : Int) (cs : List Pr) (B : Nat) (p : Value) (la : Option Addr) (ln lc : Nat) (w : World) (hl : lt.length ≤ 140737488355327) (hR : Se.Right cs) (hI : IxAt w B p cs) (hE : Al.err b lt ≠ 0) :
    Calls Tryz.prog 41 #[.slice la ln lc, p, .string ⟨lt.toArray⟩, .int .i64 b] w fun e w' =>
      e = .returned (.tuple #[.agg Pa.zero.vals, .int .i64 (Al.err b lt)]) ∧ Below w.heap.size w w' := by
  have hp : ∃ bx, p = .pointer (some ⟨bx, 0, none⟩) := by obtain ⟨bx, _, _, h1, _⟩ := hI; exact ⟨bx, h1⟩
  obtain ⟨bx, rfl⟩ := hp
  have HIX : Hid _ := hI
  have HR : Hid _ := hR
  obtain ⟨E, hEE⟩ : ∃ E, E = Al.err b lt := ⟨_, rfl⟩
  have HAC : Hid (∀ W : World, Calls Tryz.prog 85 #[.string ⟨lt.toArray⟩, .int .i64 1] W fun e w' => e = .returned (.string ⟨lt.toArray⟩) ∧ Below W.heap.size W w') := fun W => palong_any ⟨lt.toArray⟩ 1 W (by rw [str_size]; exact hl) (by decide) (.inl rfl)
  have HFC : Hid (∀ W : World, Below w.heap.size w W → Calls Tryz.prog 86 #[.pointer (some ⟨bx, 0, none⟩), .string ⟨lt.toArray⟩, .int .i64 1, .int .i64 b] W fun e w' => e = .returned (.tuple #[.slice none 0 0, .int .i64 E]) ∧ Below W.heap.size W w') := fun W hb => by
    refine (ixFind_any cs B _ ⟨lt.toArray⟩ 1 b W (IxAt.below HIX.out hb) HR.out (by rw [str_size]; exact hl)).mono ?_
    rintro e w' ⟨v, rfl, _, hv, hb2⟩
    rw [show (⟨lt.toArray⟩ : ByteArray).data.toList = lt from by simp, Pa.find_err (by decide), ← hEE] at hv ⊢
    rw [hv (by rw [hEE]; exact hE)]
    exact ⟨rfl, hb2⟩
  rw [← hEE] at hE ⊢
  have hne : (E != 0) = true := by rw [bne_iff_ne]; exact hE
  have h4 : ∀ wy : World, (Instr.index 37 (.agg #[.int .i64 1, .int .i64 2, .int .i64 3, .int .i64 4]) (.int .i64 0)).run Tryz.prog wy = .ok (.int .i64 1) wy := ix_four 0 (by omega)
  clear hEE hE hR hI
  go_enter Tryz.func41, Tryz.ntmps41
  go_wp2
  go_loopw [20] (fun i wr => i = .int .i64 0 ∧ Hid (PaB w wr Pa.zero)) (fun _ _ => 0)
  case atStart => exact ⟨rfl, PaB.start w⟩
  case round =>
    obtain ⟨rfl, HAB⟩ := hrel
    go_wp2_with fail
    refine (HAC.out _).mono ?_
    rintro e w1 ⟨rfl, hb1⟩
    have HAB1 : Hid _ := PaB.mono HAB.out hb1
    clear hb1 HAB
    go_wp2_with fail
    refine (HFC.out _ (PaB.below HAB1.out)).mono ?_
    rintro e w2 ⟨rfl, hb2⟩
    have HAB2 : Hid _ := PaB.mono HAB1.out hb2
    have hres := PaB.res HAB2.out
    have r0 : w2.cell? ⟨w.heap.size, 0, none⟩ = some (.int .i64 0) := cell_of_row w2 w.heap.size 0 _ _ _ hres
    have f0 : w2.frozen? ⟨w.heap.size, 0, none⟩ = false := frozen_of_row w2 w.heap.size 0 _ _ hres
    have r1 : w2.cell? ⟨w.heap.size, 1, none⟩ = some (.int .i64 0) := cell_of_row w2 w.heap.size 1 _ _ _ hres
    have f1 : w2.frozen? ⟨w.heap.size, 1, none⟩ = false := frozen_of_row w2 w.heap.size 1 _ _ hres
    have r2 : w2.cell? ⟨w.heap.size, 2, none⟩ = some (.int .i64 0) := cell_of_row w2 w.heap.size 2 _ _ _ hres
    have f2 : w2.frozen? ⟨w.heap.size, 2, none⟩ = false := frozen_of_row w2 w.heap.size 2 _ _ hres
    have r3 : w2.cell? ⟨w.heap.size, 3, none⟩ = some (.string ⟨#[]⟩) := cell_of_row w2 w.heap.size 3 _ _ _ hres
    have f3 : w2.frozen? ⟨w.heap.size, 3, none⟩ = false := frozen_of_row w2 w.heap.size 3 _ _ hres
    have r4 : w2.cell? ⟨w.heap.size, 4, none⟩ = some (.int .i64 0) := cell_of_row w2 w.heap.size 4 _ _ _ hres
    have f4 : w2.frozen? ⟨w.heap.size, 4, none⟩ = false := frozen_of_row w2 w.heap.size 4 _ _ hres
    have r5 : w2.cell? ⟨w.heap.size, 5, none⟩ = some (.int .i64 0) := cell_of_row w2 w.heap.size 5 _ _ _ hres
    have f5 : w2.frozen? ⟨w.heap.size, 5, none⟩ = false := frozen_of_row w2 w.heap.size 5 _ _ hres
    have HTT : Hid (Pa.T w.heap.size w2 w2 Pa.zero.vals) := Pa.T.refl hres
    have HBB : Hid _ := PaB.below HAB2.out
    clear hb2 HAB1 hres
    go_wp2
    have hT := (((((HTT.out.set 0 (.int .i64 0)).set 1 (.int .i64 0)).set 2 (.int .i64 0)).set 3 (.string ⟨#[]⟩)).set 4 (.int .i64 0)).set 5 (.int .i64 0)
    refine bodyPost_ret (ch_ret rfl hT.row rfl) rfl ?_
    exact ⟨rfl, HBB.out.trans (hT.beneath (Nat.le_refl _) (PaB.below HAB2.out).size)⟩

end Go.Proofs.YtjebhbopmfcopaaGreatDoor

namespace Go.Proofs.YtjebhbopmfcopaaGreatDoor
open Go.RowKit

set_option maxRecDepth 100000 in
set_option maxHeartbeats 1600000 in
theorem choose_good (lt : List UInt8) (b : Int) (cs : List Pr) (B : Nat) (p : Value) (ad : Addr) (cc : Nat) (w : World) (hR : Se.Right cs) (hI : IxAt w B p cs) (hE : Al.err b lt = 0) (hsrc : ∀ j u, (Prs cs)[j]? = some u → w.cell? (ad.add j) = some u) :
    Calls Tryz.prog 41 #[.slice (some ad) cs.length cc, p, .string ⟨lt.toArray⟩, .int .i64 b] w fun e w' =>
      e = .returned (.tuple #[.agg (Pa.upto lt b cs 4).vals, .int .i64 0]) ∧ Below w.heap.size w w' := by
  have hp : ∃ bx, p = .pointer (some ⟨bx, 0, none⟩) := by obtain ⟨bx, _, _, h1, _⟩ := hI; exact ⟨bx, h1⟩
  obtain ⟨bx, rfl⟩ := hp
  obtain ⟨hb0, hb3, hL0, hl128⟩ := Al.err_none hE
  have HIX : Hid (IxAt w B (.pointer (some ⟨bx, 0, none⟩)) cs) := hI
  have HR : Hid _ := hR
  have HSRC : Hid _ := hsrc
  have HE : Hid _ := hE
  have HEQ : Hid _ := Pa.upto_eq hR lt b
  have hfew := hR.few
  have hpos := hR.pos
  have HFIN : Hid (∀ x : Pa.Ch, x = Pa.upto lt b cs 4 → (Pa.upto lt b cs 4).vals = x.vals) := fun x h => by rw [h]
  obtain ⟨FV, hFV⟩ : ∃ FV, FV = (Pa.upto lt b cs 4).vals := ⟨_, rfl⟩
  rw [← hFV] at HFIN ⊢
  clear hFV hR hI hE hsrc hL0
  go_enter Tryz.func41, Tryz.ntmps41
  go_wp2
  go_loopw [20] (fun i wr => ∃ (k : Nat) (x : Pa.Ch), k ≤ 4 ∧ i = .int .i64 (k : Int) ∧ Hid (x = Pa.upto lt b cs k) ∧ Hid (PaB w wr x)) (fun i _ => 4 - (intOf i).toNat)
  case atStart => exact ⟨0, Pa.zero, by omega, rfl, rfl, PaB.start w⟩
  case round =>
    obtain ⟨k, x, hk, rfl, HST, HAB⟩ := hrel
    by_cases hlt : k < 4
    · have hlt' : (k : Int) < 4 := by omega
      have h4 := ix_four k hlt
      obtain ⟨n, hn⟩ : ∃ n : Int, n = ((k + 1 : Nat) : Int) := ⟨_, rfl⟩
      have hnn : n = (k : Int) + 1 := by omega
      have HNS : Hid (Lt.strandB n = true) := by show _ = _; rw [Lt.strandB, Bool.and_eq_true]; exact ⟨decide_eq_true (by omega), decide_eq_true (by omega)⟩
      obtain ⟨S, hS⟩ : ∃ S, S = Al.along lt n := ⟨_, rfl⟩
      have hSl : S.length ≤ 128 := by rw [hS, Al.along_length]; exact hl128
      obtain ⟨PL, hPL⟩ : ∃ PL, PL = Se.inAll n b S cs cs.length := ⟨_, rfl⟩
      have hPLn : PL.length ≤ 90000 := by rw [hPL]; exact Pa.places_few HR.out n b S
      have HMEM : Hid (∀ q ∈ PL, q.1 < cs.length ∧ ∃ y, cs[q.1]? = some y ∧ q.2 + S.length ≤ y.2.length) := fun q hq => by
        rw [hPL] at hq
        obtain ⟨h1, y, h2, h3, _⟩ := Se.inAll_mem n b S cs cs.length q hq
        exact ⟨h1, y, h2, h3⟩
      have HNEXT : Hid (Pa.upto lt b cs (k + 1) = PL.foldl (fun x q => Pa.weigh x (Pa.cand n S cs q)) x) := by
        show Pa.strand lt b cs (Pa.upto lt b cs k) ((k + 1 : Nat) : Int) = _
        rw [← hn, ← HST.out, Pa.strand, ← hS, ← hPL]
      have hxe : x.eq ≤ 360000 := by have := HEQ.out k; rw [← HST.out] at this; omega
      have HAC : Hid (∀ W : World, Calls Tryz.prog 85 #[.string ⟨lt.toArray⟩, .int .i64 ((k : Int) + 1)] W fun e w' => e = .returned (.string ⟨S.toArray⟩) ∧ Below W.heap.size W w') := fun W => by
        have h := palong_any ⟨lt.toArray⟩ n W (by rw [str_size]; omega) HNS.out (.inr (by rw [show (⟨lt.toArray⟩ : ByteArray).data.toList = lt from by simp]; exact Pa.err_allL HE.out))
        rw [show (⟨lt.toArray⟩ : ByteArray).data.toList = lt from by simp, ← hS, hnn] at h
        exact h
      have HFC : Hid (∀ W : World, Below w.heap.size w W → Calls Tryz.prog 86 #[.pointer (some ⟨bx, 0, none⟩), .string ⟨S.toArray⟩, .int .i64 ((k : Int) + 1), .int .i64 b] W fun e w' => ∃ v, e = .returned (.tuple #[v, .int .i64 0]) ∧ w'.ownsRow W.heap.size 78 2 v PL.length (Se.pls PL) ∧ Below W.heap.size W w') := fun W hb => by
        have h := ixFind_any cs B _ ⟨S.toArray⟩ n b W (IxAt.below HIX.out hb) HR.out (by rw [str_size]; omega)
        have hz : Se.findErr n b S = 0 := by rw [Pa.find_err HNS.out, hS]; exact Pa.along_err HE.out n
        have ho : Se.findOut n b S cs = PL := by rw [hPL, Se.findOut, if_pos hz]
        rw [show (⟨S.toArray⟩ : ByteArray).data.toList = S from by simp, hz, ho, hnn] at h
        exact h.mono fun e w' ⟨v, h1, h2, _, h3⟩ => ⟨v, h1, h2, h3⟩
      have HNE : Hid _ := hnn
      clear HST hS hPL hnn hn
      go_wp2_with fail
      refine (HAC.out _).mono ?_
      rintro e w1 ⟨rfl, hb1⟩
      have HAB1 : Hid _ := PaB.mono HAB.out hb1
      clear hb1 HAB
      go_wp2_with fail
      refine (HFC.out _ (PaB.below HAB1.out)).mono ?_
      rintro e w2 ⟨v, rfl, ho, hb2⟩
      obtain ⟨va, vcap, hv⟩ := own_form ho
      subst hv
      have HAB2 : Hid _ := PaB.mono HAB1.out hb2
      have HPL2 : Hid (Pa.Pl w2 (w.heap.size + 2) va PL) := Pa.Pl.of_own (own_base ho (PaB.size HAB1.out))
      clear hb2 ho HAB1
      go_wp2
      go_loopw [40] (fun i wr2 => ∃ (q : Nat) (x2 : Pa.Ch), q ≤ PL.length ∧ i = .int .i64 (q : Int) ∧ Hid (x2 = (PL.take q).foldl (fun x q => Pa.weigh x (Pa.cand n S cs q)) x) ∧ Hid (PaB w wr2 x2) ∧ Hid (Pa.Pl wr2 (w.heap.size + 2) va PL)) (fun i _ => PL.length - (intOf i).toNat)
      case atStart => exact ⟨0, x, Nat.zero_le _, rfl, by simp [Hid], HAB2.out, HPL2.out⟩
      case round =>
        clear HAB2 HPL2
        obtain ⟨q, x2, hq, rfl, HST3, HAB, HPL⟩ := hrel
        by_cases hqlt : q < PL.length
        · have hq' : (q : Int) < (PL.length : Int) := by omega
          obtain ⟨y, hy⟩ : ∃ y, y = PL[q] := ⟨_, rfl⟩
          have HSTEP : Hid ((PL.take (q + 1)).foldl (fun x q => Pa.weigh x (Pa.cand n S cs q)) x = Pa.weigh x2 (Pa.cand n S cs y)) := by
            show _ = _
            rw [List.take_succ_eq_append_getElem hqlt, List.foldl_append, ← HST3.out, hy]
            first | done | rfl
          have hx2 : x2.eq ≤ 1000000000 := by
            have := Pa.fold_eq n S cs (PL.take q) x
            rw [← HST3.out, List.length_take] at this
            omega
          obtain ⟨hc1, z, hz, hpx⟩ := HMEM.out y (by rw [hy]; exact List.getElem_mem _)
          have hze : z = cs[y.1] := by rw [List.getElem?_eq_getElem hc1] at hz; exact (Option.some.inj hz).symm
          have hzl : z.2.length ≤ 4096 := HR.out.len z (by rw [hze]; exact List.getElem_mem _)
          obtain ⟨gv, hva, hlo, hgs, p0, p1⟩ := HPL.out q hqlt
          rw [← hy] at p0 p1
          have hsw := src_keep HSRC.out (PaB.below HAB.out)
          have s1 := src_pair hsw y.1 hc1
          rw [← hze] at s1
          have hc1' : (y.1 : Int) < (cs.length : Int) := by omega
          obtain ⟨c, p⟩ := y
          dsimp only at p0 p1 s1 hc1 hc1' hpx hz HSTEP
          have hzs : (⟨z.2.toArray⟩ : ByteArray).size = z.2.length := str_size z.2
          have hp2 : (p : Int) ≤ (z.2.length : Int) := by omega
          obtain ⟨m, hm⟩ : ∃ m, m = Al.mis n S (z.2.drop p) := ⟨_, rfl⟩
          have hcand : Pa.cand n S cs (c, p) = ⟨(k : Int) + 1, c, p, S, m⟩ := by
            unfold Pa.cand
            rw [List.getD_eq_getElem?_getD, hz, hm, HNE.out]
            rfl
          rw [hcand] at HSTEP
          have HLC : Hid (∀ o, Calls Tryz.prog 87 #[.slice (some ad) cs.length cc, .agg #[.int .i64 (c : Int), .int .i64 (p : Int)], .int .i64 (S.length : Int)] (wr.alloc o) fun e w' => e = .returned (.bool true) ∧ Below (wr.alloc o).heap.size (wr.alloc o) w') := fun o => by
            refine plies_yes cs.length cc ad c p S.length z.2 _ hc1 hpx (by omega) ?_
            exact (((Below.refl _ _).alloc (Nat.le_refl _) o).cell (World.block_lt_of_cell? wr _ s1)).trans s1
          have HS1 : Hid _ := s1
          subst hva
          clear hcand hz hze hsw s1 HST3
          go_wp2_with fail
          refine (HLC.out _).mono ?_
          rintro e w3 ⟨rfl, hb3⟩
          have hb3' : Below wr.heap.size wr w3 := ((Below.refl _ _).alloc (Nat.le_refl _) _).trans (hb3.mono (by simp))
          have s1 : w3.cell? ⟨(ad.add (c * 2)).block, (ad.add (c * 2)).off + 1, none⟩ = some (.string ⟨z.2.toArray⟩) := by
            rw [addr_next]
            exact (hb3'.cell (World.block_lt_of_cell? wr _ HS1.out)).trans HS1.out
          have q0 : w3.cell? ⟨wr.heap.size, 0, none⟩ = some (.int .i64 (c : Int)) := (hb3.cell (p := ⟨wr.heap.size, 0, none⟩) (by simp)).trans (cell_of_row _ _ 0 _ _ _ (heap_alloc_new wr _))
          have q1 : w3.cell? ⟨wr.heap.size, 1, none⟩ = some (.int .i64 (p : Int)) := (hb3.cell (p := ⟨wr.heap.size, 1, none⟩) (by simp)).trans (cell_of_row _ _ 1 _ _ _ (heap_alloc_new wr _))
          have HAB3 : Hid _ := PaB.mono HAB.out hb3'
          have HPL3 : Hid _ := Pa.Pl.mono HPL.out hb3'
          clear HAB HPL hb3 hb3' HS1 HLC p0 p1
          go_wp2_with fail
          go_quiet (fail)
          go_wp2_with fail
          have hb4 : Below w3.heap.size w3 (w3.drewN nq) := below_drewN (Below.refl _ _) nq
          have q0' := (hb4.cell (World.block_lt_of_cell? w3 _ q0)).trans q0
          have q1' := (hb4.cell (World.block_lt_of_cell? w3 _ q1)).trans q1
          have HAB4 : Hid _ := PaB.mono HAB3.out hb4
          have HPL4 : Hid _ := Pa.Pl.mono HPL3.out hb4
          clear q0 q1 HAB3 HPL3 s1 hb4
          generalize w3.drewN nq = w4 at *
          have HMC : Hid (∀ W : World, Calls Tryz.prog 89 #[.string ⟨S.toArray⟩, .string ((⟨z.2.toArray⟩ : ByteArray).extract p z.2.length), .int .i64 ((k : Int) + 1)] W fun e w' => e = .returned (.int .i64 (m : Int)) ∧ ∃ j, w' = W.drewN j) := fun W => by
            have h := pmis_any ⟨S.toArray⟩ ((⟨z.2.toArray⟩ : ByteArray).extract p z.2.length) n W HNS.out (by rw [str_size]; omega) (by rw [ByteArray.size_extract, hzs, str_size]; omega) (by rw [ByteArray.size_extract, hzs]; omega)
            have e : Al.mis n (⟨S.toArray⟩ : ByteArray).data.toList ((⟨z.2.toArray⟩ : ByteArray).extract p z.2.length).data.toList = m := by
              rw [extract_piece]
              show Al.mis n S (Tx.piece ⟨z.2.toArray⟩ p z.2.length) = m
              rw [Tx.piece, Al.mis_short _ _ _ _ (by omega), hm]
            rw [e, HNE.out] at h
            exact h
          have HWC : Hid (∀ W : World, Below w4.heap.size w4 W → Calls Tryz.prog 88 #[.pointer (some ⟨w.heap.size + 1, 0, none⟩), .agg #[.int .i64 ((k : Int) + 1), .int .i64 (c : Int), .int .i64 (p : Int), .string ⟨S.toArray⟩, .int .i64 (m : Int)]] W fun e w' => e = .returned (.tuple #[]) ∧ Hid (PaB w w' (Pa.weigh x2 ⟨(k : Int) + 1, c, p, S, m⟩)) ∧ Hid (Pa.Pl w' (w.heap.size + 2) (some ⟨gv, 0, none⟩) PL)) := fun W hb => by
            have h1 := PaB.mono HAB4.out hb
            refine (pweigh x2 ⟨(k : Int) + 1, c, p, S, m⟩ (w.heap.size + 1) W h1.box hx2).mono ?_
            rintro e w' ⟨rfl, hT⟩
            exact ⟨rfl, h1.turn hT, (Pa.Pl.mono HPL4.out hb).turn hT (by omega)⟩
          clear HAB4 HPL4 hm hx2
          go_region_with (first
            | (go_at_call 89; refine (HMC.out _).mono ?_; rintro e w5 ⟨rfl, j5, hw5⟩; subst w5)
            | (go_at_call 88; refine (HWC.out _ (by first | exact Below.refl _ _ | exact below_drewN (Below.refl _ _) _ | exact Below.drew (below_drewN (Below.refl _ _) _) | exact Below.drew (Below.drew (below_drewN (Below.refl _ _) _)))).mono ?_; rintro e w6 ⟨rfl, HAB6, HPL6⟩))
          all_goals
            go_wp2
            go_roundw
            case rel => exact ⟨q + 1, _, by omega, by go_num, HSTEP.out.symm, HAB6.out, HPL6.out⟩
            case measure => simp [intOf]; omega
        · have hqe : q = PL.length := by omega
          have hqlt' : ¬ (q : Int) < (PL.length : Int) := by omega
          have HST4 : Hid (x2 = Pa.upto lt b cs (k + 1)) := by show _ = _; rw [HNEXT.out, HST3.out, hqe, List.take_length]
          clear hqe
          go_wp2
          go_roundw
          case rel => exact ⟨k + 1, x2, by omega, by go_num, HST4.out, HAB.out⟩
          case measure => simp [intOf]; omega
    · have hk4 : k = 4 := by omega
      have hlt' : ¬ (k : Int) < 4 := by omega
      have HV : Hid (FV = x.vals) := HFIN.out x (by rw [HST.out, hk4])
      have hbox := PaB.box HAB.out
      have hres := PaB.res HAB.out
      have m0 : wr.cell? ⟨w.heap.size + 1, 0, none⟩ = some (.int .i64 x.b.n) := cell_of_row wr (w.heap.size + 1) 0 _ _ _ hbox
      have m1 : wr.cell? ⟨w.heap.size + 1, 1, none⟩ = some (.int .i64 (x.b.c : Int)) := cell_of_row wr (w.heap.size + 1) 1 _ _ _ hbox
      have m2 : wr.cell? ⟨w.heap.size + 1, 2, none⟩ = some (.int .i64 (x.b.a : Int)) := cell_of_row wr (w.heap.size + 1) 2 _ _ _ hbox
      have m3 : wr.cell? ⟨w.heap.size + 1, 3, none⟩ = some (.string ⟨x.b.s.toArray⟩) := cell_of_row wr (w.heap.size + 1) 3 _ _ _ hbox
      have m4 : wr.cell? ⟨w.heap.size + 1, 4, none⟩ = some (.int .i64 (x.b.m : Int)) := cell_of_row wr (w.heap.size + 1) 4 _ _ _ hbox
      have m5 : wr.cell? ⟨w.heap.size + 1, 5, none⟩ = some (.int .i64 (x.eq : Int)) := cell_of_row wr (w.heap.size + 1) 5 _ _ _ hbox
      have r0 : wr.cell? ⟨w.heap.size, 0, none⟩ = some (.int .i64 0) := cell_of_row wr w.heap.size 0 _ _ _ hres
      have f0 : wr.frozen? ⟨w.heap.size, 0, none⟩ = false := frozen_of_row wr w.heap.size 0 _ _ hres
      have r1 : wr.cell? ⟨w.heap.size, 1, none⟩ = some (.int .i64 0) := cell_of_row wr w.heap.size 1 _ _ _ hres
      have f1 : wr.frozen? ⟨w.heap.size, 1, none⟩ = false := frozen_of_row wr w.heap.size 1 _ _ hres
      have r2 : wr.cell? ⟨w.heap.size, 2, none⟩ = some (.int .i64 0) := cell_of_row wr w.heap.size 2 _ _ _ hres
      have f2 : wr.frozen? ⟨w.heap.size, 2, none⟩ = false := frozen_of_row wr w.heap.size 2 _ _ hres
      have r3 : wr.cell? ⟨w.heap.size, 3, none⟩ = some (.string ⟨#[]⟩) := cell_of_row wr w.heap.size 3 _ _ _ hres
      have f3 : wr.frozen? ⟨w.heap.size, 3, none⟩ = false := frozen_of_row wr w.heap.size 3 _ _ hres
      have r4 : wr.cell? ⟨w.heap.size, 4, none⟩ = some (.int .i64 0) := cell_of_row wr w.heap.size 4 _ _ _ hres
      have f4 : wr.frozen? ⟨w.heap.size, 4, none⟩ = false := frozen_of_row wr w.heap.size 4 _ _ hres
      have r5 : wr.cell? ⟨w.heap.size, 5, none⟩ = some (.int .i64 0) := cell_of_row wr w.heap.size 5 _ _ _ hres
      have f5 : wr.frozen? ⟨w.heap.size, 5, none⟩ = false := frozen_of_row wr w.heap.size 5 _ _ hres
      have HTT : Hid (Pa.T w.heap.size wr wr Pa.zero.vals) := Pa.T.refl hres
      have HBB : Hid _ := PaB.below HAB.out
      clear hbox hres hk4 HST HAB
      go_wp2
      have hT := (((((HTT.out.set 0 (.int .i64 x.b.n)).set 1 (.int .i64 (x.b.c : Int))).set 2 (.int .i64 (x.b.a : Int))).set 3 (.string ⟨x.b.s.toArray⟩)).set 4 (.int .i64 (x.b.m : Int))).set 5 (.int .i64 (x.eq : Int))
      refine bodyPost_ret (ch_ret rfl hT.row rfl) rfl ?_
      exact ⟨by rw [HV.out]; rfl, HBB.out.trans (hT.beneath (Nat.le_refl _) HBB.out.size)⟩

end Go.Proofs.YtjebhbopmfcopaaGreatDoor

namespace Go.Proofs.YtjebhbopmfcopaaGreatDoor
open Go.RowKit

def Tryz.renClone : Go.Shelf.Ren := ⟨fun | 316 => 90 | n => n, fun | 9 => 9 | 3 => 3 | 4 => 4 | 37 => 43 | 0 => 0 | 127 => 209 | 5 => 5 | n => n, fun | n => n⟩
theorem Tryz.laysClone : Go.Proofs.LaysM.n316 Tryz.prog Tryz.renClone := {
  mixed := by kernel_rfl
  f316 := Tryz.func90.trans (congrArg some (by kernel_rfl))
  t0 := Tryz.underlying0
  a0 := Tryz.isAgg0
  z0 := Tryz.sizeOf0
  v0 := Tryz.zeroValue0
  t3 := Tryz.underlying3
  a3 := Tryz.isAgg3
  z3 := Tryz.sizeOf3
  v3 := Tryz.zeroValue3
  t4 := Tryz.underlying4
  a4 := Tryz.isAgg4
  z4 := Tryz.sizeOf4
  v4 := Tryz.zeroValue4
  t9 := Tryz.underlying9
  a9 := Tryz.isAgg9
  z9 := Tryz.sizeOf9
  v9 := Tryz.zeroValue9
  t37 := Tryz.underlying43
  a37 := Tryz.isAgg43
  z37 := Tryz.sizeOf43
  v37 := Tryz.zeroValue43
  t127 := Tryz.underlying209
  a127 := Tryz.isAgg209
  z127 := Tryz.sizeOf209
  v127 := Tryz.zeroValue209
  t5 := Tryz.underlying5
  a5 := Tryz.isAgg5
  z5 := Tryz.sizeOf5
  v5 := Tryz.zeroValue5
  i0 := by kernel_rfl
  i3 := by kernel_rfl
  i4 := by kernel_rfl
  i5 := by kernel_rfl
  i9 := by kernel_rfl
  i37 := by kernel_rfl
  i127 := by kernel_rfl }

theorem liteClone_any (s : ByteArray) (w : World) (hs : s.size ≤ 281474976710656) :
    Calls Tryz.prog 90 #[.string s] w fun e w' => e = .returned (.string s) ∧ Below w.heap.size w w' := Any.stringslite_Clone Tryz.laysClone s w hs

theorem clone_any (s : ByteArray) (w : World) (hs : s.size ≤ 281474976710656) :
    Calls Tryz.prog 42 #[.string s] w fun e w' => e = .returned (.string s) ∧ Below w.heap.size w w' := by
  go_enter Tryz.func42, Tryz.ntmps42
  go_wp2_with (go_at_call 90; refine (liteClone_any _ _ hs).mono ?_; rintro e w1 ⟨rfl, hb1⟩)
  go_ret
  exact ⟨rfl, hb1⟩

end Go.Proofs.YtjebhbopmfcopaaGreatDoor

namespace Go.Proofs.YtjebhbopmfcopaaGreatDoor
open Go.RowKit

/-- a block that holds a record -/
def PaR (B : Nat) (Y : World) : Prop := ∃ a0 a1 a2 a3 a4 a5 a6 a7, Y.heap[B]? = some (.cells #[a0, a1, a2, a3, a4, a5, a6, a7] 52 (0, 0))

/-- one block alone has turned, whatever its type -/
theorem PaR.store {w : World} {g : Nat} {a0 a1 a2 a3 a4 a5 a6 a7 : Value} (h : w.heap[g]? = some (.cells #[a0, a1, a2, a3, a4, a5, a6, a7] 52 (0, 0))) (b0 b1 b2 b3 b4 b5 b6 b7 : Value) :
    ((((((((w.setCell ⟨g, 0, none⟩ b0).setCell ⟨g, 1, none⟩ b1).setCell ⟨g, 2, none⟩ b2).setCell ⟨g, 3, none⟩ b3).setCell ⟨g, 4, none⟩ b4).setCell ⟨g, 5, none⟩ b5).setCell ⟨g, 6, none⟩ b6).setCell ⟨g, 7, none⟩ b7).heap[g]? = some (.cells #[b0, b1, b2, b3, b4, b5, b6, b7] 52 (0, 0)) := by
  have h0 : (w.setCell ⟨g, 0, none⟩ b0).heap[g]? = some (.cells #[b0, a1, a2, a3, a4, a5, a6, a7] 52 (0, 0)) := heap_setCell_same w g 0 _ _ b0 h
  generalize w.setCell ⟨g, 0, none⟩ b0 = y0 at h0 ⊢
  have h1 : (y0.setCell ⟨g, 1, none⟩ b1).heap[g]? = some (.cells #[b0, b1, a2, a3, a4, a5, a6, a7] 52 (0, 0)) := heap_setCell_same y0 g 1 _ _ b1 h0
  generalize y0.setCell ⟨g, 1, none⟩ b1 = y1 at h1 ⊢
  have h2 : (y1.setCell ⟨g, 2, none⟩ b2).heap[g]? = some (.cells #[b0, b1, b2, a3, a4, a5, a6, a7] 52 (0, 0)) := heap_setCell_same y1 g 2 _ _ b2 h1
  generalize y1.setCell ⟨g, 2, none⟩ b2 = y2 at h2 ⊢
  have h3 : (y2.setCell ⟨g, 3, none⟩ b3).heap[g]? = some (.cells #[b0, b1, b2, b3, a4, a5, a6, a7] 52 (0, 0)) := heap_setCell_same y2 g 3 _ _ b3 h2
  generalize y2.setCell ⟨g, 3, none⟩ b3 = y3 at h3 ⊢
  have h4 : (y3.setCell ⟨g, 4, none⟩ b4).heap[g]? = some (.cells #[b0, b1, b2, b3, b4, a5, a6, a7] 52 (0, 0)) := heap_setCell_same y3 g 4 _ _ b4 h3
  generalize y3.setCell ⟨g, 4, none⟩ b4 = y4 at h4 ⊢
  have h5 : (y4.setCell ⟨g, 5, none⟩ b5).heap[g]? = some (.cells #[b0, b1, b2, b3, b4, b5, a6, a7] 52 (0, 0)) := heap_setCell_same y4 g 5 _ _ b5 h4
  generalize y4.setCell ⟨g, 5, none⟩ b5 = y5 at h5 ⊢
  have h6 : (y5.setCell ⟨g, 6, none⟩ b6).heap[g]? = some (.cells #[b0, b1, b2, b3, b4, b5, b6, a7] 52 (0, 0)) := heap_setCell_same y5 g 6 _ _ b6 h5
  generalize y5.setCell ⟨g, 6, none⟩ b6 = y6 at h6 ⊢
  have h7 : (y6.setCell ⟨g, 7, none⟩ b7).heap[g]? = some (.cells #[b0, b1, b2, b3, b4, b5, b6, b7] 52 (0, 0)) := heap_setCell_same y6 g 7 _ _ b7 h6
  generalize y6.setCell ⟨g, 7, none⟩ b7 = y7 at h7 ⊢
  exact h7
theorem PaR.beneath (w : World) (g : Nat) (b0 b1 b2 b3 b4 b5 b6 b7 : Value) :
    Below g w ((((((((w.setCell ⟨g, 0, none⟩ b0).setCell ⟨g, 1, none⟩ b1).setCell ⟨g, 2, none⟩ b2).setCell ⟨g, 3, none⟩ b3).setCell ⟨g, 4, none⟩ b4).setCell ⟨g, 5, none⟩ b5).setCell ⟨g, 6, none⟩ b6).setCell ⟨g, 7, none⟩ b7) := by
  have hle := Nat.le_refl g
  exact below_set (below_set (below_set (below_set (below_set (below_set (below_set (below_set (Below.refl g w) hle 0 b0) hle 1 b1) hle 2 b2) hle 3 b3) hle 4 b4) hle 5 b5) hle 6 b6) hle 7 b7

/-- aligned's result: a record in a block of its own -/
theorem ad_ret {w : World} {g : Nat} {A : Array Value} {tmps : Array Value} (hp : tmps.getD 6 undef = .pointer (some ⟨g, 0, none⟩)) (hg : w.heap[g]? = some (.cells A 52 (0, 0))) (h8 : A.size = 8) :
    (results Tryz.f43 tmps).run Tryz.prog w = .ok (.agg A) w :=
  results_cell_row rfl tmps _ g 52 A (0, 0) _ hp hg Tryz.underlying52 rfl (by rw [Tryz.sizeRec3, h8])

set_option maxRecDepth 100000 in
set_option maxHeartbeats 3200000 in
theorem aligned_any (nm zn zl s : List UInt8) (n : Int) (c a m : Nat) (w : World) (hn : Lt.strandB n = true) (hzn : zn.length ≤ 281474976710656) (hs : s.length ≤ 1000000) (hzl : zl.length ≤ 1000000) (hp : a + s.length ≤ zl.length) (hL : Lt.allL zl = true) :
    Calls Tryz.prog 43 #[.string ⟨nm.toArray⟩, .agg #[.string ⟨zn.toArray⟩, .string ⟨zl.toArray⟩], .agg #[.int .i64 n, .int .i64 (c : Int), .int .i64 (a : Int), .string ⟨s.toArray⟩, .int .i64 (m : Int)]] w fun e w' =>
      e = .returned (.agg (Rc.vals ⟨nm, 1, n, zn, (a : Int), (m : Int), s, Al.calls n s zl a s.length⟩)) ∧ Below w.heap.size w w' := by
  obtain ⟨CL, hCL⟩ : ∃ CL, CL = Al.calls n s zl a s.length := ⟨_, rfl⟩
  rw [← hCL]
  have HC1 : Hid (∀ W : World, Calls Tryz.prog 42 #[.string ⟨zn.toArray⟩] W fun e w' => e = .returned (.string ⟨zn.toArray⟩) ∧ Below W.heap.size W w') := fun W => clone_any _ W (by rw [str_size]; exact hzn)
  have HC2 : Hid (∀ W : World, Calls Tryz.prog 42 #[.string ⟨s.toArray⟩] W fun e w' => e = .returned (.string ⟨s.toArray⟩) ∧ Below W.heap.size W w') := fun W => clone_any _ W (by rw [str_size]; omega)
  have HKC : Hid (∀ W : World, (W.cell? ⟨w.heap.size, 0, none⟩ = some (.string ⟨zn.toArray⟩) ∧ W.cell? ⟨w.heap.size, 1, none⟩ = some (.string ⟨zl.toArray⟩) ∧ W.cell? ⟨w.heap.size + 1, 0, none⟩ = some (.int .i64 n) ∧ W.cell? ⟨w.heap.size + 1, 1, none⟩ = some (.int .i64 (c : Int)) ∧ W.cell? ⟨w.heap.size + 1, 2, none⟩ = some (.int .i64 (a : Int)) ∧ W.cell? ⟨w.heap.size + 1, 3, none⟩ = some (.string ⟨s.toArray⟩) ∧ W.cell? ⟨w.heap.size + 1, 4, none⟩ = some (.int .i64 (m : Int)) ∧ PaR (w.heap.size + 2) W) → Calls Tryz.prog 91 #[.string ⟨s.toArray⟩, .string ⟨zl.toArray⟩, .int .i64 (a : Int), .int .i64 n] W fun e w' => e = .returned (.string ⟨CL.toArray⟩) ∧ Below W.heap.size W w' ∧ ∃ a0 a1 a2 a3 a4 a5 a6 a7, w'.cell? ⟨w.heap.size + 1 + 1, 0, none⟩ = some a0 ∧ w'.frozen? ⟨w.heap.size + 1 + 1, 0, none⟩ = false ∧ w'.cell? ⟨w.heap.size + 1 + 1, 1, none⟩ = some a1 ∧ w'.frozen? ⟨w.heap.size + 1 + 1, 1, none⟩ = false ∧ w'.cell? ⟨w.heap.size + 1 + 1, 2, none⟩ = some a2 ∧ w'.frozen? ⟨w.heap.size + 1 + 1, 2, none⟩ = false ∧ w'.cell? ⟨w.heap.size + 1 + 1, 3, none⟩ = some a3 ∧ w'.frozen? ⟨w.heap.size + 1 + 1, 3, none⟩ = false ∧ w'.cell? ⟨w.heap.size + 1 + 1, 4, none⟩ = some a4 ∧ w'.frozen? ⟨w.heap.size + 1 + 1, 4, none⟩ = false ∧ w'.cell? ⟨w.heap.size + 1 + 1, 5, none⟩ = some a5 ∧ w'.frozen? ⟨w.heap.size + 1 + 1, 5, none⟩ = false ∧ w'.cell? ⟨w.heap.size + 1 + 1, 6, none⟩ = some a6 ∧ w'.frozen? ⟨w.heap.size + 1 + 1, 6, none⟩ = false ∧ w'.cell? ⟨w.heap.size + 1 + 1, 7, none⟩ = some a7 ∧ w'.frozen? ⟨w.heap.size + 1 + 1, 7, none⟩ = false ∧ Hid (w'.heap[w.heap.size + 1 + 1]? = some (.cells #[a0, a1, a2, a3, a4, a5, a6, a7] 52 (0, 0)))) := fun W hS => by
    have h := pcalls_any ⟨s.toArray⟩ ⟨zl.toArray⟩ a n W hn (by rw [str_size]; omega) (by rw [str_size]; omega) (by rw [str_size, str_size]; exact hp) hL
    rw [show (⟨s.toArray⟩ : ByteArray).data.toList = s from by simp, show (⟨zl.toArray⟩ : ByteArray).data.toList = zl from by simp, str_size, ← hCL] at h
    refine h.mono ?_
    rintro e w' ⟨rfl, hb⟩
    obtain ⟨_, _, _, _, _, _, _, a0, a1, a2, a3, a4, a5, a6, a7, hr⟩ := hS
    have hlt : w.heap.size + 2 < W.heap.size := (Array.getElem?_eq_some_iff.1 hr).1
    have hr' := (hb.block _ hlt).trans hr
    refine ⟨rfl, hb, a0, a1, a2, a3, a4, a5, a6, a7, ?_⟩
    exact ⟨cell_of_row _ _ 0 _ _ _ hr', frozen_of_row _ _ 0 _ _ hr', cell_of_row _ _ 1 _ _ _ hr', frozen_of_row _ _ 1 _ _ hr', cell_of_row _ _ 2 _ _ _ hr', frozen_of_row _ _ 2 _ _ hr', cell_of_row _ _ 3 _ _ _ hr', frozen_of_row _ _ 3 _ _ hr', cell_of_row _ _ 4 _ _ _ hr', frozen_of_row _ _ 4 _ _ hr', cell_of_row _ _ 5 _ _ _ hr', frozen_of_row _ _ 5 _ _ hr', cell_of_row _ _ 6 _ _ _ hr', frozen_of_row _ _ 6 _ _ hr', cell_of_row _ _ 7 _ _ _ hr', frozen_of_row _ _ 7 _ _ hr', hr'⟩
  have HK : Hid (∀ w1 W : World, Below W.heap.size W w1 → (W.cell? ⟨w.heap.size, 0, none⟩ = some (.string ⟨zn.toArray⟩) ∧ W.cell? ⟨w.heap.size, 1, none⟩ = some (.string ⟨zl.toArray⟩) ∧ W.cell? ⟨w.heap.size + 1, 0, none⟩ = some (.int .i64 n) ∧ W.cell? ⟨w.heap.size + 1, 1, none⟩ = some (.int .i64 (c : Int)) ∧ W.cell? ⟨w.heap.size + 1, 2, none⟩ = some (.int .i64 (a : Int)) ∧ W.cell? ⟨w.heap.size + 1, 3, none⟩ = some (.string ⟨s.toArray⟩) ∧ W.cell? ⟨w.heap.size + 1, 4, none⟩ = some (.int .i64 (m : Int)) ∧ PaR (w.heap.size + 2) W) → (w1.cell? ⟨w.heap.size, 0, none⟩ = some (.string ⟨zn.toArray⟩) ∧ w1.cell? ⟨w.heap.size, 1, none⟩ = some (.string ⟨zl.toArray⟩) ∧ w1.cell? ⟨w.heap.size + 1, 0, none⟩ = some (.int .i64 n) ∧ w1.cell? ⟨w.heap.size + 1, 1, none⟩ = some (.int .i64 (c : Int)) ∧ w1.cell? ⟨w.heap.size + 1, 2, none⟩ = some (.int .i64 (a : Int)) ∧ w1.cell? ⟨w.heap.size + 1, 3, none⟩ = some (.string ⟨s.toArray⟩) ∧ w1.cell? ⟨w.heap.size + 1, 4, none⟩ = some (.int .i64 (m : Int)) ∧ PaR (w.heap.size + 2) w1)) := fun w1 W hb h => by
    obtain ⟨h1, h2, h3, h4, h5, h6, h7, a0, a1, a2, a3, a4, a5, a6, a7, hr⟩ := h
    have e : ∀ p v, W.cell? p = some v → w1.cell? p = some v := fun p v h => (hb.cell (World.block_lt_of_cell? W _ h)).trans h
    have hlt : w.heap.size + 2 < W.heap.size := (Array.getElem?_eq_some_iff.1 hr).1
    exact ⟨e _ _ h1, e _ _ h2, e _ _ h3, e _ _ h4, e _ _ h5, e _ _ h6, e _ _ h7, a0, a1, a2, a3, a4, a5, a6, a7, (hb.block _ hlt).trans hr⟩
  have HSET : Hid (∀ Y : World, (Y.cell? ⟨w.heap.size, 0, none⟩ = some (.string ⟨zn.toArray⟩) ∧ Y.cell? ⟨w.heap.size, 1, none⟩ = some (.string ⟨zl.toArray⟩) ∧ Y.cell? ⟨w.heap.size + 1, 0, none⟩ = some (.int .i64 n) ∧ Y.cell? ⟨w.heap.size + 1, 1, none⟩ = some (.int .i64 (c : Int)) ∧ Y.cell? ⟨w.heap.size + 1, 2, none⟩ = some (.int .i64 (a : Int)) ∧ Y.cell? ⟨w.heap.size + 1, 3, none⟩ = some (.string ⟨s.toArray⟩) ∧ Y.cell? ⟨w.heap.size + 1, 4, none⟩ = some (.int .i64 (m : Int)) ∧ PaR (w.heap.size + 2) Y) → (((((((((Y.setCell ⟨w.heap.size + 1 + 1, 0, none⟩ (.string ⟨nm.toArray⟩)).setCell ⟨w.heap.size + 1 + 1, 1, none⟩ (.int .i64 1)).setCell ⟨w.heap.size + 1 + 1, 2, none⟩ (.int .i64 n)).setCell ⟨w.heap.size + 1 + 1, 3, none⟩ (.string ⟨zn.toArray⟩)).setCell ⟨w.heap.size + 1 + 1, 4, none⟩ (.int .i64 (a : Int))).setCell ⟨w.heap.size + 1 + 1, 5, none⟩ (.int .i64 (m : Int))).setCell ⟨w.heap.size + 1 + 1, 6, none⟩ (.string ⟨s.toArray⟩)).setCell ⟨w.heap.size + 1 + 1, 7, none⟩ (.string ⟨CL.toArray⟩)).cell? ⟨w.heap.size, 0, none⟩ = some (.string ⟨zn.toArray⟩) ∧ ((((((((Y.setCell ⟨w.heap.size + 1 + 1, 0, none⟩ (.string ⟨nm.toArray⟩)).setCell ⟨w.heap.size + 1 + 1, 1, none⟩ (.int .i64 1)).setCell ⟨w.heap.size + 1 + 1, 2, none⟩ (.int .i64 n)).setCell ⟨w.heap.size + 1 + 1, 3, none⟩ (.string ⟨zn.toArray⟩)).setCell ⟨w.heap.size + 1 + 1, 4, none⟩ (.int .i64 (a : Int))).setCell ⟨w.heap.size + 1 + 1, 5, none⟩ (.int .i64 (m : Int))).setCell ⟨w.heap.size + 1 + 1, 6, none⟩ (.string ⟨s.toArray⟩)).setCell ⟨w.heap.size + 1 + 1, 7, none⟩ (.string ⟨CL.toArray⟩)).cell? ⟨w.heap.size, 1, none⟩ = some (.string ⟨zl.toArray⟩) ∧ ((((((((Y.setCell ⟨w.heap.size + 1 + 1, 0, none⟩ (.string ⟨nm.toArray⟩)).setCell ⟨w.heap.size + 1 + 1, 1, none⟩ (.int .i64 1)).setCell ⟨w.heap.size + 1 + 1, 2, none⟩ (.int .i64 n)).setCell ⟨w.heap.size + 1 + 1, 3, none⟩ (.string ⟨zn.toArray⟩)).setCell ⟨w.heap.size + 1 + 1, 4, none⟩ (.int .i64 (a : Int))).setCell ⟨w.heap.size + 1 + 1, 5, none⟩ (.int .i64 (m : Int))).setCell ⟨w.heap.size + 1 + 1, 6, none⟩ (.string ⟨s.toArray⟩)).setCell ⟨w.heap.size + 1 + 1, 7, none⟩ (.string ⟨CL.toArray⟩)).cell? ⟨w.heap.size + 1, 0, none⟩ = some (.int .i64 n) ∧ ((((((((Y.setCell ⟨w.heap.size + 1 + 1, 0, none⟩ (.string ⟨nm.toArray⟩)).setCell ⟨w.heap.size + 1 + 1, 1, none⟩ (.int .i64 1)).setCell ⟨w.heap.size + 1 + 1, 2, none⟩ (.int .i64 n)).setCell ⟨w.heap.size + 1 + 1, 3, none⟩ (.string ⟨zn.toArray⟩)).setCell ⟨w.heap.size + 1 + 1, 4, none⟩ (.int .i64 (a : Int))).setCell ⟨w.heap.size + 1 + 1, 5, none⟩ (.int .i64 (m : Int))).setCell ⟨w.heap.size + 1 + 1, 6, none⟩ (.string ⟨s.toArray⟩)).setCell ⟨w.heap.size + 1 + 1, 7, none⟩ (.string ⟨CL.toArray⟩)).cell? ⟨w.heap.size + 1, 1, none⟩ = some (.int .i64 (c : Int)) ∧ ((((((((Y.setCell ⟨w.heap.size + 1 + 1, 0, none⟩ (.string ⟨nm.toArray⟩)).setCell ⟨w.heap.size + 1 + 1, 1, none⟩ (.int .i64 1)).setCell ⟨w.heap.size + 1 + 1, 2, none⟩ (.int .i64 n)).setCell ⟨w.heap.size + 1 + 1, 3, none⟩ (.string ⟨zn.toArray⟩)).setCell ⟨w.heap.size + 1 + 1, 4, none⟩ (.int .i64 (a : Int))).setCell ⟨w.heap.size + 1 + 1, 5, none⟩ (.int .i64 (m : Int))).setCell ⟨w.heap.size + 1 + 1, 6, none⟩ (.string ⟨s.toArray⟩)).setCell ⟨w.heap.size + 1 + 1, 7, none⟩ (.string ⟨CL.toArray⟩)).cell? ⟨w.heap.size + 1, 2, none⟩ = some (.int .i64 (a : Int)) ∧ ((((((((Y.setCell ⟨w.heap.size + 1 + 1, 0, none⟩ (.string ⟨nm.toArray⟩)).setCell ⟨w.heap.size + 1 + 1, 1, none⟩ (.int .i64 1)).setCell ⟨w.heap.size + 1 + 1, 2, none⟩ (.int .i64 n)).setCell ⟨w.heap.size + 1 + 1, 3, none⟩ (.string ⟨zn.toArray⟩)).setCell ⟨w.heap.size + 1 + 1, 4, none⟩ (.int .i64 (a : Int))).setCell ⟨w.heap.size + 1 + 1, 5, none⟩ (.int .i64 (m : Int))).setCell ⟨w.heap.size + 1 + 1, 6, none⟩ (.string ⟨s.toArray⟩)).setCell ⟨w.heap.size + 1 + 1, 7, none⟩ (.string ⟨CL.toArray⟩)).cell? ⟨w.heap.size + 1, 3, none⟩ = some (.string ⟨s.toArray⟩) ∧ ((((((((Y.setCell ⟨w.heap.size + 1 + 1, 0, none⟩ (.string ⟨nm.toArray⟩)).setCell ⟨w.heap.size + 1 + 1, 1, none⟩ (.int .i64 1)).setCell ⟨w.heap.size + 1 + 1, 2, none⟩ (.int .i64 n)).setCell ⟨w.heap.size + 1 + 1, 3, none⟩ (.string ⟨zn.toArray⟩)).setCell ⟨w.heap.size + 1 + 1, 4, none⟩ (.int .i64 (a : Int))).setCell ⟨w.heap.size + 1 + 1, 5, none⟩ (.int .i64 (m : Int))).setCell ⟨w.heap.size + 1 + 1, 6, none⟩ (.string ⟨s.toArray⟩)).setCell ⟨w.heap.size + 1 + 1, 7, none⟩ (.string ⟨CL.toArray⟩)).cell? ⟨w.heap.size + 1, 4, none⟩ = some (.int .i64 (m : Int)) ∧ PaR (w.heap.size + 2) ((((((((Y.setCell ⟨w.heap.size + 1 + 1, 0, none⟩ (.string ⟨nm.toArray⟩)).setCell ⟨w.heap.size + 1 + 1, 1, none⟩ (.int .i64 1)).setCell ⟨w.heap.size + 1 + 1, 2, none⟩ (.int .i64 n)).setCell ⟨w.heap.size + 1 + 1, 3, none⟩ (.string ⟨zn.toArray⟩)).setCell ⟨w.heap.size + 1 + 1, 4, none⟩ (.int .i64 (a : Int))).setCell ⟨w.heap.size + 1 + 1, 5, none⟩ (.int .i64 (m : Int))).setCell ⟨w.heap.size + 1 + 1, 6, none⟩ (.string ⟨s.toArray⟩)).setCell ⟨w.heap.size + 1 + 1, 7, none⟩ (.string ⟨CL.toArray⟩)))) := fun Y h => by
    obtain ⟨h1, h2, h3, h4, h5, h6, h7, a0, a1, a2, a3, a4, a5, a6, a7, hr⟩ := h
    have hb := PaR.beneath Y (w.heap.size + 1 + 1) (.string ⟨nm.toArray⟩) (.int .i64 1) (.int .i64 n) (.string ⟨zn.toArray⟩) (.int .i64 (a : Int)) (.int .i64 (m : Int)) (.string ⟨s.toArray⟩) (.string ⟨CL.toArray⟩)
    have e : ∀ g i v, g < w.heap.size + 2 → Y.cell? ⟨g, i, none⟩ = some v → (((((((((Y.setCell ⟨w.heap.size + 1 + 1, 0, none⟩ (.string ⟨nm.toArray⟩)).setCell ⟨w.heap.size + 1 + 1, 1, none⟩ (.int .i64 1)).setCell ⟨w.heap.size + 1 + 1, 2, none⟩ (.int .i64 n)).setCell ⟨w.heap.size + 1 + 1, 3, none⟩ (.string ⟨zn.toArray⟩)).setCell ⟨w.heap.size + 1 + 1, 4, none⟩ (.int .i64 (a : Int))).setCell ⟨w.heap.size + 1 + 1, 5, none⟩ (.int .i64 (m : Int))).setCell ⟨w.heap.size + 1 + 1, 6, none⟩ (.string ⟨s.toArray⟩)).setCell ⟨w.heap.size + 1 + 1, 7, none⟩ (.string ⟨CL.toArray⟩))).cell? ⟨g, i, none⟩ = some v := fun g i v hg h => (Pa.cell_same (p := ⟨g, i, none⟩) (hb.block g hg)).trans h
    exact ⟨e _ _ _ (by omega) h1, e _ _ _ (by omega) h2, e _ _ _ (by omega) h3, e _ _ _ (by omega) h4, e _ _ _ (by omega) h5, e _ _ _ (by omega) h6, e _ _ _ (by omega) h7, _, _, _, _, _, _, _, _, PaR.store hr (.string ⟨nm.toArray⟩) (.int .i64 1) (.int .i64 n) (.string ⟨zn.toArray⟩) (.int .i64 (a : Int)) (.int .i64 (m : Int)) (.string ⟨s.toArray⟩) (.string ⟨CL.toArray⟩)⟩
  have HS0 : Hid (∀ Y : World, Y.heap = (((w.alloc (.cells #[.string ⟨zn.toArray⟩, .string ⟨zl.toArray⟩] 59)).alloc (.cells #[.int .i64 n, .int .i64 (c : Int), .int .i64 (a : Int), .string ⟨s.toArray⟩, .int .i64 (m : Int)] 101)).alloc (.cells #[.string ⟨#[]⟩, .int .i64 0, .int .i64 0, .string ⟨#[]⟩, .int .i64 0, .int .i64 0, .string ⟨#[]⟩, .string ⟨#[]⟩] 52)).heap → (Y.cell? ⟨w.heap.size, 0, none⟩ = some (.string ⟨zn.toArray⟩) ∧ Y.cell? ⟨w.heap.size, 1, none⟩ = some (.string ⟨zl.toArray⟩) ∧ Y.cell? ⟨w.heap.size + 1, 0, none⟩ = some (.int .i64 n) ∧ Y.cell? ⟨w.heap.size + 1, 1, none⟩ = some (.int .i64 (c : Int)) ∧ Y.cell? ⟨w.heap.size + 1, 2, none⟩ = some (.int .i64 (a : Int)) ∧ Y.cell? ⟨w.heap.size + 1, 3, none⟩ = some (.string ⟨s.toArray⟩) ∧ Y.cell? ⟨w.heap.size + 1, 4, none⟩ = some (.int .i64 (m : Int)) ∧ PaR (w.heap.size + 2) Y)) := fun Y hY => by
    have e1 : Y.heap[w.heap.size]? = some (.cells #[.string ⟨zn.toArray⟩, .string ⟨zl.toArray⟩] 59 (0, 0)) := by
      rw [hY, Below.heap_alloc _ _ _ (by simp; omega), Below.heap_alloc _ _ _ (by simp)]
      exact heap_alloc_new w _
    have e2 : Y.heap[w.heap.size + 1]? = some (.cells #[.int .i64 n, .int .i64 (c : Int), .int .i64 (a : Int), .string ⟨s.toArray⟩, .int .i64 (m : Int)] 101 (0, 0)) := by
      rw [hY, Below.heap_alloc _ _ _ (by simp)]
      exact two_heap w _ _
    have e3 : Y.heap[w.heap.size + 2]? = some (.cells #[.string ⟨#[]⟩, .int .i64 0, .int .i64 0, .string ⟨#[]⟩, .int .i64 0, .int .i64 0, .string ⟨#[]⟩, .string ⟨#[]⟩] 52 (0, 0)) := by
      rw [hY]
      have h := heap_alloc_new ((w.alloc (.cells #[.string ⟨zn.toArray⟩, .string ⟨zl.toArray⟩] 59)).alloc (.cells #[.int .i64 n, .int .i64 (c : Int), .int .i64 (a : Int), .string ⟨s.toArray⟩, .int .i64 (m : Int)] 101)) (.cells #[.string ⟨#[]⟩, .int .i64 0, .int .i64 0, .string ⟨#[]⟩, .int .i64 0, .int .i64 0, .string ⟨#[]⟩, .string ⟨#[]⟩] 52)
      rw [World.size_alloc, World.size_alloc] at h
      exact h
    exact ⟨cell_of_row _ _ 0 _ _ _ e1, cell_of_row _ _ 1 _ _ _ e1, cell_of_row _ _ 0 _ _ _ e2, cell_of_row _ _ 1 _ _ _ e2, cell_of_row _ _ 2 _ _ _ e2, cell_of_row _ _ 3 _ _ _ e2, cell_of_row _ _ 4 _ _ _ e2, _, _, _, _, _, _, _, _, e3⟩
  have HS1 : Hid _ := HS0.out ((((w.alloc (.cells #[.string ⟨zn.toArray⟩, .string ⟨zl.toArray⟩] 59)).alloc (.cells #[.int .i64 n, .int .i64 (c : Int), .int .i64 (a : Int), .string ⟨s.toArray⟩, .int .i64 (m : Int)] 101)).alloc (.cells #[.string ⟨#[]⟩, .int .i64 0, .int .i64 0, .string ⟨#[]⟩, .int .i64 0, .int .i64 0, .string ⟨#[]⟩, .string ⟨#[]⟩] 52)).drew) rfl
  clear HS0
  have HB0 : Hid (∀ o1 o2 o3, Below w.heap.size w (((w.alloc o1).alloc o2).alloc o3).drew) := fun o1 o2 o3 => ((((Below.refl _ _).alloc (Nat.le_refl _) o1).alloc (by simp) o2).alloc (by simp; omega) o3).drew
  have HB2 : Hid (∀ (W w1 : World), Below w.heap.size w W → Below W.heap.size W w1 → Below w.heap.size w w1) := fun W w1 h1 h2 => h1.trans (h2.mono h1.size)
  clear hCL hn hL hzn hs hzl hp
  go_enter Tryz.func43, Tryz.ntmps43
  go_wp2_with fail
  go_region_held3 (fun Y => Y.cell? ⟨w.heap.size, 0, none⟩ = some (.string ⟨zn.toArray⟩) ∧ Y.cell? ⟨w.heap.size, 1, none⟩ = some (.string ⟨zl.toArray⟩) ∧ Y.cell? ⟨w.heap.size + 1, 0, none⟩ = some (.int .i64 n) ∧ Y.cell? ⟨w.heap.size + 1, 1, none⟩ = some (.int .i64 (c : Int)) ∧ Y.cell? ⟨w.heap.size + 1, 2, none⟩ = some (.int .i64 (a : Int)) ∧ Y.cell? ⟨w.heap.size + 1, 3, none⟩ = some (.string ⟨s.toArray⟩) ∧ Y.cell? ⟨w.heap.size + 1, 4, none⟩ = some (.int .i64 (m : Int)) ∧ PaR (w.heap.size + 2) Y)
    (first | (with_reducible exact HS1.out) | (with_reducible (refine HSET.out _ ?_; assumption)) | (with_reducible (refine HK.out _ _ (by assumption) ?_; assumption)))
    (first
      | (go_at_call_of 42 (Value.string ⟨zn.toArray⟩); refine (HC1.out _).mono ?_; rintro e w1 ⟨rfl, hb1⟩)
      | (go_at_call 42; refine (HC2.out _).mono ?_; rintro e w2 ⟨rfl, hb2⟩)
      | (go_at_call 91; refine (HKC.out _ (by assumption)).mono ?_; rintro e w3 ⟨rfl, hb3, a0, a1, a2, a3, a4, a5, a6, a7, r0, f0, r1, f1, r2, f2, r3, f3, r4, f4, r5, f5, r6, f6, r7, f7, HROW⟩))
  all_goals
    go_wp2
    refine bodyPost_ret (ad_ret rfl (PaR.store HROW.out _ _ _ _ _ _ _ _) rfl) rfl ?_
    refine ⟨rfl, HB2.out _ _ (HB2.out _ _ (HB2.out _ _ (HB0.out _ _ _) hb1) hb2) hb3 |>.trans ?_⟩
    exact (PaR.beneath w3 (w.heap.size + 1 + 1) _ _ _ _ _ _ _ _).mono (by omega)

end Go.Proofs.YtjebhbopmfcopaaGreatDoor
