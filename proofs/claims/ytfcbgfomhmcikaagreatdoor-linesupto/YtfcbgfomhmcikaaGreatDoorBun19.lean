/-
  PLAIN MATHEMATICS of Align: candidates in their order, the best so far. Own text of the verifier.
  THE WALK of the document's Align. Own text of the verifier.
  THE WALK of the World's 'found': an index is asked, and the document; the answers are held against each other, and what came out is written into the book. Own text of the verifier.
  LAWS for the walk of the document's Align, where there is no error. Own text of the verifier.
  THE PROGRAM'S Align, its small walks: what follows a place, the letter of a call. Own text of the verifier.
-/
import Derived.Test.YtfcbgfomhmcikaaGreatDoorBun18
import Derived.Test.YtfcbgfomhmcikaaGreatDoorBun4
import Derived.Test.YtfcbgfomhmcikaaGreatDoorBun11
import Derived.Test.YtfcbgfomhmcikaaGreatDoorBun14
import Derived.Laws.ResultCell
import Derived.Test.YtfcbgfomhmcikaaGreatDoorBun15
import Derived.Laws.StructEq
import Derived.Deep.RegionWith
namespace Go.Proofs.YtfcbgfomhmcikaaGreatDoor
open Go.RowKit

/-- the record so far, and the least mismatches (-1: there was no candidate) -/
structure Al.St where
  best : Rc
  least : Int

/-- the calls of the first m positions -/
def Al.calls (n : Int) (s t : List UInt8) (p m : Nat) : List UInt8 := (List.range m).map (fun k => Al.call n (s.getD k 0) t (p + k))
theorem Al.calls_length (n : Int) (s t : List UInt8) (p m : Nat) : (Al.calls n s t p m).length = m := by simp [Al.calls]
theorem Al.calls_succ (n : Int) (s t : List UInt8) (p m : Nat) : Al.calls n s t p (m + 1) = Al.calls n s t p m ++ [Al.call n (s.getD m 0) t (p + m)] := by
  rw [Al.calls, Al.calls, List.range_succ, List.map_append]
  rfl

/-- one candidate more -/
def Al.step (nm : List UInt8) (n : Int) (s : List UInt8) (cs : List Pr) (st : Al.St) (q : Nat × Nat) : Al.St :=
  match cs[q.1]? with
  | none => st
  | some x =>
    if 0 ≤ st.least ∧ st.least < (Al.mis n s (x.2.drop q.2) : Int) then st
    else if (Al.mis n s (x.2.drop q.2) : Int) = st.least then ⟨⟨nm, 2, 0, [], 0, 0, [], []⟩, st.least⟩
    else ⟨⟨nm, 1, n, x.1, (q.2 : Int), (Al.mis n s (x.2.drop q.2) : Int), s, Al.calls n s x.2 q.2 s.length⟩, (Al.mis n s (x.2.drop q.2) : Int)⟩
/-- all candidates of a strand -/
def Al.strand (nm : List UInt8) (r : List UInt8) (b : Int) (cs : List Pr) (st : Al.St) (n : Int) : Al.St := (Se.inAll n b (Al.along r n) cs cs.length).foldl (Al.step nm n (Al.along r n) cs) st
/-- the strands from 1 to k -/
def Al.upto (nm : List UInt8) (r : List UInt8) (b : Int) (cs : List Pr) : Nat → Al.St
  | 0 => ⟨⟨nm, 0, 0, [], 0, 0, [], []⟩, -1⟩
  | k + 1 => Al.strand nm r b cs (Al.upto nm r b cs k) ((k + 1 : Nat) : Int)
/-- Align's error, and its record -/
def Al.err (b : Int) (r : List UInt8) : Int := if b < 0 then 1 else if 3 < b then 1 else Se.lettersErr r
def Al.align (nm r : List UInt8) (b : Int) (cs : List Pr) : Rc := if Al.err b r = 0 then (Al.upto nm r b cs 4).best else ⟨[], 0, 0, [], 0, 0, [], []⟩

theorem Al.along_length (r : List UInt8) (n : Int) : (Al.along r n).length = r.length := by
  unfold Al.along
  split
  · exact Lt.rev_length r
  · rfl

/-- what is so of a place that Find tells -/
theorem Se.inAll_mem (n b : Int) (s : List UInt8) (cs : List Pr) : ∀ (k : Nat) (q : Nat × Nat), q ∈ Se.inAll n b s cs k → q.1 < k ∧ ∃ x, cs[q.1]? = some x ∧ q.2 + s.length ≤ x.2.length ∧ (Se.three n s (x.2.drop q.2) : Int) ≤ b := by
  intro k
  induction k with
  | zero => intro q h; simp [Se.inAll] at h
  | succ k ih =>
    intro q h
    rw [Se.inAll, List.mem_append] at h
    rcases h with h | h
    · obtain ⟨h1, h2⟩ := ih q h
      exact ⟨by omega, h2⟩
    · split at h
      · next x hx =>
        rw [Se.inOne, Se.upto, List.mem_map] at h
        obtain ⟨p, hp, rfl⟩ := h
        rw [List.mem_filter, List.mem_range] at hp
        refine ⟨by simp, x, hx, ?_, ?_⟩
        · have := hp.1; simp only; omega
        · have := hp.2
          rw [Se.stands] at this
          exact of_decide_eq_true this
      · simp at h

end Go.Proofs.YtfcbgfomhmcikaaGreatDoor

namespace Go.Proofs.YtfcbgfomhmcikaaGreatDoor
open Go.RowKit

theorem Tryz.sizeRec3 : (Tryz.prog.info? 47).map (·.size) = some 8 := by kernel_rfl

/-- Align's results: a record in a block of its own, and the error -/
theorem al_ret {w : World} {g : Nat} {A : Array Value} {tmps : Array Value} (hp : tmps.getD 6 undef = .pointer (some ⟨g, 0, none⟩)) (hg : w.heap[g]? = some (.cells A 47 (0, 0))) (h8 : A.size = 8) :
    (results Tryz.f59 tmps).run Tryz.prog w = .ok (.tuple #[.agg A, tmps.getD 7 undef]) w := by
  rw [results_cell_tmp rfl, hp]
  simp only [asAddr, Sem.run_pure, Result.andThen_ok]
  rw [run_loadVar_row w g 47 47 A (0, 0) _ hg Tryz.underlying47 rfl (by rw [Tryz.sizeRec3, h8])]
  rfl

theorem two_heap (w : World) (A B : Obj) : ((w.alloc A).alloc B).heap[w.heap.size + 1]? = some B := by
  have h := heap_alloc_new (w.alloc A) B
  rw [World.size_alloc] at h
  exact h

set_option maxRecDepth 100000 in
set_option maxHeartbeats 800000 in
theorem refAlign_bad (nm lt : List UInt8) (b : Int) (la : Option Addr) (ln lc : Nat) (w : World) (hl : lt.length ≤ 140737488355327) (hE : Al.err b lt ≠ 0) :
    Calls Tryz.prog 59 #[.slice la ln lc, .agg #[.string ⟨nm.toArray⟩, .string ⟨lt.toArray⟩], .int .i64 b] w fun e w' =>
      e = .returned (.tuple #[.agg (Rc.vals ⟨[], 0, 0, [], 0, 0, [], []⟩), .int .i64 (Al.err b lt)]) ∧ Below w.heap.size w w' := by
  have HB : Hid (∀ o o2, Below w.heap.size w ((w.alloc o).alloc o2)) := fun o o2 => ((Below.refl _ _).alloc (Nat.le_refl _) o).alloc (by simp) o2
  have hs : (⟨lt.toArray⟩ : ByteArray).size ≤ 140737488355327 := by rw [str_size]; exact hl
  obtain ⟨E, hEE⟩ : ∃ E, E = Al.err b lt := ⟨_, rfl⟩
  rw [← hEE] at hE ⊢
  unfold Al.err at hEE
  by_cases h0 : b < 0
  · have HE : Hid (E = 1) := by show _ = _; rw [hEE, if_pos h0]
    clear hEE hE
    go_enter Tryz.func59, Tryz.ntmps59
    go_wp2
    refine bodyPost_ret (al_ret rfl (two_heap w _ _) rfl) rfl ?_
    exact ⟨by rw [HE.out]; rfl, HB.out _ _⟩
  · rw [if_neg h0] at hEE
    by_cases h3 : 3 < b
    · have HE : Hid (E = 1) := by show _ = _; rw [hEE, if_pos h3]
      clear hEE hE
      go_enter Tryz.func59, Tryz.ntmps59
      go_wp2
      refine bodyPost_ret (al_ret rfl (two_heap w _ _) rfl) rfl ?_
      exact ⟨by rw [HE.out]; rfl, HB.out _ _⟩
    · rw [if_neg h3] at hEE
      have HLC : Hid (∀ W : World, Calls Tryz.prog 90 #[.string ⟨lt.toArray⟩] W fun e w' => e = .returned (.int .i64 E) ∧ w' = W) := fun W => by
        rw [hEE]
        exact refLetters_any ⟨lt.toArray⟩ W hs
      have hne : (E != 0) = true := by rw [bne_iff_ne]; exact hE
      clear hEE hE
      go_enter Tryz.func59, Tryz.ntmps59
      go_wp2_with (go_at_call 90; refine (HLC.out _).mono ?_; rintro e w' ⟨rfl, hw⟩; subst w')
      refine bodyPost_ret (al_ret rfl (two_heap w _ _) rfl) rfl ?_
      exact ⟨rfl, HB.out _ _⟩

end Go.Proofs.YtfcbgfomhmcikaaGreatDoor

namespace Go.Proofs.YtfcbgfomhmcikaaGreatDoor
open Go.RowKit

theorem eq_place (a b : Int) (w : World) : (Op.equalIn 10000 67 (.agg #[.int .i64 a, .int .i64 b]) (.agg #[.int .i64 a, .int .i64 b])).run Tryz.prog w = .ok true w := by
  simp [go_sem, Tryz.underlying67, Tryz.underlying3]
theorem eql_place (a b : Int) (w : World) : (binOp .eql 67 (.agg #[.int .i64 a, .int .i64 b]) (.agg #[.int .i64 a, .int .i64 b])).run Tryz.prog w = .ok (.bool true) w := by
  rw [run_eql_struct, eq_place]; rfl

theorem pls_at (l : List (Nat × Nat)) (k : Nat) (h : k < l.length) : (Se.pls l)[k * 2]? = some (.int .i64 (l[k].1 : Int)) ∧ (Se.pls l)[k * 2 + 1]? = some (.int .i64 (l[k].2 : Int)) := by
  induction l generalizing k with
  | nil => simp at h
  | cons a l ih =>
    have e : Se.pls (a :: l) = .int .i64 (a.1 : Int) :: .int .i64 (a.2 : Int) :: Se.pls l := rfl
    cases k with
    | zero => rw [e]; simp
    | succ k =>
      have := ih k (by simpa using h)
      rw [e, show (k + 1) * 2 = k * 2 + 1 + 1 by omega]
      simpa using this

theorem own_place {w : World} {base e n cap g : Nat} {l : List (Nat × Nat)} (h : w.ownsRow base e 2 (.slice (some ⟨g, 0, none⟩) n cap) n (Se.pls l)) (k : Nat) (hk : k < l.length) :
    w.cell? ⟨g, k * 2, none⟩ = some (.int .i64 (l[k].1 : Int)) ∧ w.cell? ⟨g, k * 2 + 1, none⟩ = some (.int .i64 (l[k].2 : Int)) := by
  have hl : l.length * 2 = n * 2 := by have := h.1; rw [Se.pls_length] at this; exact this
  obtain ⟨p0, p1⟩ := pls_at l k hk
  exact ⟨(h.cellAt (k * 2) (by omega)).trans p0, (h.cellAt (k * 2 + 1) (by omega)).trans p1⟩

theorem Se.findOut_length {cs : List Pr} (h : Se.Right cs) (n b : Int) (S : List UInt8) : (Se.findOut n b S cs).length ≤ 90000 := by
  unfold Se.findOut
  split
  · have h1 := Se.inAll_length n b S cs 4096 h.len cs.length
    have h2 := h.few
    have h3 : cs.length * (4096 + 1) ≤ 16 * (4096 + 1) := Nat.mul_le_mul_right _ h2
    omega
  · simp

set_option maxRecDepth 100000 in
set_option maxHeartbeats 1600000 in
theorem found_any (X : World) (g : Nat) (lv : Value) (k : Nat) (xv vp : Value) (ps : List Px) (es : List Value) (px : Px) (hpx : px ∈ ps) (o0 a n b : Int) (s t : ByteArray) (la : Option Addr) (ln lc : Nat)
    (hW : X.heap[g]? = some (.cells #[lv, xv, .slice none 0 0, .slice none 0 0, vp, .slice none 0 0] 39 (0, 0))) (hx : X.ownsRow (g + 1) 59 2 xv ps.length (Pxs ps)) (hok : PairsOk X g ps) (hsh : ShelfP X g vp es)
    (h4 : es.length % 4 = 0) (h2 : es.length ≤ 4 * k) (h3 : ps.length ≤ k) (hk : 4 * k + 4 ≤ 7000000000000) (hs : s.size ≤ 140737488351232) :
    Calls Tryz.prog 24 #[.pointer (some ⟨g, 0, none⟩), .agg #[px.1, px.2.1], .agg #[.int .i64 o0, .int .i64 a, .int .i64 n, .int .i64 b, .string s, .string t, .slice la ln lc]] X fun e X' => e = .returned (.bool true) ∧ SI X' g lv (k + 1) ∧ Below g X X' := by
  have hgX : g < X.heap.size := (Array.getElem?_eq_some_iff.1 hW).1
  obtain ⟨hix, hne, hra⟩ := hok px hpx
  obtain ⟨p, v, cs⟩ := px
  have hright := Se.right_of cs hne
  obtain ⟨bx, hbx⟩ : ∃ bx, p = .pointer (some ⟨bx, 0, none⟩) := by obtain ⟨bx, _, _, h1, _⟩ := hix; exact ⟨bx, h1⟩
  obtain ⟨ad, cc, hv, hsrc⟩ : ∃ ad cc, v = .slice (some ad) cs.length cc ∧ ∀ j u, (Prs cs)[j]? = some u → X.cell? (ad.add j) = some u := by
    have hsr : Src X v cs.length (Prs cs) := hra.ref.src
    rcases hsr with ⟨_, h0, _⟩ | ⟨ad, c, hv, hs⟩
    · have := hright.pos
      omega
    · exact ⟨ad, c, hv, hs⟩
  have hix' : IxAt X (g + 1) p cs := hix
  subst hbx hv
  have HIX : Hid _ := hix'
  have HSRC : Hid _ := hsrc
  have HRT : Hid _ := hright
  have HSI : Hid _ := fun Y Z B m v' x0 x1 x2 x3 hm hXY hB c1 c2 c3 c4 c5 c6 c7 c8 => @si_found X Y Z g m k B lv xv vp v' x0 x1 x2 x3 ps es hW hx hok hsh h4 h2 h3 hk hm hXY hB c1 c2 c3 c4 c5 c6 c7 c8
  have HW : Hid _ := hW
  have HSH : Hid _ := hsh
  obtain ⟨E, hE⟩ : ∃ E, E = Se.findErr n b s.data.toList := ⟨_, rfl⟩
  obtain ⟨O, hO⟩ : ∃ O, O = Se.findOut n b s.data.toList cs := ⟨_, rfl⟩
  have hOl : O.length ≤ 90000 := by rw [hO]; exact Se.findOut_length hright _ _ _
  have HE : Hid _ := hE
  have HO : Hid _ := hO
  have heq := eql_place
  have hnil := fun (wy : World) (a : Option Addr) (l c : Nat) => Lib.run_eql_slice_nil (P := Tryz.prog) wy 65 67 a l c 0 0 Tryz.underlying65
  clear hix hix' hne hra hright hsrc hx hok hsh hW hE hO hpx
  go_enter Tryz.func24, Tryz.ntmps24
  go_wp2_with fail
  have hbA : Below X.heap.size X ((X.alloc (Obj.cells #[Value.pointer (some { block := bx, off := 0 }), Value.slice (some ad) cs.length cc] 59)).alloc (Obj.cells #[Value.int IntKind.i64 o0, Value.int IntKind.i64 a, Value.int IntKind.i64 n, Value.int IntKind.i64 b, Value.string s, Value.string t, Value.slice la ln lc] 42)) :=
    ((Below.refl _ _).alloc (Nat.le_refl _) _).alloc (by simp) _
  have e1 : ((X.alloc (Obj.cells #[Value.pointer (some { block := bx, off := 0 }), Value.slice (some ad) cs.length cc] 59)).alloc (Obj.cells #[Value.int IntKind.i64 o0, Value.int IntKind.i64 a, Value.int IntKind.i64 n, Value.int IntKind.i64 b, Value.string s, Value.string t, Value.slice la ln lc] 42)).heap[X.heap.size]? = some (Obj.cells #[Value.pointer (some { block := bx, off := 0 }), Value.slice (some ad) cs.length cc] 59) :=
    (Below.heap_alloc _ _ _ (by simp)).trans (heap_alloc_new X _)
  have e2 : ((X.alloc (Obj.cells #[Value.pointer (some { block := bx, off := 0 }), Value.slice (some ad) cs.length cc] 59)).alloc (Obj.cells #[Value.int IntKind.i64 o0, Value.int IntKind.i64 a, Value.int IntKind.i64 n, Value.int IntKind.i64 b, Value.string s, Value.string t, Value.slice la ln lc] 42)).heap[X.heap.size + 1]? = some (Obj.cells #[Value.int IntKind.i64 o0, Value.int IntKind.i64 a, Value.int IntKind.i64 n, Value.int IntKind.i64 b, Value.string s, Value.string t, Value.slice la ln lc] 42) := by
    have := heap_alloc_new (X.alloc (Obj.cells #[Value.pointer (some { block := bx, off := 0 }), Value.slice (some ad) cs.length cc] 59)) (Obj.cells #[Value.int IntKind.i64 o0, Value.int IntKind.i64 a, Value.int IntKind.i64 n, Value.int IntKind.i64 b, Value.string s, Value.string t, Value.slice la ln lc] 42)
    rw [World.size_alloc] at this
    exact this
  have esz : X.heap.size + 2 = ((X.alloc (Obj.cells #[Value.pointer (some { block := bx, off := 0 }), Value.slice (some ad) cs.length cc] 59)).alloc (Obj.cells #[Value.int IntKind.i64 o0, Value.int IntKind.i64 a, Value.int IntKind.i64 n, Value.int IntKind.i64 b, Value.string s, Value.string t, Value.slice la ln lc] 42)).heap.size := by simp
  generalize ((X.alloc (Obj.cells #[Value.pointer (some { block := bx, off := 0 }), Value.slice (some ad) cs.length cc] 59)).alloc (Obj.cells #[Value.int IntKind.i64 o0, Value.int IntKind.i64 a, Value.int IntKind.i64 n, Value.int IntKind.i64 b, Value.string s, Value.string t, Value.slice la ln lc] 42)) = W2 at *
  have HBA : Hid _ := hbA
  have HE1 : Hid _ := e1
  have HE2 : Hid _ := e2
  clear hbA e1 e2
  refine (ixFind_any cs (g + 1) _ s n b _ (IxAt.below HIX.out HBA.out) HRT.out (by omega)).mono ?_
  rw [← HE.out, ← HO.out]
  rintro e w3 ⟨v1, rfl, ho1, hz1, hb3⟩
  obtain ⟨a1, cp1, hv1⟩ := own_form ho1
  subst hv1
  have HO1 : Hid _ := ho1
  have HB3 : Hid _ := hb3
  have hs3 := hb3.size
  have b1 := (hb3.block X.heap.size (by omega)).trans HE1.out
  have b2 := (hb3.block (X.heap.size + 1) (by omega)).trans HE2.out
  have k1 : w3.cell? ⟨X.heap.size, 1, none⟩ = some (.slice (some ad) cs.length cc) := cell_of_row w3 _ 1 _ _ _ b1
  have j2 : w3.cell? ⟨X.heap.size + 1, 2, none⟩ = some (.int .i64 n) := cell_of_row w3 _ 2 _ _ _ b2
  have j3 : w3.cell? ⟨X.heap.size + 1, 3, none⟩ = some (.int .i64 b) := cell_of_row w3 _ 3 _ _ _ b2
  have j4 : w3.cell? ⟨X.heap.size + 1, 4, none⟩ = some (.string s) := cell_of_row w3 _ 4 _ _ _ b2
  have HX3 : Hid _ := HBA.out.trans (hb3.mono (by omega))
  clear ho1 hb3 b1 b2
  go_wp2_with fail
  refine (refFind_any cs ad cc s n b _ (by have := HRT.out.few; omega) (fun x hx => by have := HRT.out.len x hx; omega) (by omega) (src_keep HSRC.out HX3.out) HRT.out.pos).mono ?_
  rw [← HE.out, ← HO.out]
  rintro e w4 ⟨v2, rfl, ho2, hb4⟩
  obtain ⟨a2, cp2, hv2⟩ := own_form ho2
  subst hv2
  have HO24 : Hid _ := ho2
  have HO14 : Hid _ := own_below HO1.out hb4
  have HX4 : Hid _ := HX3.out.trans (hb4.mono HX3.out.size)
  have hs4 := hb4.size
  clear ho2 hb4 k1 j2 j3 j4 HO1
  obtain ⟨m, hm⟩ : ∃ m, m = O.length := ⟨_, rfl⟩
  rw [← hm] at hOl ⊢
  have HN : Hid _ := hm
  have hcase : a1 = none ∨ (E = 0 ∧ ∃ b1, a1 = some b1) := by
    cases a1 with
    | none => exact .inl rfl
    | some b1 =>
      refine .inr ⟨?_, b1, rfl⟩
      by_cases h0 : E = 0
      · exact h0
      · have := hz1 h0
        simp at this
  clear hz1 hm
  rcases hcase with rfl | ⟨hE, b1, rfl⟩
  all_goals
    go_wp2
    clear hnil
    go_loopw [11, 12] (fun ok i wr => ∃ q : Nat, q ≤ m ∧ ok = .bool true ∧ i = .int .i64 (q : Int) ∧ Below w4.heap.size w4 wr) (fun _ i _ => m - (intOf i).toNat)
    case atStart => exact ⟨0, Nat.zero_le _, rfl, rfl, Below.refl _ _⟩
    case round =>
      obtain ⟨q, hq, rfl, rfl, hbr⟩ := hrel
      have HBR : Hid _ := hbr
      clear hbr
      by_cases hlt : q < m
      · have hO1 := own_below HO14.out HBR.out
        have hO2 := own_below HO24.out HBR.out
        rw [← HN.out] at hO1 hO2
        obtain ⟨c1, d1, hv1, _, _⟩ := own_pos hO1 (by omega)
        obtain ⟨c2, d2, hv2, _, _⟩ := own_pos hO2 (by omega)
        simp only [Value.slice.injEq, true_and, reduceCtorEq, false_and, Option.some.injEq] at hv1 hv2
        all_goals
          obtain ⟨hv1, rfl⟩ := hv1
          obtain ⟨hv2, rfl⟩ := hv2
          subst hv1 hv2
          obtain ⟨p0, p1⟩ := own_place hO1 q (by rw [← HN.out]; exact hlt)
          obtain ⟨r0, r1⟩ := own_place hO2 q (by rw [← HN.out]; exact hlt)
          clear hO1 hO2
          have hlt' : decide ((q : Int) < (m : Int)) = true := by simp; omega
          have hlt2 : (q : Int) < (m : Int) := by omega
          go_wp2_with fail
          go_quiet (fail)
          go_wp2
          go_roundw
          case rel => exact ⟨q + 1, by omega, rfl, by go_num, below_drewN HBR.out _⟩
          case measure => simp [intOf]; omega
      · have hlt' : decide ((q : Int) < (m : Int)) = false := by simp; omega
        go_wp2_with fail
        have hX := HX4.out.trans (HBR.out.mono HX4.out.size)
        have hO1 := own_below HO14.out HBR.out
        have hsc' := shelfP_below HSH.out hX
        have hW' := (hX.block g hgX).trans HW.out
        rw [HN.out]
        refine (keepsPlaces_any _ g lv xv vp (.slice none 0 0) (.slice none 0 0) (.slice none 0 0) es _ O _ hW' hsc'.list (by omega) hO1 (by omega) (by rw [← HN.out]; exact hOl)).mono ?_
        rintro e w6 ⟨rfl, vc', x1, x2, x3, hW6, hl6, m0, m1, m2, m3, hb6, hpres⟩
        go_wp2
        go_ret
        exact ⟨rfl, HSI.out _ _ _ _ _ _ _ _ _ (by rw [← HN.out]; exact hOl) hX (by omega) hW6 hl6 m0 m1 m2 m3 hb6 hpres, (hX.mono (by omega)).trans hb6⟩

end Go.Proofs.YtfcbgfomhmcikaaGreatDoor

namespace Go.Proofs.YtfcbgfomhmcikaaGreatDoor
open Go.RowKit

/-- how it stands within Align: the read, the result, the best so far -/
structure AlB (w wr : World) (nm lt : List UInt8) (best : Rc) : Prop where
  below : Below w.heap.size w wr
  size : w.heap.size + 3 ≤ wr.heap.size
  read : wr.heap[w.heap.size]? = some (.cells #[.string ⟨nm.toArray⟩, .string ⟨lt.toArray⟩] 63 (0, 0))
  res : wr.heap[w.heap.size + 1]? = some (.cells #[.string ⟨#[]⟩, .int .i64 0, .int .i64 0, .string ⟨#[]⟩, .int .i64 0, .int .i64 0, .string ⟨#[]⟩, .string ⟨#[]⟩] 47 (0, 0))
  box : wr.heap[w.heap.size + 2]? = some (.cells best.vals 47 (0, 0))

theorem AlB.mono {w wr wr' : World} {nm lt : List UInt8} {best : Rc} (h : AlB w wr nm lt best) (hb : Below (w.heap.size + 3) wr wr') : AlB w wr' nm lt best :=
  ⟨h.below.trans (hb.mono (by omega)), Nat.le_trans h.size hb.size, (hb.block _ (by omega)).trans h.read, (hb.block _ (by omega)).trans h.res, (hb.block _ (by omega)).trans h.box⟩

theorem below_set {B : Nat} {a w : World} (h : Below B a w) {g : Nat} (hg : B ≤ g) (i : Nat) (u : Value) : Below B a (w.setCell ⟨g, i, none⟩ u) := h.setCell (p := ⟨g, i, none⟩) hg u

theorem AlB.store {w wr : World} {nm lt : List UInt8} {best : Rc} (h : AlB w wr nm lt best) (x : Rc) (g : Nat) (hg : g = w.heap.size + 2) :
    AlB w ((((((((wr.setCell ⟨g, 0, none⟩ (.string ⟨x.nm.toArray⟩)).setCell ⟨g, 1, none⟩ (.int .i64 x.vd)).setCell ⟨g, 2, none⟩ (.int .i64 x.sd)).setCell ⟨g, 3, none⟩ (.string ⟨x.ct.toArray⟩)).setCell ⟨g, 4, none⟩ (.int .i64 x.pl)).setCell ⟨g, 5, none⟩ (.int .i64 x.mm)).setCell ⟨g, 6, none⟩ (.string ⟨x.lt.toArray⟩)).setCell ⟨g, 7, none⟩ (.string ⟨x.cl.toArray⟩)) nm lt x := by
  have hle : g ≤ g := Nat.le_refl _
  have b_ : Below g wr wr := Below.refl g wr
  have h_ : wr.heap[g]? = some (.cells #[.string ⟨best.nm.toArray⟩, .int .i64 best.vd, .int .i64 best.sd, .string ⟨best.ct.toArray⟩, .int .i64 best.pl, .int .i64 best.mm, .string ⟨best.lt.toArray⟩, .string ⟨best.cl.toArray⟩] 47 (0, 0)) := by rw [hg]; exact h.box
  have b0 := below_set b_ hle 0 (.string ⟨x.nm.toArray⟩)
  have h0 : (wr.setCell ⟨g, 0, none⟩ (.string ⟨x.nm.toArray⟩)).heap[g]? = some (.cells #[.string ⟨x.nm.toArray⟩, .int .i64 best.vd, .int .i64 best.sd, .string ⟨best.ct.toArray⟩, .int .i64 best.pl, .int .i64 best.mm, .string ⟨best.lt.toArray⟩, .string ⟨best.cl.toArray⟩] 47 (0, 0)) := heap_setCell_same wr g 0 _ _ (.string ⟨x.nm.toArray⟩) h_
  generalize wr.setCell ⟨g, 0, none⟩ (.string ⟨x.nm.toArray⟩) = y0 at b0 h0 ⊢
  have b1 := below_set b0 hle 1 (.int .i64 x.vd)
  have h1 : (y0.setCell ⟨g, 1, none⟩ (.int .i64 x.vd)).heap[g]? = some (.cells #[.string ⟨x.nm.toArray⟩, .int .i64 x.vd, .int .i64 best.sd, .string ⟨best.ct.toArray⟩, .int .i64 best.pl, .int .i64 best.mm, .string ⟨best.lt.toArray⟩, .string ⟨best.cl.toArray⟩] 47 (0, 0)) := heap_setCell_same y0 g 1 _ _ (.int .i64 x.vd) h0
  generalize y0.setCell ⟨g, 1, none⟩ (.int .i64 x.vd) = y1 at b1 h1 ⊢
  have b2 := below_set b1 hle 2 (.int .i64 x.sd)
  have h2 : (y1.setCell ⟨g, 2, none⟩ (.int .i64 x.sd)).heap[g]? = some (.cells #[.string ⟨x.nm.toArray⟩, .int .i64 x.vd, .int .i64 x.sd, .string ⟨best.ct.toArray⟩, .int .i64 best.pl, .int .i64 best.mm, .string ⟨best.lt.toArray⟩, .string ⟨best.cl.toArray⟩] 47 (0, 0)) := heap_setCell_same y1 g 2 _ _ (.int .i64 x.sd) h1
  generalize y1.setCell ⟨g, 2, none⟩ (.int .i64 x.sd) = y2 at b2 h2 ⊢
  have b3 := below_set b2 hle 3 (.string ⟨x.ct.toArray⟩)
  have h3 : (y2.setCell ⟨g, 3, none⟩ (.string ⟨x.ct.toArray⟩)).heap[g]? = some (.cells #[.string ⟨x.nm.toArray⟩, .int .i64 x.vd, .int .i64 x.sd, .string ⟨x.ct.toArray⟩, .int .i64 best.pl, .int .i64 best.mm, .string ⟨best.lt.toArray⟩, .string ⟨best.cl.toArray⟩] 47 (0, 0)) := heap_setCell_same y2 g 3 _ _ (.string ⟨x.ct.toArray⟩) h2
  generalize y2.setCell ⟨g, 3, none⟩ (.string ⟨x.ct.toArray⟩) = y3 at b3 h3 ⊢
  have b4 := below_set b3 hle 4 (.int .i64 x.pl)
  have h4 : (y3.setCell ⟨g, 4, none⟩ (.int .i64 x.pl)).heap[g]? = some (.cells #[.string ⟨x.nm.toArray⟩, .int .i64 x.vd, .int .i64 x.sd, .string ⟨x.ct.toArray⟩, .int .i64 x.pl, .int .i64 best.mm, .string ⟨best.lt.toArray⟩, .string ⟨best.cl.toArray⟩] 47 (0, 0)) := heap_setCell_same y3 g 4 _ _ (.int .i64 x.pl) h3
  generalize y3.setCell ⟨g, 4, none⟩ (.int .i64 x.pl) = y4 at b4 h4 ⊢
  have b5 := below_set b4 hle 5 (.int .i64 x.mm)
  have h5 : (y4.setCell ⟨g, 5, none⟩ (.int .i64 x.mm)).heap[g]? = some (.cells #[.string ⟨x.nm.toArray⟩, .int .i64 x.vd, .int .i64 x.sd, .string ⟨x.ct.toArray⟩, .int .i64 x.pl, .int .i64 x.mm, .string ⟨best.lt.toArray⟩, .string ⟨best.cl.toArray⟩] 47 (0, 0)) := heap_setCell_same y4 g 5 _ _ (.int .i64 x.mm) h4
  generalize y4.setCell ⟨g, 5, none⟩ (.int .i64 x.mm) = y5 at b5 h5 ⊢
  have b6 := below_set b5 hle 6 (.string ⟨x.lt.toArray⟩)
  have h6 : (y5.setCell ⟨g, 6, none⟩ (.string ⟨x.lt.toArray⟩)).heap[g]? = some (.cells #[.string ⟨x.nm.toArray⟩, .int .i64 x.vd, .int .i64 x.sd, .string ⟨x.ct.toArray⟩, .int .i64 x.pl, .int .i64 x.mm, .string ⟨x.lt.toArray⟩, .string ⟨best.cl.toArray⟩] 47 (0, 0)) := heap_setCell_same y5 g 6 _ _ (.string ⟨x.lt.toArray⟩) h5
  generalize y5.setCell ⟨g, 6, none⟩ (.string ⟨x.lt.toArray⟩) = y6 at b6 h6 ⊢
  have b7 := below_set b6 hle 7 (.string ⟨x.cl.toArray⟩)
  have h7 : (y6.setCell ⟨g, 7, none⟩ (.string ⟨x.cl.toArray⟩)).heap[g]? = some (.cells #[.string ⟨x.nm.toArray⟩, .int .i64 x.vd, .int .i64 x.sd, .string ⟨x.ct.toArray⟩, .int .i64 x.pl, .int .i64 x.mm, .string ⟨x.lt.toArray⟩, .string ⟨x.cl.toArray⟩] 47 (0, 0)) := heap_setCell_same y6 g 7 _ _ (.string ⟨x.cl.toArray⟩) h6
  generalize y6.setCell ⟨g, 7, none⟩ (.string ⟨x.cl.toArray⟩) = y7 at b7 h7 ⊢
  subst hg
  exact ⟨h.below.trans (b7.mono (by omega)), Nat.le_trans h.size b7.size, (b7.block _ (by omega)).trans h.read, (b7.block _ (by omega)).trans h.res, h7⟩

theorem res_store {wr : World} (x : Rc) (g : Nat) (h_ : wr.heap[g]? = some (.cells #[.string ⟨#[]⟩, .int .i64 0, .int .i64 0, .string ⟨#[]⟩, .int .i64 0, .int .i64 0, .string ⟨#[]⟩, .string ⟨#[]⟩] 47 (0, 0))) :
    (((((((((wr.setCell ⟨g, 0, none⟩ (.string ⟨x.nm.toArray⟩)).setCell ⟨g, 1, none⟩ (.int .i64 x.vd)).setCell ⟨g, 2, none⟩ (.int .i64 x.sd)).setCell ⟨g, 3, none⟩ (.string ⟨x.ct.toArray⟩)).setCell ⟨g, 4, none⟩ (.int .i64 x.pl)).setCell ⟨g, 5, none⟩ (.int .i64 x.mm)).setCell ⟨g, 6, none⟩ (.string ⟨x.lt.toArray⟩)).setCell ⟨g, 7, none⟩ (.string ⟨x.cl.toArray⟩))).heap[g]? = some (.cells x.vals 47 (0, 0)) ∧ Below g wr ((((((((wr.setCell ⟨g, 0, none⟩ (.string ⟨x.nm.toArray⟩)).setCell ⟨g, 1, none⟩ (.int .i64 x.vd)).setCell ⟨g, 2, none⟩ (.int .i64 x.sd)).setCell ⟨g, 3, none⟩ (.string ⟨x.ct.toArray⟩)).setCell ⟨g, 4, none⟩ (.int .i64 x.pl)).setCell ⟨g, 5, none⟩ (.int .i64 x.mm)).setCell ⟨g, 6, none⟩ (.string ⟨x.lt.toArray⟩)).setCell ⟨g, 7, none⟩ (.string ⟨x.cl.toArray⟩)) := by
  have hle : g ≤ g := Nat.le_refl _
  have b_ : Below g wr wr := Below.refl g wr
  have b0 := below_set b_ hle 0 (.string ⟨x.nm.toArray⟩)
  have h0 : (wr.setCell ⟨g, 0, none⟩ (.string ⟨x.nm.toArray⟩)).heap[g]? = some (.cells #[.string ⟨x.nm.toArray⟩, .int .i64 0, .int .i64 0, .string ⟨#[]⟩, .int .i64 0, .int .i64 0, .string ⟨#[]⟩, .string ⟨#[]⟩] 47 (0, 0)) := heap_setCell_same wr g 0 _ _ (.string ⟨x.nm.toArray⟩) h_
  generalize wr.setCell ⟨g, 0, none⟩ (.string ⟨x.nm.toArray⟩) = y0 at b0 h0 ⊢
  have b1 := below_set b0 hle 1 (.int .i64 x.vd)
  have h1 : (y0.setCell ⟨g, 1, none⟩ (.int .i64 x.vd)).heap[g]? = some (.cells #[.string ⟨x.nm.toArray⟩, .int .i64 x.vd, .int .i64 0, .string ⟨#[]⟩, .int .i64 0, .int .i64 0, .string ⟨#[]⟩, .string ⟨#[]⟩] 47 (0, 0)) := heap_setCell_same y0 g 1 _ _ (.int .i64 x.vd) h0
  generalize y0.setCell ⟨g, 1, none⟩ (.int .i64 x.vd) = y1 at b1 h1 ⊢
  have b2 := below_set b1 hle 2 (.int .i64 x.sd)
  have h2 : (y1.setCell ⟨g, 2, none⟩ (.int .i64 x.sd)).heap[g]? = some (.cells #[.string ⟨x.nm.toArray⟩, .int .i64 x.vd, .int .i64 x.sd, .string ⟨#[]⟩, .int .i64 0, .int .i64 0, .string ⟨#[]⟩, .string ⟨#[]⟩] 47 (0, 0)) := heap_setCell_same y1 g 2 _ _ (.int .i64 x.sd) h1
  generalize y1.setCell ⟨g, 2, none⟩ (.int .i64 x.sd) = y2 at b2 h2 ⊢
  have b3 := below_set b2 hle 3 (.string ⟨x.ct.toArray⟩)
  have h3 : (y2.setCell ⟨g, 3, none⟩ (.string ⟨x.ct.toArray⟩)).heap[g]? = some (.cells #[.string ⟨x.nm.toArray⟩, .int .i64 x.vd, .int .i64 x.sd, .string ⟨x.ct.toArray⟩, .int .i64 0, .int .i64 0, .string ⟨#[]⟩, .string ⟨#[]⟩] 47 (0, 0)) := heap_setCell_same y2 g 3 _ _ (.string ⟨x.ct.toArray⟩) h2
  generalize y2.setCell ⟨g, 3, none⟩ (.string ⟨x.ct.toArray⟩) = y3 at b3 h3 ⊢
  have b4 := below_set b3 hle 4 (.int .i64 x.pl)
  have h4 : (y3.setCell ⟨g, 4, none⟩ (.int .i64 x.pl)).heap[g]? = some (.cells #[.string ⟨x.nm.toArray⟩, .int .i64 x.vd, .int .i64 x.sd, .string ⟨x.ct.toArray⟩, .int .i64 x.pl, .int .i64 0, .string ⟨#[]⟩, .string ⟨#[]⟩] 47 (0, 0)) := heap_setCell_same y3 g 4 _ _ (.int .i64 x.pl) h3
  generalize y3.setCell ⟨g, 4, none⟩ (.int .i64 x.pl) = y4 at b4 h4 ⊢
  have b5 := below_set b4 hle 5 (.int .i64 x.mm)
  have h5 : (y4.setCell ⟨g, 5, none⟩ (.int .i64 x.mm)).heap[g]? = some (.cells #[.string ⟨x.nm.toArray⟩, .int .i64 x.vd, .int .i64 x.sd, .string ⟨x.ct.toArray⟩, .int .i64 x.pl, .int .i64 x.mm, .string ⟨#[]⟩, .string ⟨#[]⟩] 47 (0, 0)) := heap_setCell_same y4 g 5 _ _ (.int .i64 x.mm) h4
  generalize y4.setCell ⟨g, 5, none⟩ (.int .i64 x.mm) = y5 at b5 h5 ⊢
  have b6 := below_set b5 hle 6 (.string ⟨x.lt.toArray⟩)
  have h6 : (y5.setCell ⟨g, 6, none⟩ (.string ⟨x.lt.toArray⟩)).heap[g]? = some (.cells #[.string ⟨x.nm.toArray⟩, .int .i64 x.vd, .int .i64 x.sd, .string ⟨x.ct.toArray⟩, .int .i64 x.pl, .int .i64 x.mm, .string ⟨x.lt.toArray⟩, .string ⟨#[]⟩] 47 (0, 0)) := heap_setCell_same y5 g 6 _ _ (.string ⟨x.lt.toArray⟩) h5
  generalize y5.setCell ⟨g, 6, none⟩ (.string ⟨x.lt.toArray⟩) = y6 at b6 h6 ⊢
  have b7 := below_set b6 hle 7 (.string ⟨x.cl.toArray⟩)
  have h7 : (y6.setCell ⟨g, 7, none⟩ (.string ⟨x.cl.toArray⟩)).heap[g]? = some (.cells #[.string ⟨x.nm.toArray⟩, .int .i64 x.vd, .int .i64 x.sd, .string ⟨x.ct.toArray⟩, .int .i64 x.pl, .int .i64 x.mm, .string ⟨x.lt.toArray⟩, .string ⟨x.cl.toArray⟩] 47 (0, 0)) := heap_setCell_same y6 g 7 _ _ (.string ⟨x.cl.toArray⟩) h6
  generalize y6.setCell ⟨g, 7, none⟩ (.string ⟨x.cl.toArray⟩) = y7 at b7 h7 ⊢
  exact ⟨h7, b7⟩

theorem AlB.start (w : World) (nm lt : List UInt8) (best : Rc) :
    AlB w (((w.alloc (.cells #[.string ⟨nm.toArray⟩, .string ⟨lt.toArray⟩] 63)).alloc (.cells #[.string ⟨#[]⟩, .int .i64 0, .int .i64 0, .string ⟨#[]⟩, .int .i64 0, .int .i64 0, .string ⟨#[]⟩, .string ⟨#[]⟩] 47)).alloc (.cells best.vals 47)) nm lt best := by
  refine ⟨(((Below.refl _ _).alloc (Nat.le_refl _) _).alloc (by simp) _).alloc (by simp; omega) _, by simp, ?_, ?_, ?_⟩
  · rw [Below.heap_alloc _ _ _ (by simp; omega), Below.heap_alloc _ _ _ (by simp)]
    exact heap_alloc_new w _
  · rw [Below.heap_alloc _ _ _ (by simp)]
    exact two_heap w _ _
  · have h := heap_alloc_new ((w.alloc (.cells #[.string ⟨nm.toArray⟩, .string ⟨lt.toArray⟩] 63)).alloc (.cells #[.string ⟨#[]⟩, .int .i64 0, .int .i64 0, .string ⟨#[]⟩, .int .i64 0, .int .i64 0, .string ⟨#[]⟩, .string ⟨#[]⟩] 47)) (.cells best.vals 47)
    rw [World.size_alloc, World.size_alloc] at h
    exact h

theorem Al.mis_short (n : Int) : ∀ (s t : List UInt8) (k : Nat), s.length ≤ k → Al.mis n s (t.take k) = Al.mis n s t := by
  intro s
  induction s with
  | nil => intro t k _; simp [Al.mis]
  | cons a s ih =>
    intro t k h
    obtain ⟨k, rfl⟩ : ∃ j, k = j + 1 := ⟨k - 1, by simp at h; omega⟩
    cases t with
    | nil => simp [Al.mis]
    | cons b t => simp only [List.take_succ_cons, Al.mis]; rw [ih t k (by simpa using h)]

theorem Al.err_none {b : Int} {lt : List UInt8} (h : Al.err b lt = 0) : 0 ≤ b ∧ b ≤ 3 ∧ Se.lettersErr lt = 0 ∧ lt.length ≤ 128 := by
  unfold Al.err at h
  split at h
  · simp at h
  · split at h
    · simp at h
    · refine ⟨by omega, by omega, h, ?_⟩
      unfold Se.lettersErr at h
      split at h
      · simp at h
      · split at h
        · simp at h
        · split at h
          · simp at h
          · omega

end Go.Proofs.YtfcbgfomhmcikaaGreatDoor

namespace Go.Proofs.YtfcbgfomhmcikaaGreatDoor
open Go.RowKit

/-- the letter at a place; N where there is none -/
def Pa.at (t : List UInt8) (p : Int) : UInt8 := if p < 0 then 78 else if (t.length : Int) ≤ p then 78 else t.getD p.toNat 0
/-- the two letters that follow -/
def Pa.one (n : Int) (t : List UInt8) (p : Nat) : UInt8 := if Lt.topB n then Pa.at t ((p : Int) + 1) else Lt.comp (Pa.at t ((p : Int) - 1))
def Pa.two (n : Int) (t : List UInt8) (p : Nat) : UInt8 := if Lt.topB n then Pa.at t ((p : Int) + 2) else Lt.comp (Pa.at t ((p : Int) - 2))
/-- the kind -/
def Pa.kind (a b : UInt8) : UInt8 := if ((a.toNat : Int) == 71) = true then 122 else if ((a.toNat : Int) == 78) = true then 117 else if ((b.toNat : Int) == 71) = true then 120 else if ((b.toNat : Int) == 78) = true then 117 else 104

set_option maxHeartbeats 400000 in
theorem letterAt_any (t : ByteArray) (p : Int) (w : World) :
    Calls Tryz.prog 167 #[.string t, .int .i64 p] w fun e w' => e = .returned (.int .u8 ((Pa.at t.data.toList p).toNat : Int)) ∧ w' = w := by
  obtain ⟨R, hR⟩ : ∃ R, R = Pa.at t.data.toList p := ⟨_, rfl⟩
  rw [← hR]
  unfold Pa.at at hR
  have hsz : t.data.toList.length = t.size := by simp
  rw [hsz] at hR
  by_cases h0 : p < 0
  · have HR : Hid (R = 78) := by show _ = _; rw [hR, if_pos h0]
    clear hR
    go_enter Tryz.func167, Tryz.ntmps167
    go_wp2
    go_ret
    exact ⟨ret_int (by rw [HR.out]; rfl), rfl⟩
  · by_cases h1 : (t.size : Int) ≤ p
    · have HR : Hid (R = 78) := by show _ = _; rw [hR, if_neg h0, if_pos h1]
      clear hR
      go_enter Tryz.func167, Tryz.ntmps167
      go_wp2
      go_ret
      exact ⟨ret_int (by rw [HR.out]; rfl), rfl⟩
    · obtain ⟨k, rfl⟩ : ∃ k : Nat, p = (k : Int) := ⟨p.toNat, by omega⟩
      have hk : k < t.size := by omega
      have hi := ix_str t k hk (k : Int) rfl
      have h2 : (k : Int) < (t.size : Int) := by omega
      have HR : Hid (R = t[k]) := by
        show _ = _
        rw [hR, if_neg h0, if_neg h1, Int.toNat_natCast, List.getD_eq_getElem?_getD, List.getElem?_eq_getElem (by rw [hsz]; exact hk)]
        rfl
      clear hR
      go_enter Tryz.func167, Tryz.ntmps167
      go_wp2
      go_ret
      exact ⟨ret_int (by rw [HR.out]), rfl⟩

set_option maxHeartbeats 400000 in
theorem kind_any (a b : UInt8) (w : World) :
    Calls Tryz.prog 151 #[.int .u8 (a.toNat : Int), .int .u8 (b.toNat : Int)] w fun e w' => e = .returned (.int .u8 ((Pa.kind a b).toNat : Int)) ∧ w' = w := by
  go_enter Tryz.func151, Tryz.ntmps151
  go_wp2
  all_goals go_ret
  all_goals exact ⟨ret_int (by unfold Pa.kind; simp only [*, if_true, if_false, Bool.false_eq_true]; rfl), rfl⟩

set_option maxRecDepth 100000 in
set_option maxHeartbeats 400000 in
theorem following_any (t : ByteArray) (p : Nat) (n : Int) (w : World) (ht : t.size ≤ 140737488355327) (hp : p < t.size) :
    Calls Tryz.prog 152 #[.string t, .int .i64 (p : Int), .int .i64 n] w fun e w' => e = .returned (.tuple #[.int .u8 ((Pa.one n t.data.toList p).toNat : Int), .int .u8 ((Pa.two n t.data.toList p).toNat : Int)]) ∧ w' = w := by
  obtain ⟨A, hA⟩ : ∃ A, A = Pa.one n t.data.toList p := ⟨_, rfl⟩
  obtain ⟨B, hB⟩ : ∃ B, B = Pa.two n t.data.toList p := ⟨_, rfl⟩
  rw [← hA, ← hB]
  unfold Pa.one at hA
  unfold Pa.two at hB
  cases hT : Lt.topB n with
  | true =>
    have HT : Hid _ := hT
    rw [hT, if_pos rfl] at hA hB
    have H1 : Hid (∀ W : World, Calls Tryz.prog 167 #[.string t, .int .i64 ((p : Int) + 1)] W fun e w' => e = .returned (.int .u8 (A.toNat : Int)) ∧ w' = W) := fun W => by rw [hA]; exact letterAt_any t _ W
    have H2 : Hid (∀ W : World, Calls Tryz.prog 167 #[.string t, .int .i64 ((p : Int) + 2)] W fun e w' => e = .returned (.int .u8 (B.toNat : Int)) ∧ w' = W) := fun W => by rw [hB]; exact letterAt_any t _ W
    clear hA hB hT
    go_enter Tryz.func152, Tryz.ntmps152
    go_wp2_with (go_at_call 72; refine (strTop_any _ _).mono ?_; rintro e w' ⟨rfl, hw⟩; subst w'; rw [HT.out])
    refine (H1.out _).mono ?_
    rintro e w' ⟨rfl, hw⟩
    subst w'
    go_wp2_with fail
    refine (H2.out _).mono ?_
    rintro e w' ⟨rfl, hw⟩
    subst w'
    go_wp2
    go_ret2
    exact ⟨rfl, rfl⟩
  | false =>
    have HT : Hid _ := hT
    rw [hT, if_neg (by simp)] at hA hB
    obtain ⟨a, ha⟩ : ∃ a, a = Pa.at t.data.toList ((p : Int) - 1) := ⟨_, rfl⟩
    obtain ⟨b, hb⟩ : ∃ b, b = Pa.at t.data.toList ((p : Int) - 2) := ⟨_, rfl⟩
    have H1 : Hid (∀ W : World, Calls Tryz.prog 167 #[.string t, .int .i64 ((p : Int) - 1)] W fun e w' => e = .returned (.int .u8 (a.toNat : Int)) ∧ w' = W) := fun W => by rw [ha]; exact letterAt_any t _ W
    have H2 : Hid (∀ W : World, Calls Tryz.prog 167 #[.string t, .int .i64 ((p : Int) - 2)] W fun e w' => e = .returned (.int .u8 (b.toNat : Int)) ∧ w' = W) := fun W => by rw [hb]; exact letterAt_any t _ W
    rw [← ha] at hA
    rw [← hb] at hB
    have HC1 : Hid (∀ W : World, Calls Tryz.prog 36 #[.int .u8 (a.toNat : Int)] W fun e w' => e = .returned (.int .u8 (A.toNat : Int)) ∧ w' = W) := fun W => by rw [hA]; exact complement_any a W
    have HC2 : Hid (∀ W : World, Calls Tryz.prog 36 #[.int .u8 (b.toNat : Int)] W fun e w' => e = .returned (.int .u8 (B.toNat : Int)) ∧ w' = W) := fun W => by rw [hB]; exact complement_any b W
    clear hA hB hT ha hb
    obtain ⟨x, hx⟩ : ∃ x : Int, x = (a.toNat : Int) := ⟨_, rfl⟩
    obtain ⟨y, hy⟩ : ∃ y : Int, y = (b.toNat : Int) := ⟨_, rfl⟩
    rw [← hx] at H1 HC1
    rw [← hy] at H2 HC2
    clear hx hy
    go_enter Tryz.func152, Tryz.ntmps152
    go_wp2_with (go_at_call 72; refine (strTop_any _ _).mono ?_; rintro e w' ⟨rfl, hw⟩; subst w'; rw [HT.out])
    refine (H1.out _).mono ?_
    rintro e w' ⟨rfl, hw⟩
    subst w'
    go_wp2_with fail
    refine (HC1.out _).mono ?_
    rintro e w' ⟨rfl, hw⟩
    subst w'
    go_wp2_with fail
    refine (H2.out _).mono ?_
    rintro e w' ⟨rfl, hw⟩
    subst w'
    go_wp2_with fail
    refine (HC2.out _).mono ?_
    rintro e w' ⟨rfl, hw⟩
    subst w'
    go_wp2
    go_ret2
    exact ⟨rfl, rfl⟩

end Go.Proofs.YtfcbgfomhmcikaaGreatDoor
