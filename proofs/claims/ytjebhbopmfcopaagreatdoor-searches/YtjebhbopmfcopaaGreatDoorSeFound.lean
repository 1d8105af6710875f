/-
  THE WALK of the World's 'found': an index is asked, and the document; the answers are held against each other, and what came out is written into the book. Own text of the verifier.
-/
import Derived.Test.YtjebhbopmfcopaaGreatDoorSeMade
import Derived.Laws.StructEq
namespace Go.Proofs.YtjebhbopmfcopaaGreatDoor
open Go.RowKit

theorem eq_place (a b : Int) (w : World) : (Op.equalIn 10000 78 (.agg #[.int .i64 a, .int .i64 b]) (.agg #[.int .i64 a, .int .i64 b])).run Tryz.prog w = .ok true w := by
  simp [go_sem, Tryz.underlying78, Tryz.underlying3]
theorem eql_place (a b : Int) (w : World) : (binOp .eql 78 (.agg #[.int .i64 a, .int .i64 b]) (.agg #[.int .i64 a, .int .i64 b])).run Tryz.prog w = .ok (.bool true) w := by
  rw [run_eql_struct, eq_place]; rfl

theorem pls_at (l : List (Nat × Nat)) (k : Nat) (h : k < l.length) : (Se.pls l)[k * 2]? = some (.int .i64 (l[k].1 : Int)) ∧ (Se.pls l)[k * 2 + 1]? = some (.int .i64 (l[k].2 : Int)) := by
  induction l generalizing k with
  | nil => simp at h
  | cons a l ih =>
    have e : Se.pls (a :: l) = .int .i64 (a.1 : Int) :: .int .i64 (a.2 : Int) :: Se.pls l := rfl
    cases k with
    | zero => rw [e]; simp
    | succ k =>
      have := ih k (by simpa using h)
      rw [e, show (k + 1) * 2 = k * 2 + 1 + 1 by omega]
      simpa using this

theorem own_place {w : World} {base e n cap g : Nat} {l : List (Nat × Nat)} (h : w.ownsRow base e 2 (.slice (some ⟨g, 0, none⟩) n cap) n (Se.pls l)) (k : Nat) (hk : k < l.length) :
    w.cell? ⟨g, k * 2, none⟩ = some (.int .i64 (l[k].1 : Int)) ∧ w.cell? ⟨g, k * 2 + 1, none⟩ = some (.int .i64 (l[k].2 : Int)) := by
  have hl : l.length * 2 = n * 2 := by have := h.1; rw [Se.pls_length] at this; exact this
  obtain ⟨p0, p1⟩ := pls_at l k hk
  exact ⟨(h.cellAt (k * 2) (by omega)).trans p0, (h.cellAt (k * 2 + 1) (by omega)).trans p1⟩

theorem Se.findOut_length {cs : List Pr} (h : Se.Right cs) (n b : Int) (S : List UInt8) : (Se.findOut n b S cs).length ≤ 90000 := by
  unfold Se.findOut
  split
  · have h1 := Se.inAll_length n b S cs 4096 h.len cs.length
    have h2 := h.few
    have h3 : cs.length * (4096 + 1) ≤ 16 * (4096 + 1) := Nat.mul_le_mul_right _ h2
    omega
  · simp

set_option maxRecDepth 100000 in
set_option maxHeartbeats 1600000 in
theorem found_any (X : World) (g : Nat) (lv : Value) (k : Nat) (xv vp : Value) (ps : List Px) (es : List Value) (px : Px) (hpx : px ∈ ps) (o0 a n b : Int) (s t : ByteArray) (la : Option Addr) (ln lc : Nat)
    (hW : X.heap[g]? = some (.cells #[lv, xv, .slice none 0 0, .slice none 0 0, vp, .slice none 0 0] 68 (0, 0))) (hx : X.ownsRow (g + 1) 115 2 xv ps.length (Pxs ps)) (hok : PairsOk X g ps) (hsh : ShelfP X g vp es)
    (h4 : es.length % 4 = 0) (h2 : es.length ≤ 4 * k) (h3 : ps.length ≤ k) (hk : 4 * k + 4 ≤ 7000000000000) (hs : s.size ≤ 140737488351232) :
    Calls Tryz.prog 55 #[.pointer (some ⟨g, 0, none⟩), .agg #[px.1, px.2.1], .agg #[.int .i64 o0, .int .i64 a, .int .i64 n, .int .i64 b, .string s, .string t, .slice la ln lc]] X fun e X' => e = .returned (.bool true) ∧ SI X' g lv (k + 1) ∧ Below g X X' := by
  have hgX : g < X.heap.size := (Array.getElem?_eq_some_iff.1 hW).1
  obtain ⟨hix, hne, hra⟩ := hok px hpx
  obtain ⟨p, v, cs⟩ := px
  have hright := Se.right_of cs hne
  obtain ⟨bx, hbx⟩ : ∃ bx, p = .pointer (some ⟨bx, 0, none⟩) := by obtain ⟨bx, _, _, h1, _⟩ := hix; exact ⟨bx, h1⟩
  obtain ⟨ad, cc, hv, hsrc⟩ : ∃ ad cc, v = .slice (some ad) cs.length cc ∧ ∀ j u, (Prs cs)[j]? = some u → X.cell? (ad.add j) = some u := by
    have hsr : Src X v cs.length (Prs cs) := hra.ref.src
    rcases hsr with ⟨_, h0, _⟩ | ⟨ad, c, hv, hs⟩
    · have := hright.pos
      omega
    · exact ⟨ad, c, hv, hs⟩
  have hix' : IxAt X (g + 1) p cs := hix
  subst hbx hv
  have HIX : Hid _ := hix'
  have HSRC : Hid _ := hsrc
  have HRT : Hid _ := hright
  have HSI : Hid _ := fun Y Z B m v' x0 x1 x2 x3 hm hXY hB c1 c2 c3 c4 c5 c6 c7 c8 => @si_found X Y Z g m k B lv xv vp v' x0 x1 x2 x3 ps es hW hx hok hsh h4 h2 h3 hk hm hXY hB c1 c2 c3 c4 c5 c6 c7 c8
  have HW : Hid _ := hW
  have HSH : Hid _ := hsh
  obtain ⟨E, hE⟩ : ∃ E, E = Se.findErr n b s.data.toList := ⟨_, rfl⟩
  obtain ⟨O, hO⟩ : ∃ O, O = Se.findOut n b s.data.toList cs := ⟨_, rfl⟩
  have hOl : O.length ≤ 90000 := by rw [hO]; exact Se.findOut_length hright _ _ _
  have HE : Hid _ := hE
  have HO : Hid _ := hO
  have heq := eql_place
  have hnil := fun (wy : World) (a : Option Addr) (l c : Nat) => Lib.run_eql_slice_nil (P := Tryz.prog) wy 119 78 a l c 0 0 Tryz.underlying119
  clear hix hix' hne hra hright hsrc hx hok hsh hW hE hO hpx
  go_enter Tryz.func55, Tryz.ntmps55
  go_wp2_with fail
  have hbA : Below X.heap.size X ((X.alloc (Obj.cells #[Value.pointer (some { block := bx, off := 0 }), Value.slice (some ad) cs.length cc] 115)).alloc (Obj.cells #[Value.int IntKind.i64 o0, Value.int IntKind.i64 a, Value.int IntKind.i64 n, Value.int IntKind.i64 b, Value.string s, Value.string t, Value.slice la ln lc] 70)) :=
    ((Below.refl _ _).alloc (Nat.le_refl _) _).alloc (by simp) _
  have e1 : ((X.alloc (Obj.cells #[Value.pointer (some { block := bx, off := 0 }), Value.slice (some ad) cs.length cc] 115)).alloc (Obj.cells #[Value.int IntKind.i64 o0, Value.int IntKind.i64 a, Value.int IntKind.i64 n, Value.int IntKind.i64 b, Value.string s, Value.string t, Value.slice la ln lc] 70)).heap[X.heap.size]? = some (Obj.cells #[Value.pointer (some { block := bx, off := 0 }), Value.slice (some ad) cs.length cc] 115) :=
    (Below.heap_alloc _ _ _ (by simp)).trans (heap_alloc_new X _)
  have e2 : ((X.alloc (Obj.cells #[Value.pointer (some { block := bx, off := 0 }), Value.slice (some ad) cs.length cc] 115)).alloc (Obj.cells #[Value.int IntKind.i64 o0, Value.int IntKind.i64 a, Value.int IntKind.i64 n, Value.int IntKind.i64 b, Value.string s, Value.string t, Value.slice la ln lc] 70)).heap[X.heap.size + 1]? = some (Obj.cells #[Value.int IntKind.i64 o0, Value.int IntKind.i64 a, Value.int IntKind.i64 n, Value.int IntKind.i64 b, Value.string s, Value.string t, Value.slice la ln lc] 70) := by
    have := heap_alloc_new (X.alloc (Obj.cells #[Value.pointer (some { block := bx, off := 0 }), Value.slice (some ad) cs.length cc] 115)) (Obj.cells #[Value.int IntKind.i64 o0, Value.int IntKind.i64 a, Value.int IntKind.i64 n, Value.int IntKind.i64 b, Value.string s, Value.string t, Value.slice la ln lc] 70)
    rw [World.size_alloc] at this
    exact this
  have esz : X.heap.size + 2 = ((X.alloc (Obj.cells #[Value.pointer (some { block := bx, off := 0 }), Value.slice (some ad) cs.length cc] 115)).alloc (Obj.cells #[Value.int IntKind.i64 o0, Value.int IntKind.i64 a, Value.int IntKind.i64 n, Value.int IntKind.i64 b, Value.string s, Value.string t, Value.slice la ln lc] 70)).heap.size := by simp
  generalize ((X.alloc (Obj.cells #[Value.pointer (some { block := bx, off := 0 }), Value.slice (some ad) cs.length cc] 115)).alloc (Obj.cells #[Value.int IntKind.i64 o0, Value.int IntKind.i64 a, Value.int IntKind.i64 n, Value.int IntKind.i64 b, Value.string s, Value.string t, Value.slice la ln lc] 70)) = W2 at *
  have HBA : Hid _ := hbA
  have HE1 : Hid _ := e1
  have HE2 : Hid _ := e2
  clear hbA e1 e2
  refine (ixFind_any cs (g + 1) _ s n b _ (IxAt.below HIX.out HBA.out) HRT.out (by omega)).mono ?_
  rw [← HE.out, ← HO.out]
  rintro e w3 ⟨v1, rfl, ho1, hz1, hb3⟩
  obtain ⟨a1, cp1, hv1⟩ := own_form ho1
  subst hv1
  have HO1 : Hid _ := ho1
  have HB3 : Hid _ := hb3
  have hs3 := hb3.size
  have b1 := (hb3.block X.heap.size (by omega)).trans HE1.out
  have b2 := (hb3.block (X.heap.size + 1) (by omega)).trans HE2.out
  have k1 : w3.cell? ⟨X.heap.size, 1, none⟩ = some (.slice (some ad) cs.length cc) := cell_of_row w3 _ 1 _ _ _ b1
  have j2 : w3.cell? ⟨X.heap.size + 1, 2, none⟩ = some (.int .i64 n) := cell_of_row w3 _ 2 _ _ _ b2
  have j3 : w3.cell? ⟨X.heap.size + 1, 3, none⟩ = some (.int .i64 b) := cell_of_row w3 _ 3 _ _ _ b2
  have j4 : w3.cell? ⟨X.heap.size + 1, 4, none⟩ = some (.string s) := cell_of_row w3 _ 4 _ _ _ b2
  have HX3 : Hid _ := HBA.out.trans (hb3.mono (by omega))
  clear ho1 hb3 b1 b2
  go_wp2_with fail
  refine (refFind_any cs ad cc s n b _ (by have := HRT.out.few; omega) (fun x hx => by have := HRT.out.len x hx; omega) (by omega) (src_keep HSRC.out HX3.out) HRT.out.pos).mono ?_
  rw [← HE.out, ← HO.out]
  rintro e w4 ⟨v2, rfl, ho2, hb4⟩
  obtain ⟨a2, cp2, hv2⟩ := own_form ho2
  subst hv2
  have HO24 : Hid _ := ho2
  have HO14 : Hid _ := own_below HO1.out hb4
  have HX4 : Hid _ := HX3.out.trans (hb4.mono HX3.out.size)
  have hs4 := hb4.size
  clear ho2 hb4 k1 j2 j3 j4 HO1
  obtain ⟨m, hm⟩ : ∃ m, m = O.length := ⟨_, rfl⟩
  rw [← hm] at hOl ⊢
  have HN : Hid _ := hm
  have hcase : a1 = none ∨ (E = 0 ∧ ∃ b1, a1 = some b1) := by
    cases a1 with
    | none => exact .inl rfl
    | some b1 =>
      refine .inr ⟨?_, b1, rfl⟩
      by_cases h0 : E = 0
      · exact h0
      · have := hz1 h0
        simp at this
  clear hz1 hm
  rcases hcase with rfl | ⟨hE, b1, rfl⟩
  all_goals
    go_wp2
    clear hnil
    go_loopw [11, 12] (fun ok i wr => ∃ q : Nat, q ≤ m ∧ ok = .bool true ∧ i = .int .i64 (q : Int) ∧ Below w4.heap.size w4 wr) (fun _ i _ => m - (intOf i).toNat)
    case atStart => exact ⟨0, Nat.zero_le _, rfl, rfl, Below.refl _ _⟩
    case round =>
      obtain ⟨q, hq, rfl, rfl, hbr⟩ := hrel
      have HBR : Hid _ := hbr
      clear hbr
      by_cases hlt : q < m
      · have hO1 := own_below HO14.out HBR.out
        have hO2 := own_below HO24.out HBR.out
        rw [← HN.out] at hO1 hO2
        obtain ⟨c1, d1, hv1, _, _⟩ := own_pos hO1 (by omega)
        obtain ⟨c2, d2, hv2, _, _⟩ := own_pos hO2 (by omega)
        simp only [Value.slice.injEq, true_and, reduceCtorEq, false_and, Option.some.injEq] at hv1 hv2
        all_goals
          obtain ⟨hv1, rfl⟩ := hv1
          obtain ⟨hv2, rfl⟩ := hv2
          subst hv1 hv2
          obtain ⟨p0, p1⟩ := own_place hO1 q (by rw [← HN.out]; exact hlt)
          obtain ⟨r0, r1⟩ := own_place hO2 q (by rw [← HN.out]; exact hlt)
          clear hO1 hO2
          have hlt' : decide ((q : Int) < (m : Int)) = true := by simp; omega
          have hlt2 : (q : Int) < (m : Int) := by omega
          go_wp2_with fail
          go_quiet (fail)
          go_wp2
          go_roundw
          case rel => exact ⟨q + 1, by omega, rfl, by go_num, below_drewN HBR.out _⟩
          case measure => simp [intOf]; omega
      · have hlt' : decide ((q : Int) < (m : Int)) = false := by simp; omega
        go_wp2_with fail
        have hX := HX4.out.trans (HBR.out.mono HX4.out.size)
        have hO1 := own_below HO14.out HBR.out
        have hsc' := shelfP_below HSH.out hX
        have hW' := (hX.block g hgX).trans HW.out
        rw [HN.out]
        refine (keepsPlaces_any _ g lv xv vp (.slice none 0 0) (.slice none 0 0) (.slice none 0 0) es _ O _ hW' hsc'.list (by omega) hO1 (by omega) (by rw [← HN.out]; exact hOl)).mono ?_
        rintro e w6 ⟨rfl, vc', x1, x2, x3, hW6, hl6, m0, m1, m2, m3, hb6, hpres⟩
        go_wp2
        go_ret
        exact ⟨rfl, HSI.out _ _ _ _ _ _ _ _ _ (by rw [← HN.out]; exact hOl) hX (by omega) hW6 hl6 m0 m1 m2 m3 hb6 hpres, (hX.mono (by omega)).trans hb6⟩

end Go.Proofs.YtjebhbopmfcopaaGreatDoor
