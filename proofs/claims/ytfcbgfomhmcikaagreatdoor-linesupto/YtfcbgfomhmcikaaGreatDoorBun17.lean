/-
  THE WORLD of the law Lines: 'rendered' and 'parsed', given that the program's Render and Parse answer as they should. Own text of the verifier.
  THE WORLD of the law Lines: 'parsed', and the steps, given that the program's Render and Parse answer as they should. Own text of the verifier.
  THE WALKS of the steps of kinds Reverse and Convert, of an empty book, and of the law Strands. Own text of the verifier.
  THE WALK of the law Lines, given that the program's Render and Parse answer as they should. Own text of the verifier.
  THE WALK of the program's lineOf. Own text of the verifier.
-/
import Derived.Test.YtfcbgfomhmcikaaGreatDoorBun16
import Derived.Test.YtfcbgfomhmcikaaGreatDoorXLnParse
import Derived.Test.YtfcbgfomhmcikaaGreatDoorBun8
import Derived.Test.YtfcbgfomhmcikaaGreatDoorBun7
import Derived.Test.YtfcbgfomhmcikaaGreatDoorBun2
import Derived.Deep.RegionHeld3
import Derived.Lib.AppendIntMem
namespace Go.Proofs.YtfcbgfomhmcikaaGreatDoor
open Go.RowKit

/-- the program's Render, of records that lie at the head of a block, and of nil -/
def RenderOk : Prop := (∀ (rs : List Rc) (G cc : Nat) (w : World), LnG w → rs.length ≤ 10000000 → (∀ r ∈ rs, r.Small) → (∀ j u, (Rcs rs)[j]? = some u → w.cell? ((⟨G, 0, none⟩ : Addr).add j) = some u) →
    Calls Tryz.prog 43 #[.slice (some ⟨G, 0, none⟩) rs.length cc] w fun e w' => e = .returned (.tuple #[.string ⟨(Ln.render rs).toArray⟩, .int .i64 (Ln.renderErr rs)]) ∧ Below w.heap.size w w') ∧
  (∀ w : World, LnG w → Calls Tryz.prog 43 #[.slice none 0 0] w fun e w' => e = .returned (.tuple #[.string ⟨#[]⟩, .int .i64 0]) ∧ Below w.heap.size w w')
/-- the program's Parse -/
def ParseOk : Prop := ∀ (s : ByteArray) (w : World), LnG w → s.size ≤ 10000000 → Calls Tryz.prog 46 #[.string s] w fun e w' => Parsed s.data.toList w e w'

theorem lentR_block {X w1 : World} {rs : List Rc} {lv v : Value} (hl : LentR X w1 rs lv v) : X.heap.size ≤ w1.heap.size ∧ Below X.heap.size X w1 ∧ ∀ q, v.ownBlock = some q → q = X.heap.size ∧ X.heap.size < w1.heap.size := by
  rcases hl with ⟨_, _, rfl, rfl⟩ | ⟨ad, cc, _, rfl, ho, hb, hlt⟩
  · exact ⟨Nat.le_refl _, Below.refl _ _, fun q hq => by cases hq⟩
  · exact ⟨by omega, hb, fun q hq => by cases hq; exact ⟨rfl, hlt⟩⟩

theorem lentR_render (H : RenderOk) {X w1 : World} {rs : List Rc} {lv v : Value} (hl : LentR X w1 rs lv v) (hr : RecsOk X lv rs) (hn : rs.length ≤ 10000000) (hG : LnG w1) :
    Calls Tryz.prog 43 #[v] w1 fun e w' => e = .returned (.tuple #[.string ⟨(Ln.render rs).toArray⟩, .int .i64 (Ln.renderErr rs)]) ∧ Below w1.heap.size w1 w' := by
  rcases hl with ⟨_, rfl, rfl, rfl⟩ | ⟨ad, cc, _, rfl, ho, hb, hlt⟩
  · exact H.2 _ hG
  · refine H.1 rs X.heap.size (rs.length + 8) w1 hG hn hr.txt (fun j u hj => ?_)
    have hjl : j < rs.length * 8 := by
      have := (List.getElem?_eq_some_iff.1 hj).1
      rw [Rcs_length] at this
      exact this
    rw [Addr.add_lit, Nat.zero_add, ho.cellAt j (by omega), lentR, Rcs_append, List.getElem?_append_left (by rw [Rcs_length]; exact hjl)]
    exact hj

theorem refRender_any {w : World} {rs : List Rc} {lv : Value} (hr : RecsOk w lv rs) :
    Calls Tryz.prog 44 #[lv] w fun e w' => e = .returned (.tuple #[.string ⟨(Ln.render rs).toArray⟩, .int .i64 (Ln.renderErr rs)]) ∧ Below w.heap.size w w' := by
  have hlen := hr.len
  rcases hr.src with ⟨rfl, h0, _⟩ | ⟨ad, c, rfl, hs⟩
  · obtain rfl : rs = [] := List.eq_nil_of_length_eq_zero h0
    exact refRender_nil w
  · exact refRender_row rs ad c w (by omega) hr.txt hs

theorem lentR_whole {X w1 w3 : World} {rs : List Rc} {lv v : Value} (hl : LentR X w1 rs lv v) (hr : RecsOk X lv rs) (hb : Below w1.heap.size w1 w3) :
    Calls Tryz.prog 45 #[v, lv] w3 fun e w' => e = .returned (.bool true) ∧ w3.grownBy w' v.ownBlock := by
  rcases hl with ⟨rfl, _, rfl, _⟩ | ⟨ad, cc, rfl, rfl, ho, hb1, hlt⟩
  · refine (wholeRecords_nil _ w3).mono ?_
    rintro e w' ⟨rfl, rfl⟩
    exact ⟨rfl, World.grownBy.refl _ _⟩
  · rcases hr.src with ⟨h, _⟩ | ⟨ad', c', hv, hs⟩
    · simp at h
    · simp only [Value.slice.injEq, Option.some.injEq, true_and] at hv
      obtain ⟨rfl, rfl⟩ := hv
      refine wholeRecords_row rs X.heap.size cc ad w3 hr.len (src_keep (src_keep hs hb1) hb) (fun hp he => ?_) (own_below ho hb)
      have := World.block_lt_of_cell? X _ (rc_src hs 0 hp).1
      rw [add_block, he] at this
      omega

theorem RecsOk.below {X Y : World} {v : Value} {rs : List Rc} (h : RecsOk X v rs) (hb : Below X.heap.size X Y) : RecsOk Y v rs := ⟨h.src.mono hb, h.len, h.txt⟩

set_option maxRecDepth 100000 in
set_option maxHeartbeats 800000 in
theorem rendered_any (H : RenderOk) (X : World) (la : Option Addr) (n c : Nat) (rs : List Rc) (hR : RecsOk X (.slice la n c) rs) (hn : rs.length ≤ 10000000) (hG : LnG X) :
    Calls Tryz.prog 19 #[.slice la n c] X fun e X' => e = .returned (.bool true) ∧ Below X.heap.size X X' := by
  have HR : Hid _ := hR
  have HG : Hid (∀ Y, Below X.heap.size X Y → LnG Y) := fun Y hb => hG.below hG.few hb
  clear hG
  obtain ⟨T, hT⟩ : ∃ T, T = Ln.render rs := ⟨_, rfl⟩
  obtain ⟨E, hE⟩ : ∃ E, E = Ln.renderErr rs := ⟨_, rfl⟩
  have HT : Hid _ := hT
  have HE : Hid _ := hE
  clear hR hT hE
  go_enter Tryz.func19, Tryz.ntmps19
  go_wp2_with fail
  refine (lentRecords_any rs _ _ HR.out).mono ?_
  rintro e w1 ⟨v1, rfl, hl⟩
  have HL : Hid _ := hl
  clear hl
  go_wp2_with fail
  refine (lentR_render H HL.out HR.out hn (HG.out _ (lentR_block HL.out).2.1)).mono ?_
  rw [← HT.out, ← HE.out]
  rintro e w2 ⟨rfl, hb2⟩
  obtain ⟨hs1, hb1, hq1⟩ := lentR_block HL.out
  have HB2 : Hid _ := hb2
  have HBX2 : Hid _ := hb1.trans (hb2.mono hs1)
  clear hb1 hb2
  go_wp2_with fail
  refine (refRender_any (RecsOk.below HR.out HBX2.out)).mono ?_
  rw [← HT.out, ← HE.out]
  rintro e w3 ⟨rfl, hb3⟩
  have HB3 : Hid _ := HB2.out.trans (hb3.mono HB2.out.size)
  have HBX3 : Hid _ := HBX2.out.trans (hb3.mono HBX2.out.size)
  clear hb3
  go_wp2_with fail
  refine (lentR_whole HL.out HR.out HB3.out).mono ?_
  rintro e w4 ⟨rfl, hg4⟩
  have HB4 : Hid _ := HBX3.out.grown hg4 HBX3.out.size (fun q hq => by have := hq1 q hq; omega)
  clear hg4
  go_wp2
  go_ret
  exact ⟨rfl, HB4.out⟩

end Go.Proofs.YtfcbgfomhmcikaaGreatDoor

namespace Go.Proofs.YtfcbgfomhmcikaaGreatDoor
open Go.RowKit

theorem Ln.parse_len : ∀ (l : List Rc) (t : List UInt8), Ln.IsParse t l → l.length ≤ t.length := by
  intro l
  induction l with
  | nil => intro t _; simp
  | cons r l ih =>
    intro t h
    have h2 := h.2
    rw [Ln.lines_cons] at h2
    have h1 := h.1
    rw [List.all_cons, Bool.and_eq_true] at h1
    have := ih (Ln.lines l) ⟨h1.2, rfl⟩
    have := Rc.line_pos r
    rw [← h2, List.length_append, List.length_cons]
    omega

/-- an answer of Parse: its list, its error -/
theorem parsed_form {t : List UInt8} {w w' : World} {e : Ending} (h : Parsed t w e w') : ∃ (l : List Rc) (E : Int) (v : Value), e = .returned (.tuple #[v, .int .i64 E]) ∧ w'.ownsRow w.heap.size 47 8 v l.length (Rcs l) ∧ (E ≠ 0 → v = .slice none 0 0) ∧ Below w.heap.size w w' ∧
    ((E = 0 ∧ Ln.IsParse t l) ∨ (E = 9 ∧ l = [] ∧ ∀ l, ¬ Ln.IsParse t l)) := by
  obtain ⟨hb, h⟩ := h
  rcases h with ⟨l, v, h1, rfl, ho⟩ | ⟨h1, rfl⟩
  · exact ⟨l, 0, v, rfl, ho, fun h => absurd rfl h, hb, .inl ⟨rfl, h1⟩⟩
  · exact ⟨[], 9, _, rfl, World.ownsRow_nil _ _ _ _, fun _ => rfl, hb, .inr ⟨rfl, rfl, h1⟩⟩

theorem parsed_same {t : List UInt8} {l1 l2 : List Rc} {E1 E2 : Int} (h1 : (E1 = 0 ∧ Ln.IsParse t l1) ∨ (E1 = 9 ∧ l1 = [] ∧ ∀ l, ¬ Ln.IsParse t l)) (h2 : (E2 = 0 ∧ Ln.IsParse t l2) ∨ (E2 = 9 ∧ l2 = [] ∧ ∀ l, ¬ Ln.IsParse t l)) : E1 = E2 ∧ l1 = l2 := by
  rcases h1 with ⟨rfl, h1⟩ | ⟨rfl, rfl, h1⟩ <;> rcases h2 with ⟨rfl, h2⟩ | ⟨rfl, rfl, h2⟩
  · exact ⟨rfl, Ln.parse_unique _ _ _ h1 h2⟩
  · exact absurd h1 (h2 _)
  · exact absurd h2 (h1 _)
  · exact ⟨rfl, rfl⟩

/-- how a script stands behind its first k steps -/
def LI (X : World) (g : Nat) (lv : Value) (k : Nat) : Prop :=
  ∃ (vq : Value) (es : List Value), X.heap[g]? = some (.cells #[lv, .slice none 0 0, .slice none 0 0, .slice none 0 0, .slice none 0 0, vq] 39 (0, 0)) ∧ ShelfR X g vq es ∧ es.length % 4 = 0 ∧ es.length ≤ 4 * k

theorem li_lt {X : World} {g k : Nat} {lv : Value} (h : LI X g lv k) : g < X.heap.size := by
  obtain ⟨_, _, hW, _⟩ := h
  exact (Array.getElem?_eq_some_iff.1 hW).1
theorem li_below {X Y : World} {g k : Nat} {lv : Value} (h : LI X g lv k) (hb : Below X.heap.size X Y) : LI Y g lv k ∧ LI Y g lv (k + 1) := by
  have hg := li_lt h
  obtain ⟨vq, es, hW, hs, h1, h2⟩ := h
  have hW' := (hb.block g hg).trans hW
  exact ⟨⟨vq, es, hW', shelfR_below hs hb, h1, h2⟩, ⟨vq, es, hW', shelfR_below hs hb, h1, by omega⟩⟩

theorem li_parsed {X Y Z : World} {g n k B : Nat} {lv vq v' x0 x1 x2 x3 : Value} {es : List Value} (hs : ShelfR X g vq es) (h4 : es.length % 4 = 0) (h2 : es.length ≤ 4 * k) (hk : 4 * k + 4 ≤ 7000000000000) (hn : n ≤ 900000000) (hXY : Below X.heap.size X Y) (hB : X.heap.size ≤ B)
    (hZ : Z.heap[g]? = some (.cells #[lv, .slice none 0 0, .slice none 0 0, .slice none 0 0, .slice none 0 0, v'] 39 (0, 0))) (hl : Z.ownsRow (g + 1) 40 1 v' (es.length + 4) (es ++ [x0, x1, x2, x3]))
    (m0 : Z.ownsRow (g + 1) 47 8 x0 n (marksR (mk es.length) n)) (m1 : Z.ownsRow (g + 1) 47 8 x1 (n + 1) (marksR (mk es.length) (n + 1)))
    (m2 : Z.ownsRow (g + 1) 47 8 x2 (n + 2) (marksR (mk es.length) (n + 2))) (m3 : Z.ownsRow (g + 1) 47 8 x3 (n + 3) (marksR (mk es.length) (n + 3)))
    (hp : ∀ e s v n xs, e ≠ 40 → (∀ q, v.ownBlock = some q → q < B) → Y.ownsRow (g + 1) e s v n xs → Z.ownsRow (g + 1) e s v n xs) : LI Z g lv (k + 1) := by
  refine ⟨v', es ++ [x0, x1, x2, x3], hZ, ⟨by rw [List.length_append]; exact hl, ?_, by simp; omega⟩, by simp; omega, by simp; omega⟩
  intro i hi
  rw [List.length_append] at hi
  simp only [List.length_cons, List.length_nil] at hi
  by_cases hic : i < es.length
  · obtain ⟨m, hm, ho⟩ := hs.ent i hic
    rw [List.getElem_append_left hic]
    exact ⟨m, hm, hp _ _ _ _ _ (by decide) (fun q hq => by have := (ho.lt q hq).2; omega) (own_below ho hXY)⟩
  · obtain ⟨j, rfl⟩ : ∃ j, i = es.length + j := ⟨i - es.length, by omega⟩
    rw [mk_same _ _ h4 (by omega), List.getElem_append_right (by omega)]
    have hj : j = 0 ∨ j = 1 ∨ j = 2 ∨ j = 3 := by omega
    rcases hj with rfl | rfl | rfl | rfl
    · exact ⟨n, by omega, by simpa using m0⟩
    · exact ⟨n + 1, by omega, by simpa using m1⟩
    · exact ⟨n + 2, by omega, by simpa using m2⟩
    · exact ⟨n + 3, by omega, by simpa using m3⟩

set_option maxRecDepth 100000 in
set_option maxHeartbeats 1600000 in
theorem parsed_any (H : ParseOk) (X : World) (g : Nat) (lv : Value) (k : Nat) (s : ByteArray) (hI : LI X g lv k) (hk : 4 * k + 4 ≤ 7000000000000) (hs : s.size ≤ 10000000) (hG : LnG X) :
    Calls Tryz.prog 20 #[.pointer (some ⟨g, 0, none⟩), .string s] X fun e X' => e = .returned (.bool true) ∧ LI X' g lv (k + 1) ∧ Below g X X' := by
  have hgX := li_lt hI
  have HG : Hid (LnG X) := hG
  clear hG
  obtain ⟨vq, es, hW, hsh, h4, h2⟩ := hI
  have HW : Hid _ := hW
  have HSH : Hid _ := hsh
  have heq := eql_rec
  have hnil := fun (wy : World) (a : Option Addr) (l c : Nat) => Lib.run_eql_slice_nil (P := Tryz.prog) wy 40 47 a l c 0 0 Tryz.underlying40
  have hsz : s.data.toList.length = s.size := by simp
  have HSZ : Hid _ := hsz
  clear hW hsh hsz
  go_enter Tryz.func20, Tryz.ntmps20
  go_wp2_with fail
  refine (H s _ HG.out hs).mono ?_
  rintro e w3 hp1
  obtain ⟨O, E, v1, rfl, ho1, hz1, hb3, hc1⟩ := parsed_form hp1
  have HC1 : Hid _ := hc1
  obtain ⟨a1, cp1, hv1⟩ := own_form ho1
  subst hv1
  have HO1 : Hid _ := ho1
  have HX3 : Hid _ := hb3
  clear ho1 hb3 hp1 hc1
  go_wp2_with fail
  refine (refParse_any s _ (by omega)).mono ?_
  rintro e w4 hp2
  obtain ⟨O2, E2, v2, rfl, ho2, _, hb4, hc2⟩ := parsed_form hp2
  obtain ⟨hEE, hOO⟩ := parsed_same HC1.out hc2
  subst hEE hOO
  obtain ⟨a2, cp2, hv2⟩ := own_form ho2
  subst hv2
  have HO24 : Hid _ := ho2
  have HO14 : Hid _ := own_below HO1.out hb4
  have HX4 : Hid _ := HX3.out.trans (hb4.mono HX3.out.size)
  have hs4 := hb4.size
  have hOl : O.length ≤ 10000000 := by
    rcases HC1.out with ⟨_, h⟩ | ⟨_, h, _⟩
    · have := Ln.parse_len _ _ h
      rw [HSZ.out] at this
      omega
    · rw [h]; simp
  clear ho2 hb4 HO1 hp2 hc2 HC1
  obtain ⟨m, hm⟩ : ∃ m, m = O.length := ⟨_, rfl⟩
  rw [← hm] at hOl ⊢
  have HN : Hid _ := hm
  have hcase : a1 = none ∨ (E = 0 ∧ ∃ b1, a1 = some b1) := by
    cases a1 with
    | none => exact .inl rfl
    | some b1 =>
      refine .inr ⟨?_, b1, rfl⟩
      by_cases h0 : E = 0
      · exact h0
      · have := hz1 h0
        simp at this
  clear hz1 hm
  rcases hcase with rfl | ⟨hE, b1, rfl⟩
  all_goals
    go_wp2
    clear hnil
    go_loopw [9, 10] (fun ok i wr => ∃ q : Nat, q ≤ m ∧ ok = .bool true ∧ i = .int .i64 (q : Int) ∧ Below w4.heap.size w4 wr) (fun _ i _ => m - (intOf i).toNat)
    case atStart => exact ⟨0, Nat.zero_le _, rfl, rfl, Below.refl _ _⟩
    case round =>
      obtain ⟨q, hq, rfl, rfl, hbr⟩ := hrel
      have HBR : Hid _ := hbr
      clear hbr
      by_cases hlt : q < m
      · have hO1 := own_below HO14.out HBR.out
        have hO2 := own_below HO24.out HBR.out
        rw [← HN.out] at hO1 hO2
        obtain ⟨c1, d1, hv1, _, _⟩ := own_pos hO1 (by omega)
        obtain ⟨c2, d2, hv2, _, _⟩ := own_pos hO2 (by omega)
        simp only [Value.slice.injEq, true_and, reduceCtorEq, false_and, Option.some.injEq] at hv1 hv2
        all_goals
          obtain ⟨hv1, rfl⟩ := hv1
          obtain ⟨hv2, rfl⟩ := hv2
          subst hv1 hv2
          obtain ⟨p0, p1, p2, p3, p4, p5, p6, p7⟩ := own_rec hO1 q (by rw [← HN.out]; exact hlt)
          obtain ⟨r0, r1, r2, r3, r4, r5, r6, r7⟩ := own_rec hO2 q (by rw [← HN.out]; exact hlt)
          clear hO1 hO2
          have hlt' : decide ((q : Int) < (m : Int)) = true := by simp; omega
          have hlt2 : (q : Int) < (m : Int) := by omega
          go_wp2_with fail
          go_quiet (fail)
          go_wp2
          go_roundw
          case rel => exact ⟨q + 1, by omega, rfl, by go_num, below_drewN HBR.out _⟩
          case measure => simp [intOf]; omega
      · have hlt' : decide ((q : Int) < (m : Int)) = false := by simp; omega
        go_wp2_with fail
        have hX := HX4.out.trans (HBR.out.mono HX4.out.size)
        have hO1 := own_below HO14.out HBR.out
        have hsc' := shelfR_below HSH.out hX
        have hW' := (hX.block g hgX).trans HW.out
        rw [HN.out]
        refine (keepsRecords_any _ g lv (.slice none 0 0) vq (.slice none 0 0) (.slice none 0 0) (.slice none 0 0) es _ O _ hW' hsc'.list (by omega) hO1 (by omega) (by rw [← HN.out]; omega)).mono ?_
        rintro e w6 ⟨rfl, vc', x1, x2, x3, hW6, hl6, m0, m1, m2, m3, hb6, hpres⟩
        go_wp2
        go_ret
        exact ⟨rfl, li_parsed HSH.out h4 h2 hk (by rw [← HN.out]; omega) hX (Nat.le_refl _) hW6 hl6 m0 m1 m2 m3 hpres, (hX.mono (by omega)).trans hb6⟩

end Go.Proofs.YtfcbgfomhmcikaaGreatDoor

namespace Go.Proofs.YtfcbgfomhmcikaaGreatDoor
open Go.RowKit

set_option maxRecDepth 100000 in
set_option maxHeartbeats 800000 in
theorem looks_empty (w : World) (g : Nat) (c2 : w.cell? ⟨g, 2, none⟩ = some (.slice none 0 0)) (c3 : w.cell? ⟨g, 3, none⟩ = some (.slice none 0 0)) (c4 : w.cell? ⟨g, 4, none⟩ = some (.slice none 0 0)) (c5 : w.cell? ⟨g, 5, none⟩ = some (.slice none 0 0)) :
    Calls Tryz.prog 12 #[.pointer (some ⟨g, 2, none⟩)] w fun e w' => e = .returned (.bool true) ∧ w' = w := by
  go_enter Tryz.func12, Tryz.ntmps12
  go_wp2
  refine wp_loop_rounds 1 ?_
  rw [rounds_succ]
  go_wp2
  refine wp_loop_rounds 1 ?_
  rw [rounds_succ]
  go_wp2
  refine wp_loop_rounds 1 ?_
  rw [rounds_succ]
  go_wp2
  refine wp_loop_rounds 1 ?_
  rw [rounds_succ]
  go_wp2
  go_ret
  exact ⟨rfl, rfl⟩

set_option maxRecDepth 100000 in
set_option maxHeartbeats 1600000 in
theorem step_reverse (w : World) (p : Value) (a b c : Int) (s t : ByteArray) (la : Option Addr) (ln lc : Nat) (hs : s.size ≤ 140737488355327) :
    Calls Tryz.prog 11 #[p, .agg #[.int .i64 3, .int .i64 a, .int .i64 b, .int .i64 c, .string s, .string t, .slice la ln lc]] w fun e w' => e = .returned (.bool true) ∧ Below w.heap.size w w' := by
  have hsm : s.size ≤ maxLen := by unfold maxLen; omega
  have hb0 : ∀ o, Below w.heap.size w (w.alloc o) := fun o => (Below.refl _ _).alloc (Nat.le_refl _) o
  cases hL : Lt.allL s.data.toList with
  | false =>
    have HL : Hid _ := hL
    clear hL
    have HB0 : Hid _ := hb0
    clear hb0
    go_enter Tryz.func11, Tryz.ntmps11
    go_wp2_with (first
      | (go_at_call 15; refine (reverse_bad _ _ hsm HL.out).mono ?_; rintro e w' ⟨rfl, hw⟩; subst w')
      | (go_at_call 16; refine (refRev_bad _ _ hsm HL.out).mono ?_; rintro e w' ⟨rfl, hw⟩; subst w'))
    go_ret
    exact ⟨rfl, HB0.out _⟩
  | true =>
    have HL : Hid _ := hL
    clear hL
    have HB0 : Hid _ := hb0
    clear hb0
    go_enter Tryz.func11, Tryz.ntmps11
    go_wp2_with fail
    refine (reverse_good _ _ (by omega) HL.out).mono ?_
    rintro e w1 ⟨rfl, hb1⟩
    have hz1 := hb1.size
    rw [World.size_alloc] at hz1
    have k4 : w1.cell? ⟨w.heap.size, 4, none⟩ = some (.string s) := by rw [hb1.cell (by simp)]; simp
    go_wp2_with fail
    refine (refRev_good _ _ hs HL.out).mono ?_
    rintro e w2 ⟨rfl, hb2⟩
    go_wp2
    go_ret
    exact ⟨rfl, ((HB0.out _).trans (hb1.mono (by simp))).trans (hb2.mono (by omega))⟩

set_option maxRecDepth 100000 in
set_option maxHeartbeats 1600000 in
theorem step_convert (w : World) (p : Value) (a b c : Int) (s t : ByteArray) (la : Option Addr) (ln lc : Nat) (hs : s.size ≤ 140737488355327) :
    Calls Tryz.prog 11 #[p, .agg #[.int .i64 4, .int .i64 a, .int .i64 b, .int .i64 c, .string s, .string t, .slice la ln lc]] w fun e w' => e = .returned (.bool true) ∧ Below w.heap.size w w' := by
  have hsm : s.size ≤ maxLen := by unfold maxLen; omega
  have HB0 : Hid (∀ o, Below w.heap.size w (w.alloc o)) := fun o => (Below.refl _ _).alloc (Nat.le_refl _) o
  cases hL : Lt.allL s.data.toList with
  | false =>
    have HL : Hid _ := hL
    clear hL
    go_enter Tryz.func11, Tryz.ntmps11
    go_wp2_with (first
      | (go_at_call 17; refine (convert_bad _ _ _ hsm HL.out).mono ?_; rintro e w' ⟨rfl, hw⟩; subst w')
      | (go_at_call 18; refine (refConv_bad _ _ _ hsm HL.out).mono ?_; rintro e w' ⟨rfl, hw⟩; subst w'))
    go_ret
    exact ⟨rfl, HB0.out _⟩
  | true =>
    have HL : Hid _ := hL
    clear hL
    cases hN : Lt.strandB a with
    | false =>
      have HN : Hid _ := hN
      clear hN
      go_enter Tryz.func11, Tryz.ntmps11
      go_wp2_with (first
        | (go_at_call 17; refine (convert_none _ _ _ hsm HL.out (frm_none HN.out)).mono ?_; rintro e w' ⟨rfl, hw⟩; subst w')
        | (go_at_call 18; refine (refConv_none _ _ _ hsm HL.out HN.out).mono ?_; rintro e w' ⟨rfl, hw⟩; subst w'))
      go_ret
      exact ⟨rfl, HB0.out _⟩
    | true =>
      have HN : Hid _ := hN
      clear hN
      go_enter Tryz.func11, Tryz.ntmps11
      go_wp2_with fail
      refine (convert_good _ _ (Lt.frm a) (Lt.tow a) _ hsm HL.out rfl rfl (trn_frm HN.out).1).mono ?_
      rintro e w1 ⟨rfl, hb1⟩
      have hz1 := hb1.size
      rw [World.size_alloc] at hz1
      have k4 : w1.cell? ⟨w.heap.size, 4, none⟩ = some (.string s) := by rw [hb1.cell (by simp)]; simp
      have k1 : w1.cell? ⟨w.heap.size, 1, none⟩ = some (.int .i64 a) := by rw [hb1.cell (by simp)]; simp
      go_wp2_with fail
      refine (refConv_good _ _ _ hs HL.out HN.out).mono ?_
      rintro e w2 ⟨rfl, hb2⟩
      go_wp2
      go_ret
      exact ⟨rfl, ((HB0.out _).trans (hb1.mono (by simp))).trans (hb2.mono (by omega))⟩

/-- a kind that is in play, of two -/
theorem inL_two {x y k : Int} (h : inL [x, y] k = true) : k = x ∨ k = y := by
  simp [inL] at h
  rcases h with h | h
  · exact .inl h.symm
  · exact .inr h.symm

theorem firstOps_small (h : Nat) : ∀ o ∈ firstOps h, o.s.size ≤ 100 ∧ o.t.size ≤ 100 := by
  intro o ho
  simp only [firstOps, List.mem_cons, List.not_mem_nil, or_false] at ho
  rcases ho with rfl | rfl | rfl | rfl | rfl | rfl | rfl | rfl | rfl | rfl <;> (dsimp only; decide)

set_option maxRecDepth 100000 in
set_option maxHeartbeats 1600000 in
theorem strands_any (w : World) (refsV scriptV : Value) (rs : List Value) (ss : List OpV)
    (hrefs : Src w refsV rs.length rs) (hrs : ∀ u ∈ rs, u.oneCell' = true) (hrl : (1 + rs.length) * 24 ≤ 140737488355328)
    (hscr : Src w scriptV ss.length (ss.flatMap OpV.cells)) (hsl : (10 + ss.length) * 88 ≤ 140737488355328) (hsz : ∀ o ∈ ss, o.s.size ≤ 140737488355327) :
    Calls Tryz.prog 4 #[refsV, scriptV] w fun e w' => e = .returned (.bool true) ∧ Below w.heap.size w w' := by
  have hb0 : Below w.heap.size w (w.alloc (.cells #[.int .i64 3, .int .i64 4] 3)) := (Below.refl _ _).alloc (Nat.le_refl _) _
  go_enter Tryz.func4, Tryz.ntmps4
  go_wp2_with fail
  refine (plays_any (w.alloc (.cells #[.int .i64 3, .int .i64 4] 3)) refsV scriptV rs ss [3, 4] w.heap.size 2 (hrefs.mono hb0) hrs hrl (hscr.mono hb0) hsl rfl (by decide) ?_ ?_).mono ?_
  · intro j hj
    match j, hj with
    | 0, _ => simp
    | 1, _ => simp
  · intro w0 g h h1 lv hst
    refine ⟨fun _ w1 => w1.heap[g]? = some (.cells #[lv, .slice none 0 0, .slice none 0 0, .slice none 0 0, .slice none 0 0, .slice none 0 0] 39 (0, 0)), hst.world, ?_, ?_, ?_⟩
    · intro _ w1 w2 h1 h2
      have h3 := (h2.block g (Array.getElem?_eq_some_iff.1 h1).1).trans h1
      exact ⟨h3, h3⟩
    · intro o ho hin _ w1 _ hI _ hg
      have hs : o.s.size ≤ 140737488355327 := by
        rcases List.mem_append.1 ho with h | h
        · have := (firstOps_small _ o h).1; omega
        · exact hsz o h
      rcases inL_two hin with hk | hk
      · rw [hk]
        refine (step_reverse w1 _ o.a o.b o.c o.s o.t o.la o.ln o.lc hs).mono ?_
        rintro e w2 ⟨rfl, hb⟩
        exact ⟨rfl, (hb.block g hg).trans hI, hb.mono (by omega)⟩
      · rw [hk]
        refine (step_convert w1 _ o.a o.b o.c o.s o.t o.la o.ln o.lc hs).mono ?_
        rintro e w2 ⟨rfl, hb⟩
        exact ⟨rfl, (hb.block g hg).trans hI, hb.mono (by omega)⟩
    · intro _ w1 _ hI _ _
      have hc : ∀ j, w1.cell? ⟨g, j, none⟩ = (#[lv, .slice none 0 0, .slice none 0 0, .slice none 0 0, .slice none 0 0, .slice none 0 0] : Array Value)[j]? := fun j => cell_of_row w1 g j _ _ _ hI
      refine (looks_empty w1 g (hc 2) (hc 3) (hc 4) (hc 5)).mono ?_
      rintro e w2 ⟨rfl, rfl⟩
      exact ⟨rfl, hI, Below.refl _ _⟩
  · rintro e w1 ⟨rfl, hb1⟩
    go_wp2
    go_ret
    exact ⟨rfl, hb0.trans (hb1.mono (by simp))⟩

end Go.Proofs.YtfcbgfomhmcikaaGreatDoor

namespace Go.Proofs.YtfcbgfomhmcikaaGreatDoor
open Go.RowKit

set_option maxRecDepth 100000 in
set_option maxHeartbeats 800000 in
theorem step_render (H : RenderOk) (w : World) (p : Value) (a b c : Int) (s t : ByteArray) (la : Option Addr) (ln lc : Nat) (rs : List Rc) (hR : RecsOk w (.slice la ln lc) rs) (hn : rs.length ≤ 10000000) (hG : LnG w) :
    Calls Tryz.prog 11 #[p, .agg #[.int .i64 8, .int .i64 a, .int .i64 b, .int .i64 c, .string s, .string t, .slice la ln lc]] w fun e w' => e = .returned (.bool true) ∧ Below w.heap.size w w' := by
  have hb0 : ∀ o, Below w.heap.size w (w.alloc o) := fun o => (Below.refl _ _).alloc (Nat.le_refl _) o
  have HR : Hid (∀ o, RecsOk (w.alloc o) (.slice la ln lc) rs) := fun o => hR.below (hb0 o)
  have HB : Hid _ := hb0
  have HG : Hid (∀ Y, Below w.heap.size w Y → LnG Y) := fun Y hb => hG.below hG.few hb
  clear hR hb0 hG
  go_enter Tryz.func11, Tryz.ntmps11
  go_wp2_with fail
  refine (rendered_any H _ la ln lc rs (HR.out _) hn (HG.out _ (HB.out _))).mono ?_
  rintro e w1 ⟨rfl, hb1⟩
  have hbf := (HB.out _).trans (hb1.mono (by simp))
  go_wp2
  go_ret
  exact ⟨rfl, hbf⟩

set_option maxRecDepth 100000 in
set_option maxHeartbeats 800000 in
theorem step_parse (H : ParseOk) (w : World) (g : Nat) (lv : Value) (k : Nat) (a b c : Int) (s t : ByteArray) (la : Option Addr) (ln lc : Nat) (hI : LI w g lv k) (hk : 4 * k + 4 ≤ 7000000000000) (hs : s.size ≤ 10000000) (hG : LnG w) :
    Calls Tryz.prog 11 #[.pointer (some ⟨g, 0, none⟩), .agg #[.int .i64 9, .int .i64 a, .int .i64 b, .int .i64 c, .string s, .string t, .slice la ln lc]] w fun e w' => e = .returned (.bool true) ∧ LI w' g lv (k + 1) ∧ Below g w w' := by
  have hb0 : ∀ o, Below w.heap.size w (w.alloc o) := fun o => (Below.refl _ _).alloc (Nat.le_refl _) o
  have hg := li_lt hI
  have HI : Hid _ := fun o => (li_below hI (hb0 o)).1
  have HB : Hid _ := hb0
  have HG : Hid _ := hg
  have HN : Hid (∀ Y, Below w.heap.size w Y → LnG Y) := fun Y hb => hG.below hG.few hb
  clear hI hb0 hg hG
  go_enter Tryz.func11, Tryz.ntmps11
  go_wp2_with fail
  refine (parsed_any H _ g lv k s (HI.out _) hk hs (HN.out _ (HB.out _))).mono ?_
  rintro e w1 ⟨rfl, hI1, hb1⟩
  go_wp2
  go_ret
  exact ⟨rfl, hI1, ((HB.out _).mono (Nat.le_of_lt HG.out)).trans hb1⟩

/-- the record of the law's own -/
def ownR : List Rc := [⟨[114], 0, 0, [], 0, 0, [], []⟩]

theorem ownR_at {w0 : World} {h : Nat} (hh : w0.heap[h]? = some (.cells recordCells 47 (0, 0))) : RecsOk w0 (.slice (some ⟨h, 0, none⟩) 1 1) ownR := by
  refine ⟨.inr ⟨⟨h, 0, none⟩, 1, rfl, fun j u hj => ?_⟩, by decide, fun r hr => ?_⟩
  · rw [Addr.add_lit, Nat.zero_add, cell_of_row _ _ j _ _ _ hh, ← hj]
    simp [ownR, Rcs, rcCells, recordCells]
  · rw [List.mem_singleton.1 hr]
    exact ⟨by decide, by decide, by decide, by decide⟩

/-- what a step of kind Render hands in -/
theorem firstOps_l (h : Nat) : ∀ o ∈ firstOps h, o.k = 8 → o.la = some ⟨h, 0, none⟩ ∧ o.ln = 1 ∧ o.lc = 1 := by
  intro o ho
  simp only [firstOps, List.mem_cons, List.not_mem_nil, or_false] at ho
  rcases ho with rfl | rfl | rfl | rfl | rfl | rfl | rfl | rfl | rfl | rfl <;> (dsimp only; first | (intro hk; exact absurd hk (by decide)) | exact fun _ => ⟨rfl, rfl, rfl⟩)

/-- what 'plays' asks of the steps, for the kinds Render and Parse -/
theorem lines_inv (HR : RenderOk) (HP : ParseOk) (w : World) (hG : LnG w) (rs : List Value) (ss : List OpV) (hsl : (10 + ss.length) * 88 ≤ 140737488355328) (hsz : ∀ o ∈ ss, o.s.size ≤ 10000000)
    (hrec : ∀ o ∈ ss, o.k = 8 → ∃ l : List Rc, RecsOk w (.slice o.la o.ln o.lc) l ∧ l.length ≤ 10000000) :
    ∀ (w0 : World) (g h h1 : Nat) (lv : Value), PlayStart w w0 g h h1 lv rs → ∃ Inv : Nat → World → Prop, Inv 0 w0 ∧ (∀ k w1 w2, Inv k w1 → Below w1.heap.size w1 w2 → Inv k w2 ∧ Inv (k + 1) w2) ∧
      (∀ o, o ∈ firstOps h ++ ss → inL [8, 9] o.k = true → ∀ k w1, k < 10 + ss.length → Inv k w1 → Below g w0 w1 → g < w1.heap.size →
        Calls Tryz.prog 11 #[.pointer (some ⟨g, 0, none⟩), .agg #[.int .i64 o.k, .int .i64 o.a, .int .i64 o.b, .int .i64 o.c, .string o.s, .string o.t, .slice o.la o.ln o.lc]] w1 fun e w2 => e = .returned (.bool true) ∧ Inv (k + 1) w2 ∧ Below g w1 w2) ∧
      (∀ k w1, k ≤ 10 + ss.length → Inv k w1 → Below g w0 w1 → g < w1.heap.size → Calls Tryz.prog 12 #[.pointer (some ⟨g, 2, none⟩)] w1 fun e w2 => e = .returned (.bool true) ∧ Inv k w2 ∧ Below g w1 w2) := by
  intro w0 g h h1 lv hst
  refine ⟨fun k w1 => LI w1 g lv k, ?_, ?_, ?_, ?_⟩
  · exact ⟨.slice none 0 0, [], hst.world, ⟨World.ownsRow_nil _ _ _ _, by simp, by simp⟩, by simp, by simp⟩
  · intro k w1 w2 h1 h2
    exact li_below h1 h2
  · intro o ho hin k w1 hk hI hbw hg
    have hG1 : LnG w1 := (hG.below hG.few hst.below).below (Nat.le_trans hG.few hst.old) hbw
    rcases inL_two hin with hkk | hkk
    · have hrl : ∃ l : List Rc, RecsOk w1 (.slice o.la o.ln o.lc) l ∧ l.length ≤ 10000000 := by
        rcases List.mem_append.1 ho with hf | hf
        · obtain ⟨e1, e2, e3⟩ := firstOps_l h o hf hkk
          rw [e1, e2, e3]
          refine ⟨ownR, ownR_at ?_, by decide⟩
          exact (hbw.block h hst.h_lt).trans hst.record
        · obtain ⟨l, hl, hn⟩ := hrec o hf hkk
          exact ⟨l, hl.below (hst.below.trans (hbw.mono hst.old)), hn⟩
      obtain ⟨l, hl, hn⟩ := hrl
      rw [hkk]
      refine (step_render HR w1 _ o.a o.b o.c o.s o.t o.la o.ln o.lc l hl hn hG1).mono ?_
      rintro e w2 ⟨rfl, hb⟩
      exact ⟨rfl, (li_below hI hb).2, hb.mono (Nat.le_of_lt hg)⟩
    · have hs : o.s.size ≤ 10000000 := by
        rcases List.mem_append.1 ho with hf | hf
        · have := (firstOps_small _ o hf).1; omega
        · exact hsz o hf
      rw [hkk]
      exact step_parse HP w1 g lv k o.a o.b o.c o.s o.t o.la o.ln o.lc hI (by omega) hs hG1
  · intro k w1 _ hI _ _
    have hI' := hI
    obtain ⟨vq, es, hW, hsh, _⟩ := hI'
    refine (looks_records w1 g _ _ vq es hW hsh).mono ?_
    rintro e w2 ⟨rfl, hb⟩
    exact ⟨rfl, (li_below hI hb).1, hb.mono (Nat.le_of_lt (li_lt hI))⟩

end Go.Proofs.YtfcbgfomhmcikaaGreatDoor

namespace Go.Proofs.YtfcbgfomhmcikaaGreatDoor
open Go.RowKit

set_option maxRecDepth 100000 in
set_option maxHeartbeats 800000 in
theorem lineOf_bare (r : Rc) (w : World) (hr : r.right = true) (hv : r.vd ≠ 1) (hG : LnG w) :
    Calls Tryz.prog 75 #[.agg r.vals] w fun e w' => e = .returned (.string ⟨r.line.toArray⟩) ∧ Below w.heap.size w w' := by
  obtain ⟨hn, h0, h2, _, _⟩ := Rc.right_parts hr
  have hnl : r.nm.length ≤ 32 := by unfold Ln.name at hn; simp at hn; exact hn.2.2
  have hfl : r.fields = [r.nm, Ln.verdict r.vd] := by rw [Rc.fields, if_neg hv]
  have HL : Hid (r.line = Lib.join [r.nm, Ln.verdict r.vd] [9] ++ [10]) := by show _ = _; rw [Rc.line_join, hfl]
  have hfew := hG.few
  obtain ⟨j, hj, hjv⟩ : ∃ j : Nat, j < 3 ∧ r.vd = (j : Int) := ⟨r.vd.toNat, by omega, by omega⟩
  have hg := hG.vd j hj
  rw [← hjv] at hg
  obtain ⟨V, hV⟩ : ∃ V, V = Ln.verdict r.vd := ⟨_, rfl⟩
  have hVl : V.length ≤ 9 := by rw [hV]; exact Ln.verdict_length _
  rw [← hV] at hg HL
  obtain ⟨n, v, s, c, p, m, l, k⟩ := r
  dsimp only at *
  have HLC : Hid (∀ (W : World) (b : Nat), W.heap.size = b → Calls Tryz.prog 104 #[.slice (some ⟨b, 0, none⟩) 2 2] (W.alloc (.cells #[.string ⟨n.toArray⟩, .string ⟨V.toArray⟩] 9)).drew fun e w' => e = .returned (.string ⟨(Rc.line ⟨n, v, s, c, p, m, l, k⟩).toArray⟩) ∧ Below (W.alloc (.cells #[.string ⟨n.toArray⟩, .string ⟨V.toArray⟩] 9)).drew.heap.size (W.alloc (.cells #[.string ⟨n.toArray⟩, .string ⟨V.toArray⟩] 9)).drew w') := fun W b hb => by
    subst hb
    have h := pline_any W.heap.size 2 [n, V] (W.alloc (.cells #[.string ⟨n.toArray⟩, .string ⟨V.toArray⟩] 9)).drew (fun j x hj => by
      match j, hj with
      | 0, hj => simp at hj; subst hj; exact cell_of_row _ _ 0 _ _ _ (heap_alloc_new W _)
      | 1, hj => simp at hj; subst hj; exact cell_of_row _ _ 1 _ _ _ (heap_alloc_new W _)) (by show W.heap.size < (W.alloc _).heap.size; simp) (by simp) (by simp) (by simp [Lib.join, List.intercalate, List.intersperse]; omega)
    rw [← HL.out] at h
    exact h
  obtain ⟨LN, hLN⟩ : ∃ LN, LN = Rc.line ⟨n, v, s, c, p, m, l, k⟩ := ⟨_, rfl⟩
  rw [← hLN] at HLC ⊢
  have hv0 : (v != 1) = true := by rw [bne_iff_ne]; exact hv
  have hv3 : v < 3 := by omega
  have hg' : ((w.alloc (.cells #[.string ⟨n.toArray⟩, .int .i64 v, .int .i64 s, .string ⟨c.toArray⟩, .int .i64 p, .int .i64 m, .string ⟨l.toArray⟩, .string ⟨k.toArray⟩] 47)).cell? ⟨0, j, none⟩) = some (.string ⟨V.toArray⟩) := (((Below.refl w.heap.size w).alloc (Nat.le_refl _) _).cell (p := ⟨0, j, none⟩) (by show 0 < w.heap.size; omega)).trans hg
  clear hn hnl hfl HL hG hVl hLN hV hr hg h2
  unfold Rc.vals
  dsimp only
  subst hjv
  have HB0 : Hid (∀ o, Below w.heap.size w (w.alloc o)) := fun o => (Below.refl _ _).alloc (Nat.le_refl _) o
  have HK : Hid (∀ w1 W : World, Below W.heap.size W w1 → (W.cell? ⟨w.heap.size, 0, none⟩ = some (.string ⟨n.toArray⟩) ∧ W.cell? ⟨w.heap.size, 1, none⟩ = some (.int .i64 (j : Int)) ∧ W.cell? ⟨0, j, none⟩ = some (.string ⟨V.toArray⟩)) → (w1.cell? ⟨w.heap.size, 0, none⟩ = some (.string ⟨n.toArray⟩) ∧ w1.cell? ⟨w.heap.size, 1, none⟩ = some (.int .i64 (j : Int)) ∧ w1.cell? ⟨0, j, none⟩ = some (.string ⟨V.toArray⟩))) := fun w1 W hb h =>
    have e : ∀ p v, W.cell? p = some v → w1.cell? p = some v := fun p v h => (hb.cell (World.block_lt_of_cell? W _ h)).trans h
    ⟨e _ _ h.1, e _ _ h.2.1, e _ _ h.2.2⟩
  have HKA : Hid (∀ (W : World) (o : Obj), (W.drew.cell? ⟨w.heap.size, 0, none⟩ = some (.string ⟨n.toArray⟩) ∧ W.drew.cell? ⟨w.heap.size, 1, none⟩ = some (.int .i64 (j : Int)) ∧ W.drew.cell? ⟨0, j, none⟩ = some (.string ⟨V.toArray⟩)) → ((W.alloc o).drew.cell? ⟨w.heap.size, 0, none⟩ = some (.string ⟨n.toArray⟩) ∧ (W.alloc o).drew.cell? ⟨w.heap.size, 1, none⟩ = some (.int .i64 (j : Int)) ∧ (W.alloc o).drew.cell? ⟨0, j, none⟩ = some (.string ⟨V.toArray⟩))) := fun W o h => HK.out (W.alloc o) W ((Below.refl W.heap.size W).alloc (Nat.le_refl _) o) h
  have HS1 : Hid ((w.alloc (.cells #[.string ⟨n.toArray⟩, .int .i64 (j : Int), .int .i64 s, .string ⟨c.toArray⟩, .int .i64 p, .int .i64 m, .string ⟨l.toArray⟩, .string ⟨k.toArray⟩] 47)).drew.cell? ⟨w.heap.size, 0, none⟩ = some (.string ⟨n.toArray⟩) ∧ (w.alloc (.cells #[.string ⟨n.toArray⟩, .int .i64 (j : Int), .int .i64 s, .string ⟨c.toArray⟩, .int .i64 p, .int .i64 m, .string ⟨l.toArray⟩, .string ⟨k.toArray⟩] 47)).drew.cell? ⟨w.heap.size, 1, none⟩ = some (.int .i64 (j : Int)) ∧ (w.alloc (.cells #[.string ⟨n.toArray⟩, .int .i64 (j : Int), .int .i64 s, .string ⟨c.toArray⟩, .int .i64 p, .int .i64 m, .string ⟨l.toArray⟩, .string ⟨k.toArray⟩] 47)).drew.cell? ⟨0, j, none⟩ = some (.string ⟨V.toArray⟩)) := ⟨cell_of_row _ _ 0 _ _ _ (heap_alloc_new w _), cell_of_row _ _ 1 _ _ _ (heap_alloc_new w _), hg'⟩
  have HB2 : Hid (∀ (W w1 : World), Below w.heap.size w W → Below W.heap.size W w1 → Below w.heap.size w w1) := fun W w1 h1 h2 => h1.trans (h2.mono h1.size)
  have hj3 : (j : Int) < 3 := by omega
  clear hg' hj
  go_enter Tryz.func75, Tryz.ntmps75
  go_wp2_with fail
  go_region_held3 (fun Y => Y.cell? ⟨w.heap.size, 0, none⟩ = some (.string ⟨n.toArray⟩) ∧ Y.cell? ⟨w.heap.size, 1, none⟩ = some (.int .i64 (j : Int)) ∧ Y.cell? ⟨0, j, none⟩ = some (.string ⟨V.toArray⟩))
    (first | (with_reducible exact HS1.out) | (with_reducible (refine HKA.out _ _ ?_; assumption)) | (with_reducible (refine HK.out _ _ (by assumption) ?_; assumption)))
    (first
      | (go_at_call 104; go_must (with_reducible refine (HLC.out _ _ (by simp)).mono ?_); rintro e w1 ⟨rfl, hb1⟩))
  all_goals
    go_wp2
    go_ret
    exact ⟨rfl, HB2.out _ _ (by exact ((HB0.out _).alloc (by simp) _).drew) hb1⟩

end Go.Proofs.YtfcbgfomhmcikaaGreatDoor
