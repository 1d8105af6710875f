/-
  THE WALK of the World's 'fasta': the bytes are lent, read by the program and by the document, held against each other, and what came out is written into the book. Own text of the verifier.
-/
import Derived.Test.YtjebhbopmfcopaaGreatDoorTxLooks
import Derived.Test.YtjebhbopmfcopaaGreatDoorTxNil
import Derived.Test.YtjebhbopmfcopaaGreatDoorTxLen
import Derived.Test.YtjebhbopmfcopaaGreatDoorTxLent
namespace Go.Proofs.YtjebhbopmfcopaaGreatDoor
open Go.RowKit

/-- how a script stands behind its first k steps: the World, and its two shelves -/
def TI (X : World) (g : Nat) (lv : Value) (k : Nat) : Prop :=
  ∃ (vc vr : Value) (cs rs : List Value), X.heap[g]? = some (.cells #[lv, .slice none 0 0, vc, vr, .slice none 0 0, .slice none 0 0] 68 (0, 0)) ∧
    Shelf X g 59 29 vc cs ∧ Shelf X g 56 88 vr rs ∧ cs.length % 4 = 0 ∧ rs.length % 4 = 0 ∧ cs.length ≤ 4 * k ∧ rs.length ≤ 4 * k

theorem lent_bs {X w1 : World} {s : ByteArray} (ho : w1.ownsRow X.heap.size 5 1 (.slice (some ⟨X.heap.size, 0, none⟩) (s.size + 8) (s.size + 8)) (s.size + 8) (Bys (lent s))) : Bs w1 X.heap.size s := by
  intro j h
  rw [ho.cellAt j (by omega), Bys_at _ _ (by rw [lent_length]; omega)]
  simp only [lent, List.getElem_append_left (show j < s.data.toList.length by simpa using h)]
  rfl

theorem lent_block {X w1 : World} {s : ByteArray} {v : Value} (hl : Lent X w1 s v) : X.heap.size ≤ w1.heap.size ∧ Below X.heap.size X w1 ∧ ∀ q, v.ownBlock = some q → q = X.heap.size ∧ X.heap.size < w1.heap.size := by
  rcases hl with ⟨_, rfl, rfl⟩ | ⟨rfl, ho, hb, hlt⟩
  · exact ⟨Nat.le_refl _, Below.refl _ _, fun q hq => by cases hq⟩
  · exact ⟨by omega, hb, fun q hq => by cases hq; exact ⟨rfl, hlt⟩⟩

theorem lent_whole {X w1 w3 : World} {s : ByteArray} {v : Value} (hl : Lent X w1 s v) (hb : Below w1.heap.size w1 w3) (hs : s.size ≤ 140737488351232) :
    Calls Tryz.prog 94 #[v, .string s] w3 fun e w' => e = .returned (.bool true) ∧ w3.grownBy w' v.ownBlock := by
  rcases hl with ⟨_, rfl, _⟩ | ⟨rfl, ho, _, hlt⟩
  · refine (wholeBytes_nil s w3).mono ?_
    rintro e w' ⟨rfl, rfl⟩
    exact ⟨rfl, World.grownBy.refl _ _⟩
  · exact wholeBytes_row s X.heap.size w3 hs (own_below ho hb)

/-- behind the readers, and behind the look at what was lent: all that was there is as it was, and what came out too -/
theorem lent_fin {X w1 w2 w3 w4 : World} {s : ByteArray} {v v1 v2 : Value} {e n1 n2 : Nat} {x1 x2 : List Value} (hl : Lent X w1 s v) (ho1 : w2.ownsRow w1.heap.size e 2 v1 n1 x1) (hb1 : Below w1.heap.size w1 w2)
    (ho2 : w3.ownsRow w2.heap.size e 2 v2 n2 x2) (hb2 : Below w2.heap.size w2 w3) (hg : w3.grownBy w4 v.ownBlock) :
    Below X.heap.size X w4 ∧ w4.ownsRow w1.heap.size e 2 v1 n1 x1 ∧ w4.ownsRow w2.heap.size e 2 v2 n2 x2 ∧ X.heap.size ≤ w1.heap.size ∧ X.heap.size ≤ w4.heap.size := by
  obtain ⟨h1, h2, h3⟩ := lent_block hl
  have s1 := hb1.size
  have s2 := hb2.size
  have s3 := hg.size
  have hne : ∀ {w b e size n v0 xs}, World.ownsRow w b e size v0 n xs → w1.heap.size ≤ b → v0.ownBlock = none ∨ v0.ownBlock ≠ v.ownBlock := by
    intro w b e size n v0 xs ho hb
    cases hq : v0.ownBlock with
    | none => exact .inl rfl
    | some q =>
      right
      intro hh
      have := (ho.lt q hq).1
      have := h3 q hh.symm
      omega
  refine ⟨((h2.trans (hb1.mono h1)).trans (hb2.mono (by omega))).grown hg (by omega) (fun q hq => by have := h3 q hq; omega), ?_, ?_, h1, by omega⟩
  · exact (own_below ho1 hb2).kept hg (hne ho1 (Nat.le_refl _))
  · exact ho2.kept hg (hne ho2 s1)

/-- four lists more on the shelf -/
theorem shelf_more {X Y Z : World} {g n : Nat} {e el : TypeId} {vc vc' x0 x1 x2 x3 : Value} {cs : List Value} (h : Shelf X g e el vc cs) (hX : Below X.heap.size X Y) (hn : n ≤ 1000) (hlen : cs.length + 4 ≤ 7000000000000) (h4 : cs.length % 4 = 0)
    (hl : Z.ownsRow (g + 1) el 1 vc' (cs.length + 4) (cs ++ [x0, x1, x2, x3])) (m0 : Z.ownsRow (g + 1) e 2 x0 n (marks (mk cs.length) n)) (m1 : Z.ownsRow (g + 1) e 2 x1 (n + 1) (marks (mk cs.length) (n + 1)))
    (m2 : Z.ownsRow (g + 1) e 2 x2 (n + 2) (marks (mk cs.length) (n + 2))) (m3 : Z.ownsRow (g + 1) e 2 x3 (n + 3) (marks (mk cs.length) (n + 3)))
    (hp : ∀ v n xs, (∀ q, v.ownBlock = some q → q < X.heap.size) → Y.ownsRow (g + 1) e 2 v n xs → Z.ownsRow (g + 1) e 2 v n xs) : Shelf Z g e el vc' (cs ++ [x0, x1, x2, x3]) := by
  refine ⟨by rw [List.length_append]; exact hl, ?_, by simp; omega⟩
  intro i hi
  rw [List.length_append] at hi
  simp only [List.length_cons, List.length_nil] at hi
  by_cases hic : i < cs.length
  · obtain ⟨m, hm, ho⟩ := h.ent i hic
    rw [List.getElem_append_left hic]
    exact ⟨m, hm, hp _ _ _ (fun q hq => (ho.lt q hq).2) (own_below ho hX)⟩
  · obtain ⟨j, rfl⟩ : ∃ j, i = cs.length + j := ⟨i - cs.length, by omega⟩
    rw [mk_same _ _ h4 (by omega), List.getElem_append_right (by omega)]
    have hj : j = 0 ∨ j = 1 ∨ j = 2 ∨ j = 3 := by omega
    rcases hj with rfl | rfl | rfl | rfl
    · exact ⟨n, by omega, by simpa using m0⟩
    · exact ⟨n + 1, by omega, by simpa using m1⟩
    · exact ⟨n + 2, by omega, by simpa using m2⟩
    · exact ⟨n + 3, by omega, by simpa using m3⟩

theorem shelf_kept {X Y Z : World} {g : Nat} {e el : TypeId} {v : Value} {es : List Value} (h : Shelf X g e el v es) (hX : Below X.heap.size X Y)
    (hp1 : ∀ v n xs, (∀ q, v.ownBlock = some q → q < X.heap.size) → Y.ownsRow (g + 1) el 1 v n xs → Z.ownsRow (g + 1) el 1 v n xs)
    (hp2 : ∀ v n xs, (∀ q, v.ownBlock = some q → q < X.heap.size) → Y.ownsRow (g + 1) e 2 v n xs → Z.ownsRow (g + 1) e 2 v n xs) : Shelf Z g e el v es := by
  refine ⟨hp1 _ _ _ (fun q hq => (h.list.lt q hq).2) (own_below h.list hX), ?_, h.len⟩
  intro i hi
  obtain ⟨m, hm, ho⟩ := h.ent i hi
  exact ⟨m, hm, hp2 _ _ _ (fun q hq => (ho.lt q hq).2) (own_below ho hX)⟩

theorem ti_contigs {X Y Z : World} {g n k B : Nat} {lv vc vr v' x0 x1 x2 x3 : Value} {cs rs : List Value} (hsc : Shelf X g 59 29 vc cs) (hsr : Shelf X g 56 88 vr rs) (hX : Below X.heap.size X Y) (hn : n ≤ 1000) (hk : 4 * k + 4 ≤ 7000000000000)
    (hc4 : cs.length % 4 = 0) (hr4 : rs.length % 4 = 0) (hck : cs.length ≤ 4 * k) (hrk : rs.length ≤ 4 * k) (hB : X.heap.size ≤ B)
    (hW : Z.heap[g]? = some (.cells #[lv, .slice none 0 0, v', vr, .slice none 0 0, .slice none 0 0] 68 (0, 0)))
    (hl : Z.ownsRow (g + 1) 29 1 v' (cs.length + 4) (cs ++ [x0, x1, x2, x3])) (m0 : Z.ownsRow (g + 1) 59 2 x0 n (marks (mk cs.length) n)) (m1 : Z.ownsRow (g + 1) 59 2 x1 (n + 1) (marks (mk cs.length) (n + 1)))
    (m2 : Z.ownsRow (g + 1) 59 2 x2 (n + 2) (marks (mk cs.length) (n + 2))) (m3 : Z.ownsRow (g + 1) 59 2 x3 (n + 3) (marks (mk cs.length) (n + 3)))
    (hp : ∀ e s v n xs, e ≠ 29 → (∀ q, v.ownBlock = some q → q < B) → Y.ownsRow (g + 1) e s v n xs → Z.ownsRow (g + 1) e s v n xs) : TI Z g lv (k + 1) := by
  have hlt : ∀ {v : Value}, (∀ q, v.ownBlock = some q → q < X.heap.size) → ∀ q, v.ownBlock = some q → q < B := fun h q hq => by have := h q hq; omega
  refine ⟨v', vr, cs ++ [x0, x1, x2, x3], rs, hW, shelf_more hsc hX hn (by omega) hc4 hl m0 m1 m2 m3 (fun v n xs hv ho => hp _ _ v n xs (by decide) (hlt hv) ho), shelf_kept hsr hX (fun v n xs hv ho => hp _ _ v n xs (by decide) (hlt hv) ho) (fun v n xs hv ho => hp _ _ v n xs (by decide) (hlt hv) ho), ?_, hr4, ?_, by omega⟩
  · rw [List.length_append]; simp only [List.length_cons, List.length_nil]; omega
  · rw [List.length_append]; simp only [List.length_cons, List.length_nil]; omega

theorem ti_reads {X Y Z : World} {g n k B : Nat} {lv vc vr v' x0 x1 x2 x3 : Value} {cs rs : List Value} (hsc : Shelf X g 59 29 vc cs) (hsr : Shelf X g 56 88 vr rs) (hX : Below X.heap.size X Y) (hn : n ≤ 1000) (hk : 4 * k + 4 ≤ 7000000000000)
    (hc4 : cs.length % 4 = 0) (hr4 : rs.length % 4 = 0) (hck : cs.length ≤ 4 * k) (hrk : rs.length ≤ 4 * k) (hB : X.heap.size ≤ B)
    (hW : Z.heap[g]? = some (.cells #[lv, .slice none 0 0, vc, v', .slice none 0 0, .slice none 0 0] 68 (0, 0)))
    (hl : Z.ownsRow (g + 1) 88 1 v' (rs.length + 4) (rs ++ [x0, x1, x2, x3])) (m0 : Z.ownsRow (g + 1) 56 2 x0 n (marks (mk rs.length) n)) (m1 : Z.ownsRow (g + 1) 56 2 x1 (n + 1) (marks (mk rs.length) (n + 1)))
    (m2 : Z.ownsRow (g + 1) 56 2 x2 (n + 2) (marks (mk rs.length) (n + 2))) (m3 : Z.ownsRow (g + 1) 56 2 x3 (n + 3) (marks (mk rs.length) (n + 3)))
    (hp : ∀ e s v n xs, e ≠ 88 → (∀ q, v.ownBlock = some q → q < B) → Y.ownsRow (g + 1) e s v n xs → Z.ownsRow (g + 1) e s v n xs) : TI Z g lv (k + 1) := by
  have hlt : ∀ {v : Value}, (∀ q, v.ownBlock = some q → q < X.heap.size) → ∀ q, v.ownBlock = some q → q < B := fun h q hq => by have := h q hq; omega
  refine ⟨vc, v', cs, rs ++ [x0, x1, x2, x3], hW, shelf_kept hsc hX (fun v n xs hv ho => hp _ _ v n xs (by decide) (hlt hv) ho) (fun v n xs hv ho => hp _ _ v n xs (by decide) (hlt hv) ho), shelf_more hsr hX hn (by omega) hr4 hl m0 m1 m2 m3 (fun v n xs hv ho => hp _ _ v n xs (by decide) (hlt hv) ho), hc4, ?_, by omega, ?_⟩
  · rw [List.length_append]; simp only [List.length_cons, List.length_nil]; omega
  · rw [List.length_append]; simp only [List.length_cons, List.length_nil]; omega

set_option maxRecDepth 100000 in
theorem lent_fasta {X w1 : World} {s : ByteArray} {v : Value} (hl : Lent X w1 s v) (hs : s.size ≤ 140737488351232) :
    Calls Tryz.prog 33 #[v] w1 fun e w' => Reads w1 59 (Tx.fasta s) e w' := by
  rcases hl with ⟨h0, rfl, _⟩ | ⟨rfl, ho, hb, hlt⟩
  · exact fasta_nil s w1 h0
  · exact fasta_any s X.heap.size (s.size + 8) w1 hs (lent_bs ho) hlt (by omega)

set_option maxRecDepth 100000 in
set_option maxHeartbeats 8000000 in
theorem wfasta_any (X : World) (g : Nat) (lv : Value) (k : Nat) (s : ByteArray) (raw : Int) (hI : TI X g lv k) (hk : 4 * k + 4 ≤ 7000000000000) (hs : s.size ≤ 140737488351232) :
    Calls Tryz.prog 44 #[.pointer (some ⟨g, 0, none⟩), .string s, .int .i64 raw] X fun e X' => e = .returned (.bool true) ∧ TI X' g lv (k + 1) ∧ Below g X X' := by
  have HI : Hid _ := hI
  clear hI
  have heq := eql_contig
  have hnil := fun (wy : World) (a : Option Addr) (l c : Nat) => Lib.run_eql_slice_nil (P := Tryz.prog) wy 29 59 a l c 0 0 Tryz.underlying29
  obtain ⟨R, hR⟩ : ∃ R, R = Tx.fasta s := ⟨_, rfl⟩
  have hRl : R.out.length ≤ 1000 := by rw [hR]; have := Tx.fasta_len s; omega
  have HR : Hid _ := hR
  clear hR
  go_enter Tryz.func44, Tryz.ntmps44
  go_wp2_with fail
  refine (lentBytes_any s raw _ hs).mono ?_
  rintro e w1 ⟨v, rfl, hl⟩
  have HL : Hid _ := hl
  clear hl
  go_wp2_with fail
  refine (lent_fasta HL.out hs).mono ?_
  rw [← HR.out]
  rintro e w2 ⟨v1, rfl, ho1, hb1, hz1⟩
  obtain ⟨a1, cp1, hv1⟩ := own_form ho1
  subst hv1
  have HO1 : Hid _ := ho1
  have HB1 : Hid _ := hb1
  clear ho1 hb1
  go_wp2_with fail
  refine (refFasta_any s _ hs).mono ?_
  rw [← HR.out]
  rintro e w3 ⟨v2, rfl, ho2, hb2, _⟩
  obtain ⟨a2, cp2, hv2⟩ := own_form ho2
  subst hv2
  have HO2 : Hid _ := ho2
  have HB2 : Hid _ := hb2
  clear ho2 hb2
  go_wp2_with fail
  refine (lent_whole HL.out (HB1.out.trans (HB2.out.mono HB1.out.size)) hs).mono ?_
  rintro e w4 ⟨rfl, hg4⟩
  have hfin := lent_fin HL.out HO1.out HB1.out HO2.out HB2.out hg4
  obtain ⟨hX4, hO14, hO24, hsz, hsz4⟩ := hfin
  have HX4 : Hid _ := hX4
  have HO14 : Hid _ := hO14
  have HO24 : Hid _ := hO24
  clear hX4 hO14 hO24 hg4 HO1 HO2 HB1 HB2 HL
  obtain ⟨n, hn⟩ : ∃ n, n = R.out.length := ⟨_, rfl⟩
  rw [← hn] at hRl ⊢
  have HN : Hid _ := hn
  have hcase : a1 = none ∨ (R.err = 0 ∧ ∃ b1, a1 = some b1) := by
    cases a1 with
    | none => exact .inl rfl
    | some b1 =>
      refine .inr ⟨?_, b1, rfl⟩
      by_cases h0 : R.err = 0
      · exact h0
      · have := hz1 h0
        simp at this
  clear hz1 hn
  rcases hcase with rfl | ⟨hE, b1, rfl⟩
  all_goals
    go_wp2
    clear hnil
    go_loopw [15, 16] (fun ok i wr => ∃ q : Nat, q ≤ n ∧ ok = .bool true ∧ i = .int .i64 (q : Int) ∧ Below w4.heap.size w4 wr) (fun _ i _ => n - (intOf i).toNat)
    case atStart => exact ⟨0, Nat.zero_le _, rfl, rfl, Below.refl _ _⟩
    case round =>
      obtain ⟨q, hq, rfl, rfl, hbr⟩ := hrel
      have HBR : Hid _ := hbr
      clear hbr
      by_cases hlt : q < n
      · have hO1 := own_below HO14.out HBR.out
        have hO2 := own_below HO24.out HBR.out
        rw [← HN.out] at hO1 hO2
        obtain ⟨c1, d1, hv1, _, _⟩ := own_pos hO1 (by omega)
        obtain ⟨c2, d2, hv2, _, _⟩ := own_pos hO2 (by omega)
        simp only [Value.slice.injEq, true_and, reduceCtorEq, false_and, Option.some.injEq] at hv1 hv2
        all_goals
          obtain ⟨hv1, rfl⟩ := hv1
          obtain ⟨hv2, rfl⟩ := hv2
          subst hv1 hv2
          obtain ⟨p0, p1⟩ := own_pair hO1 q (by rw [← HN.out]; exact hlt)
          obtain ⟨r0, r1⟩ := own_pair hO2 q (by rw [← HN.out]; exact hlt)
          clear hO1 hO2
          have hlt' : decide ((q : Int) < (n : Int)) = true := by simp; omega
          have hlt2 : (q : Int) < (n : Int) := by omega
          go_wp2_with fail
          go_quiet (fail)
          go_wp2
          go_roundw
          case rel => exact ⟨q + 1, by omega, rfl, by go_num, below_drewN HBR.out _⟩
          case measure => simp [intOf]; omega
      · have hlt' : decide ((q : Int) < (n : Int)) = false := by simp; omega
        go_wp2_with fail
        obtain ⟨vc, vr, cs, rs, hW, hsc, hsr, hc4, hr4, hck, hrk⟩ := HI.out
        have hgX : g < X.heap.size := (Array.getElem?_eq_some_iff.1 hW).1
        have hX := HX4.out.trans (HBR.out.mono hsz4)
        have hO1 := own_below HO14.out HBR.out
        have hsc' := shelf_below hsc hX
        have hsr' := shelf_below hsr hX
        have hW' := (hX.block g hgX).trans hW
        rw [HN.out]
        refine (keepsContigs_any _ g lv (.slice none 0 0) vc vr (.slice none 0 0) (.slice none 0 0) cs _ R.out w1.heap.size hW' hsc'.list (by omega) hO1 (by omega) (by rw [← HN.out]; exact hRl)).mono ?_
        rintro e w6 ⟨rfl, vc', x1, x2, x3, hW6, hl6, m0, m1, m2, m3, hb6, hpres⟩
        go_wp2
        go_ret
        exact ⟨rfl, ti_contigs hsc hsr hX (by rw [← HN.out]; exact hRl) hk hc4 hr4 hck hrk hsz hW6 hl6 m0 m1 m2 m3 hpres, (hX.mono (by omega)).trans hb6⟩

end Go.Proofs.YtjebhbopmfcopaaGreatDoor
