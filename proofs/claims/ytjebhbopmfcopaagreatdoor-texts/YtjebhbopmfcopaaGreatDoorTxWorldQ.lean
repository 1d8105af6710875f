/-
  THE WALK of the World's 'fastq': as that of 'fasta', with reads. Own text of the verifier.
-/
import Derived.Test.YtjebhbopmfcopaaGreatDoorTxWorld
namespace Go.Proofs.YtjebhbopmfcopaaGreatDoor
open Go.RowKit

set_option maxRecDepth 100000 in
theorem lent_fastq {X w1 : World} {s : ByteArray} {v : Value} (hl : Lent X w1 s v) (hs : s.size ≤ 140737488351232) :
    Calls Tryz.prog 34 #[v] w1 fun e w' => Reads w1 56 (Tx.fastq s) e w' := by
  rcases hl with ⟨h0, rfl, _⟩ | ⟨rfl, ho, hb, hlt⟩
  · exact fastq_nil s w1 h0
  · exact fastq_any s X.heap.size (s.size + 8) w1 hs (lent_bs ho) hlt (by omega)

set_option maxRecDepth 100000 in
set_option maxHeartbeats 8000000 in
theorem wfastq_any (X : World) (g : Nat) (lv : Value) (k : Nat) (s : ByteArray) (raw : Int) (hI : TI X g lv k) (hk : 4 * k + 4 ≤ 7000000000000) (hs : s.size ≤ 140737488351232) :
    Calls Tryz.prog 45 #[.pointer (some ⟨g, 0, none⟩), .string s, .int .i64 raw] X fun e X' => e = .returned (.bool true) ∧ TI X' g lv (k + 1) ∧ Below g X X' := by
  have HI : Hid _ := hI
  clear hI
  have heq := eql_read
  have hnil := fun (wy : World) (a : Option Addr) (l c : Nat) => Lib.run_eql_slice_nil (P := Tryz.prog) wy 88 56 a l c 0 0 Tryz.underlying88
  obtain ⟨R, hR⟩ : ∃ R, R = Tx.fastq s := ⟨_, rfl⟩
  have hRl : R.out.length ≤ 1000 := by rw [hR]; have := Tx.fastq_len s; omega
  have HR : Hid _ := hR
  clear hR
  go_enter Tryz.func45, Tryz.ntmps45
  go_wp2_with fail
  refine (lentBytes_any s raw _ hs).mono ?_
  rintro e w1 ⟨v, rfl, hl⟩
  have HL : Hid _ := hl
  clear hl
  go_wp2_with fail
  refine (lent_fastq HL.out hs).mono ?_
  rw [← HR.out]
  rintro e w2 ⟨v1, rfl, ho1, hb1, hz1⟩
  obtain ⟨a1, cp1, hv1⟩ := own_form ho1
  subst hv1
  have HO1 : Hid _ := ho1
  have HB1 : Hid _ := hb1
  clear ho1 hb1
  go_wp2_with fail
  refine (refFastq_any s _ hs).mono ?_
  rw [← HR.out]
  rintro e w3 ⟨v2, rfl, ho2, hb2, _⟩
  obtain ⟨a2, cp2, hv2⟩ := own_form ho2
  subst hv2
  have HO2 : Hid _ := ho2
  have HB2 : Hid _ := hb2
  clear ho2 hb2
  go_wp2_with fail
  refine (lent_whole HL.out (HB1.out.trans (HB2.out.mono HB1.out.size)) hs).mono ?_
  rintro e w4 ⟨rfl, hg4⟩
  have hfin := lent_fin HL.out HO1.out HB1.out HO2.out HB2.out hg4
  obtain ⟨hX4, hO14, hO24, hsz, hsz4⟩ := hfin
  have HX4 : Hid _ := hX4
  have HO14 : Hid _ := hO14
  have HO24 : Hid _ := hO24
  clear hX4 hO14 hO24 hg4 HO1 HO2 HB1 HB2 HL
  obtain ⟨n, hn⟩ : ∃ n, n = R.out.length := ⟨_, rfl⟩
  rw [← hn] at hRl ⊢
  have HN : Hid _ := hn
  have hcase : a1 = none ∨ (R.err = 0 ∧ ∃ b1, a1 = some b1) := by
    cases a1 with
    | none => exact .inl rfl
    | some b1 =>
      refine .inr ⟨?_, b1, rfl⟩
      by_cases h0 : R.err = 0
      · exact h0
      · have := hz1 h0
        simp at this
  clear hz1 hn
  rcases hcase with rfl | ⟨hE, b1, rfl⟩
  all_goals
    go_wp2
    clear hnil
    go_loopw [15, 16] (fun ok i wr => ∃ q : Nat, q ≤ n ∧ ok = .bool true ∧ i = .int .i64 (q : Int) ∧ Below w4.heap.size w4 wr) (fun _ i _ => n - (intOf i).toNat)
    case atStart => exact ⟨0, Nat.zero_le _, rfl, rfl, Below.refl _ _⟩
    case round =>
      obtain ⟨q, hq, rfl, rfl, hbr⟩ := hrel
      have HBR : Hid _ := hbr
      clear hbr
      by_cases hlt : q < n
      · have hO1 := own_below HO14.out HBR.out
        have hO2 := own_below HO24.out HBR.out
        rw [← HN.out] at hO1 hO2
        obtain ⟨c1, d1, hv1, _, _⟩ := own_pos hO1 (by omega)
        obtain ⟨c2, d2, hv2, _, _⟩ := own_pos hO2 (by omega)
        simp only [Value.slice.injEq, true_and, reduceCtorEq, false_and, Option.some.injEq] at hv1 hv2
        all_goals
          obtain ⟨hv1, rfl⟩ := hv1
          obtain ⟨hv2, rfl⟩ := hv2
          subst hv1 hv2
          obtain ⟨p0, p1⟩ := own_pair hO1 q (by rw [← HN.out]; exact hlt)
          obtain ⟨r0, r1⟩ := own_pair hO2 q (by rw [← HN.out]; exact hlt)
          clear hO1 hO2
          have hlt' : decide ((q : Int) < (n : Int)) = true := by simp; omega
          have hlt2 : (q : Int) < (n : Int) := by omega
          go_wp2_with fail
          go_quiet (fail)
          go_wp2
          go_roundw
          case rel => exact ⟨q + 1, by omega, rfl, by go_num, below_drewN HBR.out _⟩
          case measure => simp [intOf]; omega
      · have hlt' : decide ((q : Int) < (n : Int)) = false := by simp; omega
        go_wp2_with fail
        obtain ⟨vc, vr, cs, rs, hW, hsc, hsr, hc4, hr4, hck, hrk⟩ := HI.out
        have hgX : g < X.heap.size := (Array.getElem?_eq_some_iff.1 hW).1
        have hX := HX4.out.trans (HBR.out.mono hsz4)
        have hO1 := own_below HO14.out HBR.out
        have hsc' := shelf_below hsc hX
        have hsr' := shelf_below hsr hX
        have hW' := (hX.block g hgX).trans hW
        rw [HN.out]
        refine (keepsReads_any _ g lv (.slice none 0 0) vr vc (.slice none 0 0) (.slice none 0 0) rs _ R.out w1.heap.size hW' hsr'.list (by omega) hO1 (by omega) (by rw [← HN.out]; exact hRl)).mono ?_
        rintro e w6 ⟨rfl, vc', x1, x2, x3, hW6, hl6, m0, m1, m2, m3, hb6, hpres⟩
        go_wp2
        go_ret
        exact ⟨rfl, ti_reads hsc hsr hX (by rw [← HN.out]; exact hRl) hk hc4 hr4 hck hrk hsz hW6 hl6 m0 m1 m2 m3 hpres, (hX.mono (by omega)).trans hb6⟩

end Go.Proofs.YtjebhbopmfcopaaGreatDoor
