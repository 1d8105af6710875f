/-
  THE WALK of the program's Fastq: a machine of four labels (mark 0, fault 1, inLetters 2, inQualities 3). Own text of the verifier.
-/
import Derived.Test.YtjebhbopmfcopaaGreatDoorTxFasta
import Derived.Test.YtjebhbopmfcopaaGreatDoorTxFq
import Derived.Test.YtjebhbopmfcopaaGreatDoorTxRefFq
import Derived.Lib.SlBytesConst
namespace Go.Proofs.YtjebhbopmfcopaaGreatDoor
open Go.RowKit

theorem frame120 (a : Act) (h : a.tmps.size = 120) (hd : a.defers = []) : ∃ t : Nat → Value, a = ⟨#[t 0, t 1, t 2, t 3, t 4, t 5, t 6, t 7, t 8, t 9, t 10, t 11, t 12, t 13, t 14, t 15, t 16, t 17, t 18, t 19, t 20, t 21, t 22, t 23, t 24, t 25, t 26, t 27, t 28, t 29, t 30, t 31, t 32, t 33, t 34, t 35, t 36, t 37, t 38, t 39, t 40, t 41, t 42, t 43, t 44, t 45, t 46, t 47, t 48, t 49, t 50, t 51, t 52, t 53, t 54, t 55, t 56, t 57, t 58, t 59, t 60, t 61, t 62, t 63, t 64, t 65, t 66, t 67, t 68, t 69, t 70, t 71, t 72, t 73, t 74, t 75, t 76, t 77, t 78, t 79, t 80, t 81, t 82, t 83, t 84, t 85, t 86, t 87, t 88, t 89, t 90, t 91, t 92, t 93, t 94, t 95, t 96, t 97, t 98, t 99, t 100, t 101, t 102, t 103, t 104, t 105, t 106, t 107, t 108, t 109, t 110, t 111, t 112, t 113, t 114, t 115, t 116, t 117, t 118, t 119], []⟩ ∧ ∀ i, t i = a.tmps.getD i undef :=
  ⟨fun i => a.tmps.getD i undef, frame_of a 120 h hd, fun _ => rfl⟩

/-- the frame's slots that matter -/
structure FqF (a : Act) (b v nm lt : Value) (p first : Int) : Prop where
  sz : a.tmps.size = 120
  df : a.defers = []
  s0 : a.tmps.getD 0 undef = b
  s5 : a.tmps.getD 5 undef = v
  s6 : a.tmps.getD 6 undef = nm
  s7 : a.tmps.getD 7 undef = lt
  s8 : a.tmps.getD 8 undef = .int .i64 p
  s9 : a.tmps.getD 9 undef = .int .i64 first

/-- what holds at each label -/
def FqJ (s : ByteArray) (R : Tx.Ans) (w : World) (b : Value) (l : Nat) (a : Act) (wr : World) : Prop :=
  Below w.heap.size w wr ∧ ∃ (v nm lt : Value) (p : Nat) (first : Int) (out : List Pr), FqF a b v nm lt p first ∧ p ≤ s.size ∧ out.length ≤ 256 ∧
    wr.ownsRow w.heap.size 56 2 v out.length (Prs out) ∧
    ((l = 0 ∧ ∃ f, s.size ≤ f + p ∧ R = Tx.fq s (f + 1) p out) ∨
     (l = 1 ∧ R = Tx.bad 5 p) ∨
     (l = 2 ∧ ∃ f name q j, nm = .string ⟨name.toArray⟩ ∧ p = q + j ∧ j ≤ 128 ∧ s.size + 1 ≤ f + q ∧ out.length < 256 ∧ Tx.rlen s q 128 = j + Tx.rlen s (q + j) (128 - j) ∧ wr.ownsRow w.heap.size 5 1 lt j (Bys (Tx.caps s q j)) ∧ R = Tx.fqTail s q (fun q' x => Tx.fq s f q' (out ++ [(name, x)]))) ∨
     (l = 3 ∧ ∃ f name x c j h, nm = .string ⟨name.toArray⟩ ∧ first = ((j : Nat) : Int) ∧ p = j + h ∧ h ≤ c ∧ c ≤ 128 ∧ s.size + 1 ≤ f + j ∧ out.length < 256 ∧ x.length = c ∧ Tx.qlen s j c = h + Tx.qlen s (j + h) (c - h) ∧ wr.ownsRow w.heap.size 5 1 lt c (Bys x) ∧ R = Tx.fqQual s j c (fun q' => Tx.fq s f q' (out ++ [(name, x)]))))

def FqM (S l : Nat) (a : Act) (_ : World) : Nat := if l = 1 then 0 else S + 1 - (intOf (a.tmps.getD 8 undef)).toNat + 1

theorem FqJ_lt (s : ByteArray) (R : Tx.Ans) (w : World) (b : Value) : ∀ l a wr, FqJ s R w b l a wr → l < 4 := by
  rintro l a wr ⟨_, v, nm, lt, p, first, out, _, _, _, _, h⟩
  rcases h with ⟨rfl, _⟩ | ⟨rfl, _⟩ | ⟨rfl, _⟩ | ⟨rfl, _⟩ <;> omega

set_option maxRecDepth 100000 in
set_option maxHeartbeats 8000000 in
theorem fastq_any (s : ByteArray) (g cp : Nat) (w : World) (hs : s.size ≤ 140737488351232) (hb : Bs w g s) (hg : g < w.heap.size) (hcp : s.size ≤ cp) :
    Calls Tryz.prog 34 #[.slice (some ⟨g, 0, none⟩) s.size cp] w fun e w' => Reads w 56 (Tx.fastq s) e w' := by
  obtain ⟨R, hR⟩ : ∃ R, R = Tx.fastq s := ⟨_, rfl⟩
  rw [← hR]
  have HR : Hid _ := hR
  have HB : Hid _ := hb
  clear hR hb
  have hkc := fun (wy : World) (C : Array Value) (n c : Nat) => Lib.run_convert_bytes_const (P := Tryz.prog) wy 43 5 C n c Tryz.underlying43 Tryz.underlying5
  have HKC : Hid _ := hkc
  clear hkc
  go_enter Tryz.func34, Tryz.ntmps34
  go_wp2
  refine wp_four_b (FqJ s R w (.slice (some ⟨g, 0, none⟩) s.size cp)) (FqM s.size) (FqJ_lt _ _ _ _) rfl rfl rfl rfl ?_ ?_ ?_ ?_ ?_
  · -- fault
    intro n a wr hJ hm
    obtain ⟨hbel, v, nm, lt, p, first, out, F, hp, ho, hown, hJ⟩ := hJ
    rcases hJ with ⟨h, _⟩ | ⟨_, hR⟩ | ⟨h, _⟩ | ⟨h, _⟩
    · exfalso; omega
    · obtain ⟨t, ha, hti⟩ := frame120 a F.sz F.df
      have e8 := (hti 8).trans F.s8
      subst ha
      rw [e8]
      clear F hti e8
      have HRB : Hid _ := hR
      clear hR
      go_wp2
      rw [jumps_ret]
      go_ret3
      exact reads_bad HRB.out rfl hbel
    · exfalso; omega
    · exfalso; omega
  · -- inQualities
    intro n a wr hJ hm
    obtain ⟨hbel, v, nm, lt, p, first, out, F, hp, ho, hown, hJ⟩ := hJ
    rcases hJ with ⟨h, _⟩ | ⟨h, _⟩ | ⟨h, _⟩ | ⟨_, f, name, x, c, j, h, rfl, rfl, hpj, hhc, hc8, hf, ho6, hxl, hq, hownL, hR⟩
    · exfalso; omega
    · exfalso; omega
    · exfalso; omega
    · have hmn : s.size + 1 - p + 1 ≤ n := by
        have h8 := F.s8
        simp only [FqM, h8, intOf] at hm
        simpa using hm
      obtain ⟨t, ha, hti⟩ := frame120 a F.sz F.df
      have e0 := (hti 0).trans F.s0
      have e5 := (hti 5).trans F.s5
      have e6 := (hti 6).trans F.s6
      have e7 := (hti 7).trans F.s7
      have e8 := (hti 8).trans F.s8
      have e9 := (hti 9).trans F.s9
      subst ha
      rw [e0, e5, e6, e7, e8, e9]
      clear F hti e0 e5 e6 e7 e8 e9 hm
      have HBR : Hid (Bs wr g s) := fun j h => (hbel.cell (p := ⟨g, j, none⟩) hg).trans (HB.out j h)
      have hsz := hbel.size
      obtain ⟨la, lcap, hl⟩ := own_form hownL
      subst hl
      have hjp : j ≤ p := by omega
      by_cases hlt : h < c
      · rw [Tx.qlen_step s j c h hlt, ← hpj] at hq
        have hd1 : decide ((p : Int) - (j : Int) < (c : Int)) = true := by simp; omega
        have hd2 : (p : Int) - (j : Int) < (c : Int) := by omega
        cases hql : Tx.ql (Tx.bt s p) with
        | true =>
          rw [hql, if_pos rfl] at hq
          have HQL : Hid _ := hql
          have hps : p < s.size := Tx.bt_lt (fun h0 => by rw [h0, Tx.ql_zero] at hql; cases hql)
          have HN : Hid (Tx.qlen s j c = (h + 1) + Tx.qlen s (j + (h + 1)) (c - (h + 1))) := by show _ = _; omega
          have HRB : Hid _ := hR
          have HO : Hid _ := hown
          have HOL : Hid _ := hownL
          have HPJ : Hid _ := hpj
          clear hR hq hql hown hownL hpj
          go_wp2_with (first
            | (go_at_call 63; refine (byteAt_any s g cp p _ HBR.out).mono ?_; rintro e w' ⟨rfl, hw⟩; subst w')
            | (go_at_call 67; refine (isQuality_any _ _).mono ?_; rintro e w' ⟨rfl, hw⟩; subst w'; rw [HQL.out]))
          go_step3
          show FqJ s R w (.slice (some ⟨g, 0, none⟩) s.size cp) 3 _ wr ∧ FqM s.size 3 _ wr < n
          refine ⟨⟨hbel, _, _, _, p + 1, _, out, ⟨rfl, rfl, rfl, rfl, rfl, rfl, (by show Value.int .i64 ((p : Int) + 1) = _; go_num), rfl⟩, by omega, ho, HO.out, .inr (.inr (.inr ⟨rfl, f, name, x, c, j, h + 1, rfl, rfl, by have := HPJ.out; omega, by omega, hc8, hf, ho6, hxl, HN.out, HOL.out, HRB.out⟩))⟩, ?_⟩
          simp [FqM, intOf]
          omega
        | false =>
          rw [hql, if_neg (by simp)] at hq
          have HQL : Hid _ := hql
          have HRB : Hid (R = Tx.bad 6 p) := by show _ = _; rw [hR, Tx.fqQual, hq, if_pos (.inl (by omega)), hpj]; rfl
          clear hR hq hql hown hownL hpj
          go_wp2_with (first
            | (go_at_call 63; refine (byteAt_any s g cp p _ HBR.out).mono ?_; rintro e w' ⟨rfl, hw⟩; subst w')
            | (go_at_call 67; refine (isQuality_any _ _).mono ?_; rintro e w' ⟨rfl, hw⟩; subst w'; rw [HQL.out]))
          rw [jumps_ret]
          go_ret3
          exact reads_bad HRB.out rfl hbel
      · have hhc2 : h = c := by omega
        have hqc : Tx.qlen s j c = c := by rw [hq, hhc2, Nat.sub_self, Tx.qlen]; omega
        have hd1 : decide ((p : Int) - (j : Int) < (c : Int)) = false := by simp; omega
        have hd2 : ¬ (p : Int) - (j : Int) < (c : Int) := by omega
        have hpc : p = j + c := by omega
        by_cases h10 : Tx.bt s p = 10
        · have h10' := u8_is10 h10
          have hps : p < s.size := Tx.bt_lt (by rw [h10]; decide)
          have HRB : Hid (R = Tx.fq s f (p + 1) (out ++ [(name, x)])) := by show _ = _; rw [hR, Tx.fqQual, hqc, ← hpc, if_neg (by simp [h10])]
          have hback := back_own hownL
          have HPC : Hid _ := hpc
          clear hR hq hqc hownL hpj h10 hhc2 hpc
          go_wp2_with (first
            | (go_at_call 63; refine (byteAt_any s g cp p _ HBR.out).mono ?_; rintro e w' ⟨rfl, hw⟩; subst w')
            | (at_builtin; refine app_pair rfl _ _ 88 rfl w.heap.size 56 Tryz.underlying88 Tryz.infoRead _ out _ _ (name, x) rfl rfl rfl rfl (by exact hown) hbel (by omega) (by omega) ?_; intro v' w1 hown1 hbel1 hsz1))
          go_step3
          show FqJ s R w (.slice (some ⟨g, 0, none⟩) s.size cp) 0 _ w1 ∧ FqM s.size 0 _ w1 < n
          refine ⟨⟨hbel1, _, _, _, p + 1, _, out ++ [(name, x)], ⟨rfl, rfl, rfl, rfl, rfl, rfl, (by show Value.int .i64 ((p : Int) + 1) = _; go_num), rfl⟩, by omega, by simp; omega, hown1, .inl ⟨rfl, f - 1, by have := HPC.out; omega, by have := HPC.out; rw [show f - 1 + 1 = f by omega]; exact HRB.out⟩⟩, ?_⟩
          simp [FqM, intOf]
          omega
        · have h10' := u8_ne10 h10
          have HRB : Hid (R = Tx.bad 6 p) := by show _ = _; rw [hR, Tx.fqQual, hqc, ← hpc, if_pos (.inr h10)]
          clear hR hq hqc hown hownL hpj h10 hhc2 hpc
          go_wp2_with (go_at_call 63; refine (byteAt_any s g cp p _ HBR.out).mono ?_; rintro e w' ⟨rfl, hw⟩; subst w')
          rw [jumps_ret]
          go_ret3
          exact reads_bad HRB.out rfl hbel
  · -- inLetters
    intro T3 n a wr hJ hm
    obtain ⟨hbel, v, nm, lt, p, first, out, F, hp, ho, hown, hJ⟩ := hJ
    rcases hJ with ⟨h, _⟩ | ⟨h, _⟩ | ⟨_, f, name, q, j, rfl, hpq, hj8, hf, ho6, hrl, hownL, hR⟩ | ⟨h, _⟩
    · exfalso; omega
    · exfalso; omega
    · have HT3 : Hid _ := T3 n
      clear T3
      have hmn : s.size + 1 - p + 1 ≤ n := by
        have h8 := F.s8
        simp only [FqM, h8, intOf] at hm
        simpa using hm
      obtain ⟨t, ha, hti⟩ := frame120 a F.sz F.df
      have e0 := (hti 0).trans F.s0
      have e5 := (hti 5).trans F.s5
      have e6 := (hti 6).trans F.s6
      have e7 := (hti 7).trans F.s7
      have e8 := (hti 8).trans F.s8
      have e9 := (hti 9).trans F.s9
      subst ha
      rw [e0, e5, e6, e7, e8, e9]
      clear F hti e0 e5 e6 e7 e8 e9 hm
      have HBR : Hid (Bs wr g s) := fun j h => (hbel.cell (p := ⟨g, j, none⟩) hg).trans (HB.out j h)
      have hsz := hbel.size
      obtain ⟨la, lcap, hl⟩ := own_form hownL
      subst hl
      have HPQ : Hid _ := hpq
      by_cases hc : Tx.cap (Tx.bt s p) = 0
      · have hne := u8_is0 hc
        have hrj : Tx.rlen s q 128 = j := by
          rw [hrl]
          by_cases h8 : j < 128
          · rw [rlen_step s q 128 j h8, ← hpq, if_neg (by simp [hc])]; omega
          · rw [show 128 - j = 0 by omega, Tx.rlen]; omega
        rcases Nat.eq_zero_or_pos j with hj0 | hj0
        · subst hj0
          have HRB : Hid (R = Tx.bad 5 p) := by show _ = _; rw [hR, Tx.tail_none s q _ hrj (by rw [← hc, hpq]; rfl), hpq]; rfl
          have HO : Hid _ := hown
          clear hR hrl hrj hc hown hownL hpq
          go_wp2_with (first
            | (go_at_call 63; refine (byteAt_any s g cp p _ HBR.out).mono ?_; rintro e w' ⟨rfl, hw⟩; subst w')
            | (go_at_call 66; refine (Capital_any _ _).mono ?_; rintro e w' ⟨rfl, hw⟩; subst w'))
          go_step3
          show FqJ s R w (.slice (some ⟨g, 0, none⟩) s.size cp) 1 _ wr ∧ FqM s.size 1 _ wr < n
          refine ⟨⟨hbel, _, _, _, p, _, out, ⟨rfl, rfl, rfl, rfl, rfl, rfl, rfl, rfl⟩, by omega, ho, HO.out, .inr (.inl ⟨rfl, HRB.out⟩)⟩, ?_⟩
          simp [FqM]
          omega
        · have HRB : Hid (R = Tx.fqPlus s p (fun jj => Tx.fqQual s jj j (fun p' => Tx.fq s f p' (out ++ [(name, Tx.caps s q j)])))) := by
            show _ = _
            rw [hR, Tx.tail_end s q j _ hrj (by rw [← hpq]; exact hc) hj0, ← hpq]
          have hj0' : ((j : Int) == 0) = false := by rw [beq_eq_false_iff_ne]; omega
          have HO : Hid _ := hown
          have HOL : Hid _ := hownL
          clear hR hrl hrj hc hown hownL hpq
          have hkc := HKC.out
          go_wp2_with (first
            | (go_at_call 63; refine (byteAt_any s g cp p _ HBR.out).mono ?_; rintro e w' ⟨rfl, hw⟩; subst w')
            | (go_at_call 66; refine (Capital_any _ _).mono ?_; rintro e w' ⟨rfl, hw⟩; subst w'))
          have c0 : (wr.alloc (Obj.cells #[Value.int IntKind.u8 10, Value.int IntKind.u8 43, Value.int IntKind.u8 10] 5 (3, 4))).cell? ⟨wr.heap.size, 0, none⟩ = some (.int .u8 10) := by rw [World.cell?_alloc_mark]; rfl
          have c1 : (wr.alloc (Obj.cells #[Value.int IntKind.u8 10, Value.int IntKind.u8 43, Value.int IntKind.u8 10] 5 (3, 4))).cell? ⟨wr.heap.size, 1, none⟩ = some (.int .u8 43) := by rw [World.cell?_alloc_mark]; rfl
          have c2 : (wr.alloc (Obj.cells #[Value.int IntKind.u8 10, Value.int IntKind.u8 43, Value.int IntKind.u8 10] 5 (3, 4))).cell? ⟨wr.heap.size, 2, none⟩ = some (.int .u8 10) := by rw [World.cell?_alloc_mark]; rfl
          have hbw : Below wr.heap.size wr (wr.alloc (Obj.cells #[Value.int IntKind.u8 10, Value.int IntKind.u8 43, Value.int IntKind.u8 10] 5 (3, 4))) := (Below.refl _ _).alloc (Nat.le_refl _) _
          generalize (wr.alloc (Obj.cells #[Value.int IntKind.u8 10, Value.int IntKind.u8 43, Value.int IntKind.u8 10] 5 (3, 4))) = W1 at *
          have hb1 := hbel.trans (hbw.mono hsz)
          have hO1 : Hid _ := own_below HO.out hbw
          have hL1 : Hid _ := own_below HOL.out hbw
          have HB1 : Hid (Bs W1 g s) := fun j h => (hb1.cell (p := ⟨g, j, none⟩) hg).trans (HB.out j h)
          clear hbw HO HOL HBR hkc hbel
          generalize wr.heap.size = gc at *
          refine wp_loop_rounds 4 ?_
          by_cases h0 : Tx.bt s p = 10
          · have h0' := u8_is10 h0
            have hps0 : p < s.size := Tx.bt_lt (by rw [h0]; decide)
            by_cases h1 : Tx.bt s (p + 1) = 43
            · have h1' := u8_43 h1
              have hps1 : p + 1 < s.size := Tx.bt_lt (by rw [h1]; decide)
              by_cases h2 : Tx.bt s (p + 2) = 10
              · have h2' := u8_is10 h2
                have hps2 : p + 2 < s.size := Tx.bt_lt (by rw [h2]; decide)
                have HF : Hid _ := HRB.out.trans (Tx.plus_good s p _ h0 h1 h2)
                clear h0 h1 h2 HRB
                rw [rounds_succ]
                go_wp2_with fail
                refine (byteAt_any s g cp p _ HB1.out).mono ?_
                rintro e w' ⟨rfl, hw⟩
                subst w'
                go_wp2
                rw [rounds_succ]
                go_wp2_with fail
                rw [show (p : Int) + 1 = ((p + 1 : Nat) : Int) from by omega]
                refine (byteAt_any s g cp (p + 1) _ HB1.out).mono ?_
                rintro e w' ⟨rfl, hw⟩
                subst w'
                rw [show ((p + 1 : Nat) : Int) = (p : Int) + 1 from by omega]
                go_wp2
                rw [rounds_succ]
                go_wp2_with fail
                rw [show (p : Int) + 1 + 1 = ((p + 2 : Nat) : Int) from by omega]
                refine (byteAt_any s g cp (p + 2) _ HB1.out).mono ?_
                rintro e w' ⟨rfl, hw⟩
                subst w'
                rw [show ((p + 2 : Nat) : Int) = (p : Int) + 1 + 1 from by omega]
                go_wp2
                rw [rounds_succ]
                go_wp2
                go_step3
                simp only [Exit.then]
                apply_assumption
                refine HT3.out _ _ ?_ ?_
                · exact ⟨hb1, _, _, _, p + 3, _, out, ⟨rfl, rfl, rfl, rfl, rfl, rfl, (by show Value.int .i64 ((p : Int) + 1 + 1 + 1) = _; congr 1), rfl⟩, by omega, ho, hO1.out, .inr (.inr (.inr ⟨rfl, f, name, Tx.caps s q j, j, p + 3, 0, rfl, by omega, by omega, by omega, hj8, by have := HPQ.out; omega, ho6, Tx.caps_length _ _ _, by simp, hL1.out, HF.out⟩))⟩
                · simp [FqM, intOf]
                  omega
              · have h2' := u8_ne10 h2
                have HF : Hid _ := HRB.out.trans (Tx.plus_bad2 s p _ h0 h1 h2)
                clear h0 h1 h2 HRB
                rw [rounds_succ]
                go_wp2_with fail
                refine (byteAt_any s g cp p _ HB1.out).mono ?_
                rintro e w' ⟨rfl, hw⟩
                subst w'
                go_wp2
                rw [rounds_succ]
                go_wp2_with fail
                rw [show (p : Int) + 1 = ((p + 1 : Nat) : Int) from by omega]
                refine (byteAt_any s g cp (p + 1) _ HB1.out).mono ?_
                rintro e w' ⟨rfl, hw⟩
                subst w'
                rw [show ((p + 1 : Nat) : Int) = (p : Int) + 1 from by omega]
                go_wp2
                rw [rounds_succ]
                go_wp2_with fail
                rw [show (p : Int) + 1 + 1 = ((p + 2 : Nat) : Int) from by omega]
                refine (byteAt_any s g cp (p + 2) _ HB1.out).mono ?_
                rintro e w' ⟨rfl, hw⟩
                subst w'
                rw [show ((p + 2 : Nat) : Int) = (p : Int) + 1 + 1 from by omega]
                go_wp2
                go_step3
                show FqJ s R w (.slice (some ⟨g, 0, none⟩) s.size cp) 1 _ W1 ∧ FqM s.size 1 _ W1 < n
                refine ⟨⟨hb1, _, _, _, p + 2, _, out, ⟨rfl, rfl, rfl, rfl, rfl, rfl, (by show Value.int .i64 ((p : Int) + 1 + 1) = _; congr 1), rfl⟩, by omega, ho, hO1.out, .inr (.inl ⟨rfl, HF.out⟩)⟩, ?_⟩
                simp [FqM]
                omega
            · have h1' := u8_n43 h1
              have HF : Hid _ := HRB.out.trans (Tx.plus_bad1 s p _ h0 h1)
              clear h0 h1 HRB
              rw [rounds_succ]
              go_wp2_with fail
              refine (byteAt_any s g cp p _ HB1.out).mono ?_
              rintro e w' ⟨rfl, hw⟩
              subst w'
              go_wp2
              rw [rounds_succ]
              go_wp2_with fail
              rw [show (p : Int) + 1 = ((p + 1 : Nat) : Int) from by omega]
              refine (byteAt_any s g cp (p + 1) _ HB1.out).mono ?_
              rintro e w' ⟨rfl, hw⟩
              subst w'
              rw [show ((p + 1 : Nat) : Int) = (p : Int) + 1 from by omega]
              go_wp2
              go_step3
              show FqJ s R w (.slice (some ⟨g, 0, none⟩) s.size cp) 1 _ W1 ∧ FqM s.size 1 _ W1 < n
              refine ⟨⟨hb1, _, _, _, p + 1, _, out, ⟨rfl, rfl, rfl, rfl, rfl, rfl, (by show Value.int .i64 ((p : Int) + 1) = _; go_num), rfl⟩, by omega, ho, hO1.out, .inr (.inl ⟨rfl, HF.out⟩)⟩, ?_⟩
              simp [FqM]
              omega
          · have h0' := u8_ne10 h0
            have HF : Hid _ := HRB.out.trans (Tx.plus_bad0 s p _ h0)
            clear h0 HRB
            rw [rounds_succ]
            go_wp2_with fail
            refine (byteAt_any s g cp p _ HB1.out).mono ?_
            rintro e w' ⟨rfl, hw⟩
            subst w'
            go_wp2
            go_step3
            show FqJ s R w (.slice (some ⟨g, 0, none⟩) s.size cp) 1 _ W1 ∧ FqM s.size 1 _ W1 < n
            refine ⟨⟨hb1, _, _, _, p, _, out, ⟨rfl, rfl, rfl, rfl, rfl, rfl, rfl, rfl⟩, by omega, ho, hO1.out, .inr (.inl ⟨rfl, HF.out⟩)⟩, ?_⟩
            simp [FqM]
            omega
      · have hne := u8_ne0 hc
        have hps : p < s.size := Tx.bt_lt (fun h => hc (by rw [h]; exact Tx.cap_zero))
        by_cases h8 : j = 128
        · have HRB : Hid (R = Tx.bad 7 p) := by
            show _ = _
            subst h8
            rw [hR, Tx.tail_long s q _ (by rw [hrl]; rfl) (by rw [← hpq]; exact hc), hpq]
          have h8' : ((j : Int) == 128) = true := by rw [beq_iff_eq]; omega
          clear hR hrl hc hown hownL hpq h8
          go_wp2_with (first
            | (go_at_call 63; refine (byteAt_any s g cp p _ HBR.out).mono ?_; rintro e w' ⟨rfl, hw⟩; subst w')
            | (go_at_call 66; refine (Capital_any _ _).mono ?_; rintro e w' ⟨rfl, hw⟩; subst w'))
          rw [jumps_ret]
          go_ret3
          exact reads_bad HRB.out rfl hbel
        · have h8' : ((j : Int) == 128) = false := by rw [beq_eq_false_iff_ne]; omega
          rw [rlen_step s q 128 j (by omega), ← hpq, if_pos hc] at hrl
          have HN : Hid (Tx.rlen s q 128 = (j + 1) + Tx.rlen s (q + (j + 1)) (128 - (j + 1))) := by show _ = _; omega
          have HS : Hid (Tx.caps s q (j + 1) = Tx.caps s q j ++ [Tx.cap (Tx.bt s p)]) := by show _ = _; rw [Tx.caps_snoc, ← hpq]
          have HL : Hid _ := Tx.caps_length s j q
          have HRB : Hid _ := hR
          have HO : Hid _ := hown
          have HOL : Hid _ := hownL
          have hj7 : j < 128 := by omega
          clear hR hrl hc hown hpq h8 hownL
          go_wp2_with (first
            | (go_at_call 63; refine (byteAt_any s g cp p _ HBR.out).mono ?_; rintro e w' ⟨rfl, hw⟩; subst w')
            | (go_at_call 66; refine (Capital_any _ _).mono ?_; rintro e w' ⟨rfl, hw⟩; subst w')
            | (at_builtin; refine app_byte2 rfl _ _ rfl w.heap.size _ (Tx.caps s q j) (Tx.cap (Tx.bt s p)) rfl rfl (by rw [HL.out]; exact HOL.out) hbel (by omega) (by rw [HL.out]; omega) ?_; intro v' w1 hown1 hbel1 hsz1 hkeep1))
          have hownO := own_keep HO.out HOL.out (by decide) hkeep1
          rw [← HS.out, Tx.caps_length] at hown1
          go_step3
          show FqJ s R w (.slice (some ⟨g, 0, none⟩) s.size cp) 2 _ w1 ∧ FqM s.size 2 _ w1 < n
          refine ⟨⟨hbel1, _, _, _, p + 1, _, out, ⟨rfl, rfl, rfl, rfl, rfl, rfl, (by show Value.int .i64 ((p : Int) + 1) = _; go_num), rfl⟩, by omega, ho, hownO, .inr (.inr (.inl ⟨rfl, f, name, q, j + 1, rfl, by have := HPQ.out; omega, by omega, hf, ho6, HN.out, hown1, HRB.out⟩))⟩, ?_⟩
          simp [FqM, intOf]
          omega
    · exfalso; omega
  · -- mark
    intro T2 n a wr hJ hm
    obtain ⟨hbel, v, nm, lt, p, first, out, F, hp, ho, hown, hJ⟩ := hJ
    rcases hJ with ⟨_, f, hf, hR⟩ | ⟨h, _⟩ | ⟨h, _⟩ | ⟨h, _⟩
    · have HT2 : Hid _ := T2 n
      clear T2
      have hmn : s.size + 1 - p + 1 ≤ n := by
        have h8 := F.s8
        simp only [FqM, h8, intOf] at hm
        simpa using hm
      obtain ⟨t, ha, hti⟩ := frame120 a F.sz F.df
      have e0 := (hti 0).trans F.s0
      have e5 := (hti 5).trans F.s5
      have e6 := (hti 6).trans F.s6
      have e7 := (hti 7).trans F.s7
      have e8 := (hti 8).trans F.s8
      have e9 := (hti 9).trans F.s9
      subst ha
      rw [e0, e5, e6, e7, e8, e9]
      clear F hti e0 e5 e6 e7 e8 e9 hm
      have HBR : Hid (Bs wr g s) := fun j h => (hbel.cell (p := ⟨g, j, none⟩) hg).trans (HB.out j h)
      have hsz := hbel.size
      obtain ⟨ao, cpo, hv⟩ := own_form hown
      subst hv
      have HO : Hid _ := hown
      clear hown
      by_cases hps : p < s.size
      · have hpe : ((p : Int) == (s.size : Int)) = false := by rw [beq_eq_false_iff_ne]; omega
        have hps' : (p : Int) < (s.size : Int) := by omega
        have hcell := HBR.out p hps
        by_cases h64 : Tx.bt s p = 64
        · have h64' := u8_64 ((Tx.bt_in hps).symm.trans h64)
          by_cases h256 : out.length = 256
          · have HRB : Hid _ := hR.trans (Tx.fq_many s f p out hps h64 h256)
            have h256' : ((out.length : Int) == 256) = true := by rw [beq_iff_eq]; omega
            clear hR h64 h256
            go_wp2
            rw [jumps_ret]
            go_ret3
            exact reads_bad HRB.out rfl hbel
          · have h256' : ((out.length : Int) == 256) = false := by rw [beq_eq_false_iff_ne]; omega
            have hen0 : p + 1 ≤ Tx.nEnd s (p + 1) := by unfold Tx.nEnd; omega
            have hen9 : Tx.nEnd s (p + 1) ≤ s.size := Tx.nlen_size s 32 (p + 1) (by omega)
            by_cases he : Tx.nEnd s (p + 1) = p + 1 ∨ Tx.bt s (Tx.nEnd s (p + 1)) ≠ 10
            · have HRB : Hid _ := hR.trans (Tx.fq_name s f p out hps h64 h256 he)
              have hcase : (((Tx.nEnd s (p + 1) : Nat) : Int) == (p : Int) + 1) = true ∨ ((((Tx.nEnd s (p + 1) : Nat) : Int) == (p : Int) + 1) = false ∧ (((Tx.bt s (Tx.nEnd s (p + 1))).toNat : Int) != 10) = true) := by
                by_cases h1 : Tx.nEnd s (p + 1) = p + 1
                · exact .inl (by rw [beq_iff_eq]; omega)
                · refine .inr ⟨by rw [beq_eq_false_iff_ne]; omega, u8_ne10 ?_⟩
                  rcases he with h | h
                  · exact absurd h h1
                  · exact h
              clear he hR h64 h256
              rcases hcase with h1 | ⟨h1, h2⟩
              all_goals
                go_wp2_with fail
                rw [show (p : Int) + 1 = ((p + 1 : Nat) : Int) from by omega]
                refine (nameEnd_any s g cp (p + 1) _ HBR.out hs (by omega)).mono ?_
                rintro e w' ⟨rfl, hw⟩
                subst w'
                rw [show ((p + 1 : Nat) : Int) = (p : Int) + 1 from by omega]
                go_wp2_with (go_at_call 63; refine (byteAt_any s g cp (Tx.nEnd s (p + 1)) _ HBR.out).mono ?_; rintro e w' ⟨rfl, hw⟩; subst w')
                go_step3
                show FqJ s R w (.slice (some ⟨g, 0, none⟩) s.size cp) 1 _ wr ∧ FqM s.size 1 _ wr < n
                refine ⟨⟨hbel, _, _, _, Tx.nEnd s (p + 1), _, out, ⟨rfl, rfl, rfl, rfl, rfl, rfl, rfl, rfl⟩, hen9, ho, HO.out, .inr (.inl ⟨rfl, HRB.out⟩)⟩, ?_⟩
                simp [FqM]
                omega
            · obtain ⟨hen1, _⟩ := Tx.nEnd_lt he
              have h10 : Tx.bt s (Tx.nEnd s (p + 1)) = 10 := by
                by_cases h : Tx.bt s (Tx.nEnd s (p + 1)) = 10
                · exact h
                · exact absurd (.inr h) he
              have hne1 : (((Tx.nEnd s (p + 1) : Nat) : Int) == (p : Int) + 1) = false := by
                rw [beq_eq_false_iff_ne]
                intro h
                exact he (.inl (by omega))
              have h10' := u8_is10 h10
              have hen2 : p + 1 < Tx.nEnd s (p + 1) := by
                rcases Nat.lt_or_ge (p + 1) (Tx.nEnd s (p + 1)) with h | h
                · exact h
                · exact absurd (.inl (by omega)) he
              have HRB : Hid _ := hR.trans (Tx.fq_go s f p out hps h64 h256 he)
              have hconv := piece_conv HBR.out (p + 1) (Tx.nEnd s (p + 1)) (cp - (p + 1)) (by omega) (by omega)
              clear hR h64 he h10
              generalize hnm : Tx.piece s (p + 1) (Tx.nEnd s (p + 1)) = nmm at *
              clear hnm
              go_wp2_with fail
              rw [show (p : Int) + 1 = ((p + 1 : Nat) : Int) from by omega]
              refine (nameEnd_any s g cp (p + 1) _ HBR.out hs (by omega)).mono ?_
              rintro e w' ⟨rfl, hw⟩
              subst w'
              rw [show ((p + 1 : Nat) : Int) = (p : Int) + 1 from by omega]
              go_wp2_with (go_at_call 63; refine (byteAt_any s g cp (Tx.nEnd s (p + 1)) _ HBR.out).mono ?_; rintro e w' ⟨rfl, hw⟩; subst w')
              go_step3
              simp only [Exit.then]
              apply_assumption
              refine HT2.out _ _ ?_ ?_
              · exact ⟨hbel, _, _, _, Tx.nEnd s (p + 1) + 1, _, out, ⟨rfl, rfl, rfl, rfl, rfl, rfl, (by show Value.int .i64 ((Tx.nEnd s (p + 1) : Int) + 1) = _; go_num), rfl⟩, by omega, ho, HO.out, .inr (.inr (.inl ⟨rfl, f, nmm, Tx.nEnd s (p + 1) + 1, 0, rfl, by omega, by omega, by omega, by omega, by simp, World.ownsRow_nil _ _ _ _, HRB.out⟩))⟩
              · simp [FqM, intOf]
                omega
        · have HRB : Hid _ := hR.trans (Tx.fq_stop s f p out hps h64)
          have h64' := u8_n64 (fun h => h64 ((Tx.bt_in hps).trans h))
          clear hR h64
          go_wp2
          go_step3
          show FqJ s R w (.slice (some ⟨g, 0, none⟩) s.size cp) 1 _ wr ∧ FqM s.size 1 _ wr < n
          refine ⟨⟨hbel, _, _, _, p, _, out, ⟨rfl, rfl, rfl, rfl, rfl, rfl, rfl, rfl⟩, by omega, ho, HO.out, .inr (.inl ⟨rfl, HRB.out⟩)⟩, ?_⟩
          simp [FqM]
          omega
      · have HRB : Hid _ := hR.trans (Tx.fq_end s f p out hps)
        have hpe : ((p : Int) == (s.size : Int)) = true := by rw [beq_iff_eq]; omega
        clear hR
        go_wp2
        rw [jumps_ret]
        go_ret3
        rw [HRB.out]
        exact ⟨_, rfl, HO.out, hbel, fun h => absurd rfl h⟩
    · exfalso; omega
    · exfalso; omega
    · exfalso; omega
  · -- the first pass
    intro T0
    have HT0 : Hid _ := T0
    clear T0
    go_wp2
    go_step3
    simp only [Exit.then]
    apply_assumption
    refine pass_first HT0.out ⟨Below.refl _ _, _, _, _, 0, _, [], ⟨rfl, rfl, rfl, rfl, rfl, rfl, rfl, rfl⟩, by omega, by simp, World.ownsRow_nil _ _ _ _, .inl ⟨rfl, s.size, by omega, HR.out⟩⟩

end Go.Proofs.YtjebhbopmfcopaaGreatDoor
