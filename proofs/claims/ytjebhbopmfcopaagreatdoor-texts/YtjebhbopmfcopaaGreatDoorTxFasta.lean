/-
  THE WALK of the program's Fasta: a machine of four labels (fault 0, mark 1, nextLine 2, inLine 3). Own text of the verifier.
-/
import Derived.Test.YtjebhbopmfcopaaGreatDoorTxRefFa
import Derived.Test.YtjebhbopmfcopaaGreatDoorScope
namespace Go.Proofs.YtjebhbopmfcopaaGreatDoor
open Go.RowKit

theorem frame93 (a : Act) (h : a.tmps.size = 93) (hd : a.defers = []) : ∃ t : Nat → Value, a = ⟨#[t 0, t 1, t 2, t 3, t 4, t 5, t 6, t 7, t 8, t 9, t 10, t 11, t 12, t 13, t 14, t 15, t 16, t 17, t 18, t 19, t 20, t 21, t 22, t 23, t 24, t 25, t 26, t 27, t 28, t 29, t 30, t 31, t 32, t 33, t 34, t 35, t 36, t 37, t 38, t 39, t 40, t 41, t 42, t 43, t 44, t 45, t 46, t 47, t 48, t 49, t 50, t 51, t 52, t 53, t 54, t 55, t 56, t 57, t 58, t 59, t 60, t 61, t 62, t 63, t 64, t 65, t 66, t 67, t 68, t 69, t 70, t 71, t 72, t 73, t 74, t 75, t 76, t 77, t 78, t 79, t 80, t 81, t 82, t 83, t 84, t 85, t 86, t 87, t 88, t 89, t 90, t 91, t 92], []⟩ ∧ ∀ i, t i = a.tmps.getD i undef :=
  ⟨fun i => a.tmps.getD i undef, frame_of a 93 h hd, fun _ => rfl⟩

/-- the frame's slots that matter -/
structure FaF (a : Act) (b v nm lt : Value) (p first total : Int) : Prop where
  sz : a.tmps.size = 93
  df : a.defers = []
  s0 : a.tmps.getD 0 undef = b
  s5 : a.tmps.getD 5 undef = v
  s6 : a.tmps.getD 6 undef = nm
  s7 : a.tmps.getD 7 undef = lt
  s8 : a.tmps.getD 8 undef = .int .i64 p
  s9 : a.tmps.getD 9 undef = .int .i64 first
  s10 : a.tmps.getD 10 undef = .int .i64 total

/-- what holds at each label -/
def FaJ (s : ByteArray) (R : Tx.Ans) (w : World) (b : Value) (l : Nat) (a : Act) (wr : World) : Prop :=
  Below w.heap.size w wr ∧ ∃ (v nm lt : Value) (p : Nat) (first : Int) (total : Nat) (out : List Pr), FaF a b v nm lt p first total ∧ p ≤ s.size ∧ total ≤ 4096 ∧ out.length ≤ 16 ∧
    wr.ownsRow w.heap.size 59 2 v out.length (Prs out) ∧
    ((l = 0 ∧ R = Tx.bad 2 p) ∨
     (l = 1 ∧ ∃ f, s.size ≤ f + p ∧ (p < s.size ∨ p = 0) ∧ R = Tx.head s f p out total) ∨
     (l = 2 ∧ ∃ f name letters, nm = .string ⟨name.toArray⟩ ∧ p < s.size ∧ s.size ≤ f + p ∧ out.length < 16 ∧ wr.ownsRow w.heap.size 5 1 lt letters.length (Bys letters) ∧ letters.length ≤ total ∧ R = Tx.faIn s f (p + 1) (p + 1) name letters out total) ∨
     (l = 3 ∧ ∃ f name letters fs, first = ((fs : Nat) : Int) ∧ fs ≤ p ∧ nm = .string ⟨name.toArray⟩ ∧ s.size + 1 ≤ f + p ∧ out.length < 16 ∧ wr.ownsRow w.heap.size 5 1 lt letters.length (Bys letters) ∧ letters.length ≤ total ∧ R = Tx.faIn s f p fs name letters out total))

def FaM (S l : Nat) (a : Act) (_ : World) : Nat :=
  if l = 0 then 0 else if l = 1 then 3 * (S + 1 - (intOf (a.tmps.getD 8 undef)).toNat) + 1 else if l = 2 then 3 * (S + 1 - (intOf (a.tmps.getD 8 undef)).toNat) + 2 else 3 * (S + 1 - (intOf (a.tmps.getD 8 undef)).toNat) + 3

theorem FaJ_lt (s : ByteArray) (R : Tx.Ans) (w : World) (b : Value) : ∀ l a wr, FaJ s R w b l a wr → l < 4 := by
  rintro l a wr ⟨_, v, nm, lt, p, first, total, out, _, _, _, _, _, h⟩
  rcases h with ⟨rfl, _⟩ | ⟨rfl, _⟩ | ⟨rfl, _⟩ | ⟨rfl, _⟩ <;> omega

/-- 'string(b[p:q])' -/
theorem piece_conv {w : World} {g : Nat} {s : ByteArray} (hb : Bs w g s) (p q cap : Nat) (hq : q ≤ s.size) (hpq : p ≤ q) :
    (convert 43 9 (.slice (some ⟨g, p, none⟩) (q - p) cap)).run Tryz.prog w = .ok (.string ⟨(Tx.piece s p q).toArray⟩) w := by
  have hl : (Tx.piece s p q).length = q - p := by
    have : s.data.size = s.size := rfl
    simp [Tx.piece]; omega
  have h := run_convert_bytes_back (P := Tryz.prog) w 43 9 5 ⟨g, p, none⟩ cap (Tx.piece s p q) Tryz.underlying43 Tryz.underlying5 Tryz.underlying9 (fun j hj => by
    rw [Addr.add_lit, hb (p + j) (by omega)]
    simp only [Tx.piece, List.getElem_take, List.getElem_drop]
    rfl)
  rw [hl] at h
  exact h

set_option maxRecDepth 100000 in
set_option maxHeartbeats 8000000 in
theorem fasta_any (s : ByteArray) (g cp : Nat) (w : World) (hs : s.size ≤ 140737488351232) (hb : Bs w g s) (hg : g < w.heap.size) (hcp : s.size ≤ cp) :
    Calls Tryz.prog 33 #[.slice (some ⟨g, 0, none⟩) s.size cp] w fun e w' => Reads w 59 (Tx.fasta s) e w' := by
  obtain ⟨R, hR⟩ : ∃ R, R = Tx.fasta s := ⟨_, rfl⟩
  rw [← hR]
  have HR : Hid _ := hR.trans (Tx.fasta_head s)
  have HB : Hid _ := hb
  clear hR hb
  go_enter Tryz.func33, Tryz.ntmps33
  go_wp2
  refine wp_four_a (FaJ s R w (.slice (some ⟨g, 0, none⟩) s.size cp)) (FaM s.size) (FaJ_lt _ _ _ _) rfl rfl rfl rfl ?_ ?_ ?_ ?_ ?_
  · -- fault
    intro n a wr hJ hm
    obtain ⟨hbel, v, nm, lt, p, first, total, out, F, hp, ht, ho, hown, hJ⟩ := hJ
    rcases hJ with ⟨_, hR⟩ | ⟨h, _⟩ | ⟨h, _⟩ | ⟨h, _⟩
    · obtain ⟨t, ha, hti⟩ := frame93 a F.sz F.df
      have e8 := (hti 8).trans F.s8
      subst ha
      rw [e8]
      clear F hti e8
      have HRB : Hid _ := hR
      clear hR
      go_wp2
      rw [jumps_ret]
      go_ret3
      exact reads_bad HRB.out rfl hbel
    all_goals (exfalso; omega)
  · -- inLine
    intro n a wr hJ hm
    obtain ⟨hbel, v, nm, lt, p, first, total, out, F, hp, ht, ho, hown, hJ⟩ := hJ
    rcases hJ with ⟨h, _⟩ | ⟨h, _⟩ | ⟨h, _⟩ | ⟨_, f, name, letters, fs, rfl, hfs, rfl, hf, ho16, hownL, hll, hR⟩
    · exfalso; omega
    · exfalso; omega
    · exfalso; omega
    · have hmn : 3 * (s.size + 1 - p) + 3 ≤ n := by
        have h8 := F.s8
        simp only [FaM, h8, intOf] at hm
        simpa using hm
      obtain ⟨t, ha, hti⟩ := frame93 a F.sz F.df
      have e0 := (hti 0).trans F.s0
      have e5 := (hti 5).trans F.s5
      have e6 := (hti 6).trans F.s6
      have e7 := (hti 7).trans F.s7
      have e8 := (hti 8).trans F.s8
      have e9 := (hti 9).trans F.s9
      have e10 := (hti 10).trans F.s10
      subst ha
      rw [e0, e5, e6, e7, e8, e9, e10]
      clear F hti e0 e5 e6 e7 e8 e9 e10 hm
      have HBR : Hid (Bs wr g s) := fun j h => (hbel.cell (p := ⟨g, j, none⟩) hg).trans (HB.out j h)
      have hsz := hbel.size
      obtain ⟨ao, cpo, hv⟩ := own_form hown
      subst hv
      obtain ⟨la, lcap, hl⟩ := own_form hownL
      subst hl
      obtain ⟨f, rfl⟩ : ∃ f', f = f' + 1 := ⟨f - 1, by omega⟩
      rw [Tx.faIn] at hR
      by_cases hc : Tx.cap (Tx.bt s p) = 0
      · rw [if_neg (by simp [hc])] at hR
        have hne := u8_is0 hc
        clear hc
        by_cases hnl : Tx.bt s p = 10 ∧ fs < p
        · rw [if_pos hnl] at hR
          obtain ⟨h10, hlt⟩ := hnl
          have hps : p < s.size := Tx.bt_lt (by rw [h10]; decide)
          have h10' : (((Tx.bt s p).toNat : Int) == 10) = true := by rw [h10]; rfl
          have HRB : Hid _ := hR
          have HO : Hid _ := hown
          have HOL : Hid _ := hownL
          clear hR h10 hown hownL
          go_wp2_with (first
            | (go_at_call 63; refine (byteAt_any s g cp p _ HBR.out).mono ?_; rintro e w' ⟨rfl, hw⟩; subst w')
            | (go_at_call 66; refine (Capital_any _ _).mono ?_; rintro e w' ⟨rfl, hw⟩; subst w'))
          go_step3
          show FaJ s R w (.slice (some ⟨g, 0, none⟩) s.size cp) 2 _ wr ∧ FaM s.size 2 _ wr < n
          refine ⟨⟨hbel, _, _, _, p, _, total, out, ⟨rfl, rfl, rfl, rfl, rfl, rfl, rfl, rfl, rfl⟩, by omega, by omega, ho, HO.out, .inr (.inr (.inl ⟨rfl, f, name, letters, rfl, hps, by omega, ho16, HOL.out, hll, HRB.out⟩))⟩, ?_⟩
          simp [FaM, intOf]
          omega
        · rw [if_neg hnl] at hR
          have hcase : ((((Tx.bt s p).toNat : Int) == 10) = true ∧ p ≤ fs) ∨ (((Tx.bt s p).toNat : Int) == 10) = false := by
            by_cases h10 : Tx.bt s p = 10
            · exact .inl ⟨by rw [h10]; rfl, Nat.le_of_not_lt (fun h => hnl ⟨h10, h⟩)⟩
            · right
              rw [beq_eq_false_iff_ne]
              intro h
              exact h10 ((Lt.toNat_inj (n := 10) (by omega)).1 (by omega))
          by_cases hbad : fs < p ∨ letters = []
          · rw [if_pos hbad] at hR
            have HRB : Hid _ := hR
            have HO : Hid _ := hown
            have hcase2 : fs < p ∨ (¬ fs < p ∧ letters.length = 0) := by
              by_cases h : fs < p
              · exact .inl h
              · rcases hbad with h' | h'
                · exact absurd h' h
                · exact .inr ⟨h, by rw [h']; rfl⟩
            clear hR hown hownL hbad hnl
            rcases hcase with ⟨h10, h11⟩ | h10
            all_goals
              rcases hcase2 with h12 | ⟨h12, h13⟩
              all_goals
                first
                  | (exfalso; omega)
                  | (go_wp2_with (first
                      | (go_at_call 63; refine (byteAt_any s g cp p _ HBR.out).mono ?_; rintro e w' ⟨rfl, hw⟩; subst w')
                      | (go_at_call 66; refine (Capital_any _ _).mono ?_; rintro e w' ⟨rfl, hw⟩; subst w'))
                     go_step3
                     show FaJ s R w (.slice (some ⟨g, 0, none⟩) s.size cp) 0 _ wr ∧ FaM s.size 0 _ wr < n
                     refine ⟨⟨hbel, _, _, _, p, _, total, out, ⟨rfl, rfl, rfl, rfl, rfl, rfl, rfl, rfl, rfl⟩, by omega, by omega, ho, HO.out, .inl ⟨rfl, HRB.out⟩⟩, ?_⟩
                     simp [FaM]
                     omega)
          · rw [if_neg hbad] at hR
            have hfp : ¬ fs < p := fun h => hbad (.inl h)
            have hln : letters ≠ [] := fun h => hbad (.inr h)
            have hl0 : ((letters.length : Int) == 0) = false := by
              rw [beq_eq_false_iff_ne]
              cases letters with
              | nil => exact absurd rfl hln
              | cons x r => simp; omega
            have hback := back_own hownL
            by_cases hps : p < s.size
            · rw [if_pos hps] at hR
              have HRB : Hid (R = Tx.head s f p (out ++ [(name, letters)]) total) := by rw [Tx.head, if_pos (.inl hps)]; exact hR
              have hps' : (p : Int) < (s.size : Int) := by omega
              have HOL : Hid _ := hownL
              clear hR hownL hbad hnl hln
              rcases hcase with ⟨h10, h11⟩ | h10
              all_goals
                go_wp2_with (first
                  | (go_at_call 63; refine (byteAt_any s g cp p _ HBR.out).mono ?_; rintro e w' ⟨rfl, hw⟩; subst w')
                  | (go_at_call 66; refine (Capital_any _ _).mono ?_; rintro e w' ⟨rfl, hw⟩; subst w')
                  | (at_builtin; refine app_pair rfl _ _ 29 rfl w.heap.size 59 Tryz.underlying29 Tryz.infoContig _ out _ _ (name, letters) rfl rfl rfl rfl (by exact hown) hbel (by omega) (by omega) ?_; intro v' w1 hown1 hbel1 hsz1))
                go_step3
                show FaJ s R w (.slice (some ⟨g, 0, none⟩) s.size cp) 1 _ w1 ∧ FaM s.size 1 _ w1 < n
                refine ⟨⟨hbel1, _, _, _, p, _, total, out ++ [(name, letters)], ⟨rfl, rfl, rfl, rfl, rfl, rfl, rfl, rfl, rfl⟩, by omega, by omega, by simp; omega, hown1, .inr (.inl ⟨rfl, f, by omega, .inl hps, HRB.out⟩)⟩, ?_⟩
                simp [FaM, intOf]
                omega
            · rw [if_neg hps] at hR
              have HRB : Hid _ := hR
              have hps' : ¬ (p : Int) < (s.size : Int) := by omega
              clear hR hownL hbad hnl hln
              rcases hcase with ⟨h10, h11⟩ | h10
              all_goals
                go_wp2_with (first
                  | (go_at_call 63; refine (byteAt_any s g cp p _ HBR.out).mono ?_; rintro e w' ⟨rfl, hw⟩; subst w')
                  | (go_at_call 66; refine (Capital_any _ _).mono ?_; rintro e w' ⟨rfl, hw⟩; subst w')
                  | (at_builtin; refine app_pair rfl _ _ 29 rfl w.heap.size 59 Tryz.underlying29 Tryz.infoContig _ out _ _ (name, letters) rfl rfl rfl rfl (by exact hown) hbel (by omega) (by omega) ?_; intro v' w1 hown1 hbel1 hsz1))
                rw [jumps_ret]
                go_ret3
                rw [HRB.out]
                exact ⟨_, rfl, hown1, hbel1, fun h => absurd rfl h⟩
      · rw [if_pos hc] at hR
        have hne := u8_ne0 hc
        have hps : p < s.size := Tx.bt_lt (fun h => hc (by rw [h]; exact Tx.cap_zero))
        clear hc
        by_cases ht4 : total = 4096
        · rw [if_pos ht4] at hR
          have HRB : Hid _ := hR
          have ht4' : ((total : Int) == 4096) = true := by rw [beq_iff_eq]; omega
          clear hR ht4 hown hownL
          go_wp2_with (first
            | (go_at_call 63; refine (byteAt_any s g cp p _ HBR.out).mono ?_; rintro e w' ⟨rfl, hw⟩; subst w')
            | (go_at_call 66; refine (Capital_any _ _).mono ?_; rintro e w' ⟨rfl, hw⟩; subst w'))
          rw [jumps_ret]
          go_ret3
          exact reads_bad HRB.out rfl hbel
        · rw [if_neg ht4] at hR
          have HRB : Hid _ := hR
          have ht4' : ((total : Int) == 4096) = false := by rw [beq_eq_false_iff_ne]; omega
          have HO : Hid _ := hown
          have ht5 : total < 4096 := by omega
          clear hR ht4 hown
          go_wp2_with (first
            | (go_at_call 63; refine (byteAt_any s g cp p _ HBR.out).mono ?_; rintro e w' ⟨rfl, hw⟩; subst w')
            | (go_at_call 66; refine (Capital_any _ _).mono ?_; rintro e w' ⟨rfl, hw⟩; subst w')
            | (at_builtin; refine app_byte2 rfl _ _ rfl w.heap.size _ letters (Tx.cap (Tx.bt s p)) rfl rfl (by exact hownL) hbel (by omega) (by omega) ?_; intro v' w1 hown1 hbel1 hsz1 hkeep1))
          have hownO := own_keep HO.out hownL (by decide) hkeep1
          go_step3
          show FaJ s R w (.slice (some ⟨g, 0, none⟩) s.size cp) 3 _ w1 ∧ FaM s.size 3 _ w1 < n
          refine ⟨⟨hbel1, _, _, _, p + 1, _, total + 1, out, ⟨rfl, rfl, rfl, rfl, rfl, rfl, (by show Value.int .i64 ((p : Int) + 1) = _; go_num), rfl, (by show Value.int .i64 ((total : Int) + 1) = _; go_num)⟩, by omega, by omega, ho, hownO, .inr (.inr (.inr ⟨rfl, f, name, letters ++ [Tx.cap (Tx.bt s p)], fs, rfl, by omega, rfl, by omega, ho16, hown1, by simp; omega, HRB.out⟩))⟩, ?_⟩
          simp [FaM, intOf]
          omega
  · -- nextLine
    intro T3 n a wr hJ hm
    obtain ⟨hbel, v, nm, lt, p, first, total, out, F, hp, ht, ho, hown, hJ⟩ := hJ
    rcases hJ with ⟨h, _⟩ | ⟨h, _⟩ | ⟨_, f, name, letters, rfl, hps, hf, ho16, hownL, hll, hR⟩ | ⟨h, _⟩
    · exfalso; omega
    · exfalso; omega
    · have hmn : 3 * (s.size + 1 - p) + 2 ≤ n := by
        have h8 := F.s8
        simp only [FaM, h8, intOf] at hm
        simpa using hm
      have HT3 : Hid _ := T3 n
      clear T3
      obtain ⟨t, ha, hti⟩ := frame93 a F.sz F.df
      have e0 := (hti 0).trans F.s0
      have e5 := (hti 5).trans F.s5
      have e6 := (hti 6).trans F.s6
      have e7 := (hti 7).trans F.s7
      have e8 := (hti 8).trans F.s8
      have e9 := (hti 9).trans F.s9
      have e10 := (hti 10).trans F.s10
      subst ha
      rw [e0, e5, e6, e7, e8, e9, e10]
      clear F hti e0 e5 e6 e7 e8 e9 e10 hm
      have HRB : Hid _ := hR
      have HO : Hid _ := hown
      have HOL : Hid _ := hownL
      clear hR hown hownL
      go_wp2
      go_step3
      simp only [Exit.then]
      apply_assumption
      refine HT3.out _ _ ?_ ?_
      · exact ⟨hbel, _, _, _, p + 1, _, total, out, ⟨rfl, rfl, rfl, rfl, rfl, rfl, (by show Value.int .i64 ((p : Int) + 1) = _; go_num), rfl, rfl⟩, by omega, ht, ho, HO.out, .inr (.inr (.inr ⟨rfl, f, name, letters, p + 1, by omega, by omega, rfl, by omega, ho16, HOL.out, hll, HRB.out⟩))⟩
      · simp [FaM, intOf]
        omega
    · exfalso; omega
  · -- mark
    intro T2 n a wr hJ hm
    obtain ⟨hbel, v, nm, lt, p, first, total, out, F, hp, ht, ho, hown, hJ⟩ := hJ
    rcases hJ with ⟨h, _⟩ | ⟨_, f, hf, hp0, hR⟩ | ⟨h, _⟩ | ⟨h, _⟩
    · exfalso; omega
    · have hmn : 3 * (s.size + 1 - p) + 1 ≤ n := by
        have h8 := F.s8
        simp only [FaM, h8, intOf] at hm
        simpa using hm
      have HT2 : Hid _ := T2 n
      clear T2
      obtain ⟨t, ha, hti⟩ := frame93 a F.sz F.df
      have e0 := (hti 0).trans F.s0
      have e5 := (hti 5).trans F.s5
      have e6 := (hti 6).trans F.s6
      have e7 := (hti 7).trans F.s7
      have e8 := (hti 8).trans F.s8
      have e9 := (hti 9).trans F.s9
      have e10 := (hti 10).trans F.s10
      subst ha
      rw [e0, e5, e6, e7, e8, e9, e10]
      clear F hti e0 e5 e6 e7 e8 e9 e10 hm
      have HBR : Hid (Bs wr g s) := fun j h => (hbel.cell (p := ⟨g, j, none⟩) hg).trans (HB.out j h)
      have hsz := hbel.size
      obtain ⟨ao, cpo, hv⟩ := own_form hown
      subst hv
      have HO : Hid _ := hown
      clear hown
      by_cases h62 : Tx.bt s p = 62
      · have hps : p < s.size := Tx.bt_lt (by rw [h62]; decide)
        have h62' := u8_62 h62
        by_cases h16 : out.length = 16
        · have HRB : Hid _ := hR.trans (Tx.mark_many s f p out total hp0 h62 h16)
          have h16' : ((out.length : Int) == 16) = true := by rw [beq_iff_eq]; omega
          clear hR h62 h16
          go_wp2_with (go_at_call 63; refine (byteAt_any s g cp p _ HBR.out).mono ?_; rintro e w' ⟨rfl, hw⟩; subst w')
          rw [jumps_ret]
          go_ret3
          exact reads_bad HRB.out rfl hbel
        · have h16' : ((out.length : Int) == 16) = false := by rw [beq_eq_false_iff_ne]; omega
          have hen0 : p + 1 ≤ Tx.nEnd s (p + 1) := by unfold Tx.nEnd; omega
          have hen9 : Tx.nEnd s (p + 1) ≤ s.size := Tx.nlen_size s 32 (p + 1) (by omega)
          by_cases he : Tx.nEnd s (p + 1) = p + 1 ∨ Tx.bt s (Tx.nEnd s (p + 1)) ≠ 10
          · have HRB : Hid _ := hR.trans (Tx.mark_name s f p out total hp0 h62 h16 he)
            clear hR h62 h16
            have hcase : (((Tx.nEnd s (p + 1) : Nat) : Int) == (p : Int) + 1) = true ∨ ((((Tx.nEnd s (p + 1) : Nat) : Int) == (p : Int) + 1) = false ∧ (((Tx.bt s (Tx.nEnd s (p + 1))).toNat : Int) != 10) = true) := by
              by_cases h1 : Tx.nEnd s (p + 1) = p + 1
              · exact .inl (by rw [beq_iff_eq]; omega)
              · refine .inr ⟨by rw [beq_eq_false_iff_ne]; omega, u8_ne10 ?_⟩
                rcases he with h | h
                · exact absurd h h1
                · exact h
            clear he
            rcases hcase with h1 | ⟨h1, h2⟩
            all_goals
              go_wp2_with fail
              refine (byteAt_any s g cp p _ HBR.out).mono ?_
              rintro e w' ⟨rfl, hw⟩
              subst w'
              go_wp2_with fail
              rw [show (p : Int) + 1 = ((p + 1 : Nat) : Int) from by omega]
              refine (nameEnd_any s g cp (p + 1) _ HBR.out hs (by omega)).mono ?_
              rintro e w' ⟨rfl, hw⟩
              subst w'
              rw [show ((p + 1 : Nat) : Int) = (p : Int) + 1 from by omega]
              go_wp2_with (go_at_call 63; refine (byteAt_any s g cp (Tx.nEnd s (p + 1)) _ HBR.out).mono ?_; rintro e w' ⟨rfl, hw⟩; subst w')
              go_step3
              show FaJ s R w (.slice (some ⟨g, 0, none⟩) s.size cp) 0 _ wr ∧ FaM s.size 0 _ wr < n
              refine ⟨⟨hbel, _, _, _, Tx.nEnd s (p + 1), _, total, out, ⟨rfl, rfl, rfl, rfl, rfl, rfl, rfl, rfl, rfl⟩, hen9, by omega, ho, HO.out, .inl ⟨rfl, HRB.out⟩⟩, ?_⟩
              simp [FaM]
              omega
          · obtain ⟨hen1, _⟩ := Tx.nEnd_lt he
            have h10 : Tx.bt s (Tx.nEnd s (p + 1)) = 10 := by
              by_cases h : Tx.bt s (Tx.nEnd s (p + 1)) = 10
              · exact h
              · exact absurd (.inr h) he
            have hne1 : (((Tx.nEnd s (p + 1) : Nat) : Int) == (p : Int) + 1) = false := by
              rw [beq_eq_false_iff_ne]
              intro h
              exact he (.inl (by omega))
            have h10' := u8_is10 h10
            have hen2 : p + 1 < Tx.nEnd s (p + 1) := by
              rcases Nat.lt_or_ge (p + 1) (Tx.nEnd s (p + 1)) with h | h
              · exact h
              · exact absurd (.inl (by omega)) he
            have HG : Hid (out.any (fun x => x.1 == Tx.piece s (p + 1) (Tx.nEnd s (p + 1))) = false → R = Tx.faIn s f (Tx.nEnd s (p + 1) + 1) (Tx.nEnd s (p + 1) + 1) (Tx.piece s (p + 1) (Tx.nEnd s (p + 1))) [] out total) := fun ht => hR.trans (Tx.mark_go s f p out total hp0 h62 h16 he ht)
            have HT : Hid (out.any (fun x => x.1 == Tx.piece s (p + 1) (Tx.nEnd s (p + 1))) = true → R = Tx.bad 3 (p + 1)) := fun ht => hR.trans (Tx.mark_twice s f p out total hp0 h62 h16 he ht)
            have hconv := piece_conv HBR.out (p + 1) (Tx.nEnd s (p + 1)) (cp - (p + 1)) (by omega) (by omega)
            clear hR h62 he h10
            generalize hnm : Tx.piece s (p + 1) (Tx.nEnd s (p + 1)) = nmm at *
            clear hnm
            go_wp2_with fail
            refine (byteAt_any s g cp p _ HBR.out).mono ?_
            rintro e w' ⟨rfl, hw⟩
            subst w'
            go_wp2_with fail
            rw [show (p : Int) + 1 = ((p + 1 : Nat) : Int) from by omega]
            refine (nameEnd_any s g cp (p + 1) _ HBR.out hs (by omega)).mono ?_
            rintro e w' ⟨rfl, hw⟩
            subst w'
            rw [show ((p + 1 : Nat) : Int) = (p : Int) + 1 from by omega]
            go_wp2_with (go_at_call 63; refine (byteAt_any s g cp (Tx.nEnd s (p + 1)) _ HBR.out).mono ?_; rintro e w' ⟨rfl, hw⟩; subst w')
            refine (hasName_any _ w.heap.size out.length _ out nmm rfl (by omega) HO.out).mono ?_
            rintro e w2 ⟨rfl, hb2⟩
            have hb02 := hbel.trans (hb2.mono hsz)
            have hO2 := own_below HO.out hb2
            cases hN : hasN out nmm with
            | true =>
              have HRB : Hid _ := HT.out hN
              clear HT HG hN
              go_wp2
              rw [jumps_ret]
              go_ret3
              exact reads_bad HRB.out (by omega) hb02
            | false =>
              have HRB : Hid _ := HG.out hN
              clear HT HG hN
              go_wp2
              go_step3
              simp only [Exit.then]
              apply_assumption
              refine HT2.out _ _ ?_ ?_
              · exact ⟨hb02, _, _, _, Tx.nEnd s (p + 1), _, total, out, ⟨rfl, rfl, rfl, rfl, rfl, rfl, rfl, rfl, rfl⟩, by omega, ht, ho, hO2, .inr (.inr (.inl ⟨rfl, f, nmm, [], rfl, hen1, by omega, by omega, World.ownsRow_nil _ _ _ _, by simp, HRB.out⟩))⟩
              · simp [FaM, intOf]
                omega
      · have HRB : Hid _ := hR.trans (Tx.mark_stop s f p out total hp0 h62)
        have h62' := u8_n62 h62
        clear hR h62
        go_wp2_with (go_at_call 63; refine (byteAt_any s g cp p _ HBR.out).mono ?_; rintro e w' ⟨rfl, hw⟩; subst w')
        go_step3
        show FaJ s R w (.slice (some ⟨g, 0, none⟩) s.size cp) 0 _ wr ∧ FaM s.size 0 _ wr < n
        refine ⟨⟨hbel, _, _, _, p, _, total, out, ⟨rfl, rfl, rfl, rfl, rfl, rfl, rfl, rfl, rfl⟩, by omega, by omega, ho, HO.out, .inl ⟨rfl, HRB.out⟩⟩, ?_⟩
        simp [FaM]
        omega
    · exfalso; omega
    · exfalso; omega
  · -- the first pass
    intro T1
    have HT1 : Hid _ := T1
    clear T1
    go_wp2
    go_step3
    simp only [Exit.then]
    apply_assumption
    refine pass_first HT1.out ⟨Below.refl _ _, _, _, _, 0, _, 0, [], ⟨rfl, rfl, rfl, rfl, rfl, rfl, rfl, rfl, rfl⟩, by omega, by omega, by simp, World.ownsRow_nil _ _ _ _, .inr (.inl ⟨rfl, s.size + 1, by omega, .inr rfl, HR.out⟩)⟩

end Go.Proofs.YtjebhbopmfcopaaGreatDoor
