/-
  PLAIN MATHEMATICS of Fastq: what it answers, a read at a time. No program is named here. Own text of the verifier.
  THE WALK of the document's own Fastq. Own text of the verifier.
  THE DOCUMENT'S Parse, its small walks: the fields of a line, a number. Own text of the verifier.
  THE DOCUMENT'S Parse: a number of digits. Own text of the verifier.
-/
import Derived.Test.YtfcbgfomhmcikaaGreatDoorBun3
import Derived.Deep.QuietTactic
import Derived.BigQuiet
import Derived.Test.YtfcbgfomhmcikaaGreatDoorXLnRender
namespace Go.Proofs.YtfcbgfomhmcikaaGreatDoor.Tx

/-- how many qualities stand from a place on, at most so many -/
def qlen (s : ByteArray) : Nat → Nat → Nat
  | _, 0 => 0
  | p, f + 1 => if ql (bt s p) then qlen s (p + 1) f + 1 else 0

theorem qlen_le (s : ByteArray) : ∀ (f p : Nat), qlen s p f ≤ f := by
  intro f
  induction f with
  | zero => intro p; simp [qlen]
  | succ f ih => intro p; unfold qlen; split
                 · have := ih (p + 1); omega
                 · omega

/-- a read's last line -/
def fqQual (s : ByteArray) (j c : Nat) (k : Nat → Ans) : Ans :=
  if qlen s j c < c ∨ bt s (j + qlen s j c) ≠ 10 then bad 6 (j + qlen s j c) else k (j + c + 1)

/-- the line of the plus, from the end of the letters' line on -/
def fqPlus (s : ByteArray) (i : Nat) (k : Nat → Ans) : Ans :=
  if bt s i ≠ 10 then bad 5 i else if bt s (i + 1) ≠ 43 then bad 5 (i + 1) else if bt s (i + 2) ≠ 10 then bad 5 (i + 2) else k (i + 3)

/-- a read's lines behind its name -/
def fqTail (s : ByteArray) (q : Nat) (k : Nat → List UInt8 → Ans) : Ans :=
  if rlen s q 128 = 0 ∨ bt s (q + rlen s q 128) ≠ 10 then bad (wr s (q + rlen s q 128) 5 7) (q + rlen s q 128)
  else fqPlus s (q + rlen s q 128) (fun j => fqQual s j (rlen s q 128) (fun p => k p (caps s q (rlen s q 128))))

def fq (s : ByteArray) : Nat → Nat → List (List UInt8 × List UInt8) → Ans
  | 0, _, _ => bad 0 0
  | f + 1, p, out =>
    if ¬ p < s.size then ⟨out, 0, 0⟩
    else if bt s p ≠ 64 then bad 5 p
    else if out.length = 256 then bad 4 p
    else if nEnd s (p + 1) = p + 1 ∨ bt s (nEnd s (p + 1)) ≠ 10 then bad 5 (nEnd s (p + 1))
    else fqTail s (nEnd s (p + 1) + 1) (fun q x => fq s f q (out ++ [(piece s (p + 1) (nEnd s (p + 1)), x)]))

def fastq (s : ByteArray) : Ans := fq s (s.size + 1) 0 []

theorem tail_bad (s : ByteArray) (q : Nat) (k : Nat → List UInt8 → Ans) (h : rlen s q 128 = 0 ∨ bt s (q + rlen s q 128) ≠ 10) : fqTail s q k = bad (wr s (q + rlen s q 128) 5 7) (q + rlen s q 128) := by
  rw [fqTail, if_pos h]
theorem tail_good (s : ByteArray) (q : Nat) (k : Nat → List UInt8 → Ans) (h : ¬ (rlen s q 128 = 0 ∨ bt s (q + rlen s q 128) ≠ 10)) :
    fqTail s q k = fqPlus s (q + rlen s q 128) (fun j => fqQual s j (rlen s q 128) (fun p => k p (caps s q (rlen s q 128)))) ∧ bt s (q + rlen s q 128) = 10 ∧ 0 < rlen s q 128 ∧ q + rlen s q 128 < s.size := by
  have h10 : bt s (q + rlen s q 128) = 10 := by
    by_cases h1 : bt s (q + rlen s q 128) = 10
    · exact h1
    · exact absurd (.inr h1) h
  refine ⟨by rw [fqTail, if_neg h], h10, ?_, bt_lt (by rw [h10]; decide)⟩
  rcases Nat.eq_zero_or_pos (rlen s q 128) with h0 | h0
  · exact absurd (.inl h0) h
  · exact h0

/-- the letters' line as the program reads it: the letters are at their end at i = q + c -/
theorem tail_end (s : ByteArray) (q c : Nat) (k : Nat → List UInt8 → Ans) (hc : rlen s q 128 = c) (h0 : cap (bt s (q + c)) = 0) (hpos : 0 < c) : fqTail s q k = fqPlus s (q + c) (fun j => fqQual s j c (fun p => k p (caps s q c))) := by
  subst hc
  by_cases h : bt s (q + rlen s q 128) = 10
  · rw [fqTail, if_neg (by simp [h]; omega)]
  · rw [fqTail, if_pos (.inr h), fqPlus, if_pos h, wr, if_neg (by simp [h0])]
theorem tail_none (s : ByteArray) (q : Nat) (k : Nat → List UInt8 → Ans) (hc : rlen s q 128 = 0) (h0 : cap (bt s q) = 0) : fqTail s q k = bad 5 q := by
  rw [tail_bad s q k (.inl hc), hc, wr, Nat.add_zero, if_neg (by simp [h0])]
theorem tail_long (s : ByteArray) (q : Nat) (k : Nat → List UInt8 → Ans) (hc : rlen s q 128 = 128) (h0 : cap (bt s (q + 128)) ≠ 0) : fqTail s q k = bad 7 (q + 128) := by
  have h10 : bt s (q + 128) ≠ 10 := fun h => h0 (by rw [h]; exact cap_10)
  rw [tail_bad s q k (.inr (by rw [hc]; exact h10)), hc, wr, if_pos h0]

theorem plus_bad0 (s : ByteArray) (i : Nat) (k : Nat → Ans) (h : bt s i ≠ 10) : fqPlus s i k = bad 5 i := by rw [fqPlus, if_pos h]
theorem plus_bad1 (s : ByteArray) (i : Nat) (k : Nat → Ans) (h : bt s i = 10) (h1 : bt s (i + 1) ≠ 43) : fqPlus s i k = bad 5 (i + 1) := by rw [fqPlus, if_neg (by simp [h]), if_pos h1]
theorem plus_bad2 (s : ByteArray) (i : Nat) (k : Nat → Ans) (h : bt s i = 10) (h1 : bt s (i + 1) = 43) (h2 : bt s (i + 2) ≠ 10) : fqPlus s i k = bad 5 (i + 2) := by rw [fqPlus, if_neg (by simp [h]), if_neg (by simp [h1]), if_pos h2]
theorem plus_good (s : ByteArray) (i : Nat) (k : Nat → Ans) (h : bt s i = 10) (h1 : bt s (i + 1) = 43) (h2 : bt s (i + 2) = 10) : fqPlus s i k = k (i + 3) := by rw [fqPlus, if_neg (by simp [h]), if_neg (by simp [h1]), if_neg (by simp [h2])]

theorem qlen_step (s : ByteArray) (p m j : Nat) (hj : j < m) : qlen s (p + j) (m - j) = if ql (bt s (p + j)) then qlen s (p + (j + 1)) (m - (j + 1)) + 1 else 0 := by
  obtain ⟨f, hf⟩ : ∃ f, m - j = f + 1 := ⟨m - j - 1, by omega⟩
  rw [hf, qlen, show m - (j + 1) = f by omega, show p + (j + 1) = p + j + 1 by omega]

theorem fq_end (s : ByteArray) (f p : Nat) (out : List (List UInt8 × List UInt8)) (h : ¬ p < s.size) : fq s (f + 1) p out = ⟨out, 0, 0⟩ := by rw [fq, if_pos h]
theorem fq_stop (s : ByteArray) (f p : Nat) (out : List (List UInt8 × List UInt8)) (h : p < s.size) (hb : bt s p ≠ 64) : fq s (f + 1) p out = bad 5 p := by rw [fq, if_neg (by omega), if_pos hb]
theorem fq_many (s : ByteArray) (f p : Nat) (out : List (List UInt8 × List UInt8)) (h : p < s.size) (hb : bt s p = 64) (hn : out.length = 256) : fq s (f + 1) p out = bad 4 p := by rw [fq, if_neg (by omega), if_neg (by simp [hb]), if_pos hn]
theorem fq_name (s : ByteArray) (f p : Nat) (out : List (List UInt8 × List UInt8)) (h : p < s.size) (hb : bt s p = 64) (hn : out.length ≠ 256) (he : nEnd s (p + 1) = p + 1 ∨ bt s (nEnd s (p + 1)) ≠ 10) : fq s (f + 1) p out = bad 5 (nEnd s (p + 1)) := by rw [fq, if_neg (by omega), if_neg (by simp [hb]), if_neg hn, if_pos he]
theorem fq_go (s : ByteArray) (f p : Nat) (out : List (List UInt8 × List UInt8)) (h : p < s.size) (hb : bt s p = 64) (hn : out.length ≠ 256) (he : ¬ (nEnd s (p + 1) = p + 1 ∨ bt s (nEnd s (p + 1)) ≠ 10)) :
    fq s (f + 1) p out = fqTail s (nEnd s (p + 1) + 1) (fun q x => fq s f q (out ++ [(piece s (p + 1) (nEnd s (p + 1)), x)])) := by rw [fq, if_neg (by omega), if_neg (by simp [hb]), if_neg hn, if_neg he]

end Go.Proofs.YtfcbgfomhmcikaaGreatDoor.Tx

namespace Go.Proofs.YtfcbgfomhmcikaaGreatDoor
open Go.RowKit

theorem u8_64 {c : UInt8} (h : c = 64) : ((c.toNat : Int) != 64) = false := by rw [h]; rfl
theorem u8_n64 {c : UInt8} (h : c ≠ 64) : ((c.toNat : Int) != 64) = true := (u8_cmp 64 (by omega)).2 h
theorem u8_43 {c : UInt8} (h : c = 43) : ((c.toNat : Int) != 43) = false := by rw [h]; rfl
theorem u8_n43 {c : UInt8} (h : c ≠ 43) : ((c.toNat : Int) != 43) = true := (u8_cmp 43 (by omega)).2 h

theorem ix_str (s : ByteArray) (k : Nat) (h : k < s.size) (x : Int) (hx : x = (k : Int)) (wy : World) : (Instr.index 9 (.string s) (.int .i64 x)).run Tryz.prog wy = .ok (.int .u8 (s[k].toNat : Int)) wy := by
  subst hx
  have h0 : (0 : Int) ≤ (k : Int) := by omega
  have h1 : (k : Int) < (s.size : Int) := by omega
  go_simp

theorem wrap_small (x : Int) (h0 : 0 ≤ x) (h1 : x ≤ 1000000000000000) : IntKind.i64.wrap x = x := by
  simp [IntKind.wrap, IntKind.bits, IntKind.signed]
  omega

set_option maxRecDepth 100000 in
set_option maxHeartbeats 8000000 in
theorem refFastq_any (s : ByteArray) (w : World) (hs : s.size ≤ 140737488351232) :
    Calls Tryz.prog 33 #[.string s] w fun e w' => Reads w 63 (Tx.fastq s) e w' := by
  obtain ⟨R, hR⟩ : ∃ R, R = Tx.fastq s := ⟨_, rfl⟩
  rw [← hR]
  have HR : Hid _ := hR
  clear hR
  go_enter Tryz.func33, Tryz.ntmps33
  go_wp2
  go_loopw [5, 6] (fun v at_ wr => ∃ (out : List Pr) (p f : Nat), at_ = .int .i64 (p : Int) ∧ out.length ≤ 256 ∧ p ≤ s.size ∧ s.size ≤ f + p ∧ Hid (R = Tx.fq s (f + 1) p out) ∧ wr.ownsRow w.heap.size 63 2 v out.length (Prs out) ∧ Below w.heap.size w wr)
    (fun _ at_ _ => s.size - (intOf at_).toNat)
  case atStart => exact ⟨[], 0, s.size, rfl, by simp, by omega, by omega, HR, World.ownsRow_nil _ _ _ _, Below.refl _ _⟩
  case round =>
    clear HR
    obtain ⟨out, p, f, rfl, hol, hps, hfp, HR, hown, hbel⟩ := hrel
    have hsz := hbel.size
    obtain ⟨ao, cp, hv⟩ := own_form hown
    subst hv
    by_cases hlt : p < s.size
    · have hlt' : (p : Int) < (s.size : Int) := by omega
      by_cases h64 : Tx.bt s p = 64
      · have h64' := u8_64 ((Tx.bt_in hlt).symm.trans h64)
        by_cases h256 : out.length = 256
        · have HB : Hid _ := HR.out.trans (Tx.fq_many s f p out hlt h64 h256)
          clear h64 HR
          go_wp2
          go_ret3
          exact reads_bad HB.out rfl hbel
        · have h256' : (out.length : Int) < 256 := by omega
          go_wp2_with fail
          rw [show (p : Int) + 1 = ((p + 1 : Nat) : Int) from by omega]
          refine (nameAt_any s (p + 1) _ hs (by omega)).mono ?_
          rintro e w' ⟨hna, hw⟩
          subst w'
          rcases hna with ⟨he, rfl⟩ | ⟨he, rfl⟩
          · have HB : Hid _ := HR.out.trans (Tx.fq_name s f p out hlt h64 h256 he)
            clear h64 HR he
            go_wp2
            go_ret3
            exact reads_bad HB.out rfl hbel
          · obtain ⟨hen1, hen2⟩ := Tx.nEnd_lt he
            have HG : Hid _ := HR.out.trans (Tx.fq_go s f p out hlt h64 h256 he)
            clear h64 HR he
            generalize hnm : Tx.piece s (p + 1) (Tx.nEnd s (p + 1)) = nm at *
            clear hnm
            generalize Tx.nEnd s (p + 1) = en at *
            go_wp2_with fail
            rw [show (en : Int) + 1 = ((en + 1 : Nat) : Int) from by omega]
            refine (lettersAt_any s (en + 1) 128 _ hs (by omega) (by omega)).mono ?_
            rintro e w2 ⟨hla, hb2⟩
            have hb02 := hbel.trans (hb2.mono hsz)
            have hO2 := own_below hown hb2
            have hsz2 := hb02.size
            clear hown hb2 hbel
            rcases hla with ⟨hbad, rfl⟩ | ⟨hgood, rfl⟩
            · have HB : Hid _ := HG.out.trans (Tx.tail_bad s _ _ hbad)
              clear HG hbad
              go_wp2_with (go_at_call 66; refine (wrong_any s _ _ _ _).mono ?_; rintro e w' ⟨rfl, hw⟩; subst w')
              go_ret3
              exact reads_bad HB.out rfl hb02
            · obtain ⟨htg, h10, hpos, hsi⟩ := Tx.tail_good s (en + 1) (fun q x => Tx.fq s f q (out ++ [(nm, x)])) hgood
              have HP : Hid _ := HG.out.trans htg
              have hcl := Tx.caps_length s (Tx.rlen s (en + 1) 128) (en + 1)
              have hcle := Tx.rlen_le s 128 (en + 1)
              clear HG htg hgood
              generalize Tx.rlen s (en + 1) 128 = c at *
              generalize Tx.caps s (en + 1) c = cs at *
              obtain ⟨n1, hn1⟩ : ∃ n1, n1 = en + 1 + c + 1 := ⟨_, rfl⟩
              have HP1 : Hid (Tx.bt s n1 ≠ 43 → R = Tx.bad 5 n1) := fun h => by rw [hn1] at h ⊢; exact HP.out.trans (Tx.plus_bad1 s _ _ h10 h)
              have HP2 : Hid (Tx.bt s n1 = 43 → Tx.bt s (n1 + 1) ≠ 10 → R = Tx.bad 5 (n1 + 1)) := fun h h2 => by rw [hn1] at h h2 ⊢; exact HP.out.trans (Tx.plus_bad2 s _ _ h10 h h2)
              have HP3 : Hid (Tx.bt s n1 = 43 → Tx.bt s (n1 + 1) = 10 → R = Tx.fqQual s (n1 + 2) c (fun q => Tx.fq s f q (out ++ [(nm, cs)]))) := fun h h2 => by rw [hn1] at h h2 ⊢; exact HP.out.trans (Tx.plus_good s _ _ h10 h h2)
              rw [show ((en + 1 + c : Nat) : Int) + 1 = (n1 : Int) from by omega]
              have hpi : p + 3 ≤ n1 := by omega
              have hn1s : n1 ≤ s.size := by omega
              clear hn1 HP h10 hsi
              have hwr : IntKind.i64.wrap ((n1 : Int) + 1) = (n1 : Int) + 1 := wrap_small _ (by omega) (by omega)
              have k0 : ∀ wy, (Instr.index 9 (.string ⟨#[43, 10]⟩) (.int .i64 0)).run Tryz.prog wy = .ok (.int .u8 43) wy := fun _ => by kernel_rfl
              have k1 : ∀ wy, (Instr.index 9 (.string ⟨#[43, 10]⟩) (.int .i64 1)).run Tryz.prog wy = .ok (.int .u8 10) wy := fun _ => by kernel_rfl
              by_cases hA : Tx.bt s n1 = 43
              · have hA1 : n1 < s.size := Tx.bt_lt (by rw [hA]; decide)
                have hA2 := u8_43 ((Tx.bt_in hA1).symm.trans hA)
                have hd1 : decide ((s.size : Int) ≤ (n1 : Int)) = false := by simp; omega
                have hd1n : decide (s.size ≤ n1) = false := by simp; omega
                have hd2 : (n1 : Int) < (s.size : Int) := by omega
                by_cases hB : Tx.bt s (n1 + 1) = 10
                · have hB1 : n1 + 1 < s.size := Tx.bt_lt (by rw [hB]; decide)
                  have hB2 := u8_is10 ((Tx.bt_in hB1).symm.trans hB)
                  have HQ : Hid _ := HP3.out hA hB
                  have hd3 : decide ((s.size : Int) ≤ (n1 : Int) + 1) = false := by simp; omega
                  have hd4 : (n1 : Int) + 1 < (s.size : Int) := by omega
                  have hix := ix_str s (n1 + 1) hB1 ((n1 : Int) + 1) (by omega)
                  clear HP1 HP2 HP3 hA hB
                  go_wp2
                  refine wp_loop_rounds 3 ?_
                  rw [rounds_succ]
                  go_wp2_with fail
                  go_quiet (fail)
                  have hba := below_drewN hb02 nq
                  have hOa : (w2.drewN nq).ownsRow w.heap.size 63 2 (.slice ao out.length cp) out.length (Prs out) := own_below hO2 (below_drewN (Below.refl _ _) nq)
                  generalize w2.drewN nq = wa at *
                  go_wp2
                  rw [rounds_succ]
                  go_wp2_with fail
                  go_quiet (fail)
                  have hbb := below_drewN hba nq
                  have hOb : (wa.drewN nq).ownsRow w.heap.size 63 2 (.slice ao out.length cp) out.length (Prs out) := own_below hOa (below_drewN (Below.refl _ _) nq)
                  generalize wa.drewN nq = wb at *
                  go_wp2
                  rw [rounds_succ]
                  go_wp2
                  obtain ⟨j, hj⟩ : ∃ j, j = n1 + 2 := ⟨_, rfl⟩
                  rw [show (n1 : Int) + 2 = (j : Int) from by omega]
                  have HQ2 : Hid (R = Tx.fqQual s j c (fun q => Tx.fq s f q (out ++ [(nm, cs)]))) := by rw [hj]; exact HQ.out
                  have hjs : j ≤ s.size := by omega
                  have hpj : p < j := by omega
                  have HO2 : Hid _ := hOb
                  clear HQ hj hix k0 k1 hd1 hd1n hd2 hd3 hd4 hwr hB2 hA2 hO2 hOa hOb hb02 hba
                  go_loop [13] (fun i => ∃ k : Nat, k ≤ c + 1 ∧ i = .int .i64 (k : Int) ∧ (k ≤ c → j + k ≤ s.size) ∧ Hid (k ≤ c → Tx.qlen s j c = k + Tx.qlen s (j + k) (c - k)) ∧ Hid (k = c + 1 → R = Tx.fq s f (j + c + 1) (out ++ [(nm, cs)]) ∧ j + c < s.size)) (fun i => c + 1 - (intOf i).toNat)
                  case atStart => exact ⟨0, by omega, rfl, fun _ => by omega, fun _ => by simp, fun h => by omega⟩
                  case round =>
                    obtain ⟨k, hk, rfl, hjk, HK, HE⟩ := hrel
                    by_cases hkc : k ≤ c
                    · have hjk2 := hjk hkc
                      have hql := HK.out hkc
                      clear hjk HK HE
                      have hkc' : (k : Int) ≤ (cs.length : Int) := by omega
                      by_cases hin : j + k < s.size
                      · have hin' : ¬ (s.size : Int) ≤ (j : Int) + (k : Int) := by omega
                        have hbt := Tx.bt_in hin
                        rcases Nat.lt_or_ge k c with hlt2 | hge2
                        · have hlt3 : (k : Int) < (cs.length : Int) := by omega
                          rw [Tx.qlen_step s j c k hlt2, hbt] at hql
                          cases hq : Tx.ql s[j + k] with
                          | true =>
                            rw [hq, if_pos rfl] at hql
                            have hr := of_decide_eq_true hq
                            obtain ⟨hr1, hr2⟩ := hr
                            have HN : Hid (Tx.qlen s j c = (k + 1) + Tx.qlen s (j + (k + 1)) (c - (k + 1))) := by show _ = _; omega
                            have hke : ((k : Int) == (cs.length : Int)) = false := by rw [beq_eq_false_iff_ne]; omega
                            clear hql hq hbt
                            go_wp2
                            go_round
                            case rel => exact ⟨k + 1, by omega, by go_num, fun _ => by omega, fun _ => HN.out, fun h => by omega⟩
                            case measure => simp [intOf]; omega
                          | false =>
                            rw [hq, if_neg (by simp)] at hql
                            have hr : (s[j + k].toNat : Int) < 33 ∨ 126 < (s[j + k].toNat : Int) := by have := of_decide_eq_false hq; omega
                            have HB : Hid (R = Tx.bad 6 (j + k)) := by show _ = _; rw [HQ2.out, Tx.fqQual, hql, if_pos (.inl (by omega))]; rfl
                            clear hql hq hbt HQ2
                            rcases hr with hr | hr
                            all_goals
                              go_wp2
                              go_ret3
                              exact reads_bad HB.out (by omega) hbb
                        · have hkc3 : k = c := by omega
                          have hlt3 : ¬ (k : Int) < (cs.length : Int) := by omega
                          have hke : ((k : Int) == (cs.length : Int)) = true := by rw [beq_iff_eq]; omega
                          have hqc : Tx.qlen s j c = c := by rw [hql, hkc3, Nat.sub_self, Tx.qlen]; omega
                          by_cases h10 : s[j + k] = 10
                          · have h10' := u8_is10 h10
                            have HN : Hid (R = Tx.fq s f (j + c + 1) (out ++ [(nm, cs)]) ∧ j + c < s.size) := ⟨by
                              rw [HQ2.out, Tx.fqQual, hqc, if_neg (by rw [← hkc3, hbt]; simp [h10])], by omega⟩
                            have hkc4 : c ≤ k := by omega
                            clear hql hqc hbt h10 HQ2 hkc3
                            go_wp2
                            go_round
                            case rel => exact ⟨k + 1, by omega, by go_num, fun _ => by omega, fun h => by omega, fun _ => HN.out⟩
                            case measure => simp [intOf]; omega
                          · have h10' := u8_ne10 h10
                            have HB : Hid (R = Tx.bad 6 (j + k)) := by show _ = _; rw [HQ2.out, Tx.fqQual, hqc, if_pos (.inr (by rw [← hkc3, hbt]; exact h10)), hkc3]
                            clear hql hqc hbt h10 HQ2 hkc3
                            go_wp2
                            go_ret3
                            exact reads_bad HB.out (by omega) hbb
                      · have hjs2 : j + k = s.size := by omega
                        have hin' : (s.size : Int) ≤ (j : Int) + (k : Int) := by omega
                        have hqk : Tx.qlen s j c = k := by
                          rw [hql]
                          rcases Nat.lt_or_ge k c with hlt2 | hge2
                          · rw [Tx.qlen_step s j c k hlt2, Tx.bt_out hin, Tx.ql_zero]; simp
                          · rw [show c - k = 0 by omega, Tx.qlen]; omega
                        have HB : Hid (R = Tx.bad 6 s.size) := by
                          show _ = _
                          rw [HQ2.out, Tx.fqQual, hqk, if_pos ?_, hjs2]
                          right
                          rw [Tx.bt_out hin]; decide
                        clear hql hqk HQ2 hjs2
                        go_wp2
                        go_ret3
                        exact reads_bad HB.out rfl hbb
                    · obtain ⟨hE1, hE2⟩ := HE.out (by omega)
                      have HE1 : Hid _ := hE1
                      have hkc' : ¬ (k : Int) ≤ (cs.length : Int) := by omega
                      clear hjk HK HE HQ2 hE1
                      go_wp2_with (at_builtin; refine app_pair rfl _ _ 64 rfl w.heap.size 63 Tryz.underlying64 Tryz.infoRead _ out _ _ (nm, cs) rfl rfl rfl rfl (by exact HO2.out) hbb (by have := hbb.size; omega) (by omega) ?_; intro v' w3 hown3 hbel3 hsz3)
                      go_roundw
                      case rel => exact ⟨out ++ [(nm, cs)], j + c + 1, f - 1, by go_num, by simp; omega, by omega, by omega, by rw [show f - 1 + 1 = f by omega]; exact HE1, hown3, hbel3⟩
                      case measure => simp [intOf]; omega
                · have HB : Hid _ := HP2.out hA hB
                  have hcase : ¬ n1 + 1 < s.size ∨ (∃ h : n1 + 1 < s.size, ((s[n1 + 1].toNat : Int) != 10) = true) := by
                    by_cases h : n1 + 1 < s.size
                    · exact .inr ⟨h, u8_ne10 (fun h2 => hB ((Tx.bt_in h).trans h2))⟩
                    · exact .inl h
                  clear HP1 HP2 HP3 hA hB
                  rcases hcase with h1 | ⟨h1, h2⟩
                  · have hd3 : decide ((s.size : Int) ≤ (n1 : Int) + 1) = true := by simp; omega
                    go_wp2
                    refine wp_loop_rounds 2 ?_
                    rw [rounds_succ]
                    go_wp2_with fail
                    go_quiet (fail)
                    go_wp2
                    rw [rounds_succ]
                    go_wp2_with fail
                    go_quiet (fail)
                    go_wp2
                    go_ret3
                    exact reads_bad HB.out (by omega) (below_drewN hb02 _)
                  · have hd3 : decide ((s.size : Int) ≤ (n1 : Int) + 1) = false := by simp; omega
                    have hd4 : (n1 : Int) + 1 < (s.size : Int) := by omega
                    have hix := ix_str s (n1 + 1) h1 ((n1 : Int) + 1) (by omega)
                    go_wp2
                    refine wp_loop_rounds 2 ?_
                    rw [rounds_succ]
                    go_wp2_with fail
                    go_quiet (fail)
                    go_wp2
                    rw [rounds_succ]
                    go_wp2_with fail
                    go_quiet (fail)
                    go_wp2
                    go_ret3
                    exact reads_bad HB.out (by omega) (below_drewN hb02 _)
              · have HB : Hid _ := HP1.out hA
                have hcase : ¬ n1 < s.size ∨ (∃ h : n1 < s.size, ((s[n1].toNat : Int) != 43) = true) := by
                  by_cases h : n1 < s.size
                  · exact .inr ⟨h, u8_n43 (fun h2 => hA ((Tx.bt_in h).trans h2))⟩
                  · exact .inl h
                clear HP1 HP2 HP3 hA
                rcases hcase with h1 | ⟨h1, h2⟩
                · have hd : decide (s.size ≤ n1) = true := by simp; omega
                  go_wp2
                  refine wp_loop_rounds 1 ?_
                  rw [rounds_succ]
                  go_wp2_with fail
                  go_quiet (fail)
                  go_wp2
                  go_ret3
                  exact reads_bad HB.out (by omega) (below_drewN hb02 _)
                · have hd : decide (s.size ≤ n1) = false := by simp; omega
                  have hd2 : (n1 : Int) < (s.size : Int) := by omega
                  go_wp2
                  refine wp_loop_rounds 1 ?_
                  rw [rounds_succ]
                  go_wp2_with fail
                  go_quiet (fail)
                  go_wp2
                  go_ret3
                  exact reads_bad HB.out (by omega) (below_drewN hb02 _)
      · have HB : Hid _ := HR.out.trans (Tx.fq_stop s f p out hlt h64)
        have h64' := u8_n64 (fun h => h64 ((Tx.bt_in hlt).trans h))
        clear h64 HR
        go_wp2
        go_ret3
        exact reads_bad HB.out rfl hbel
    · have HB : Hid _ := HR.out.trans (Tx.fq_end s f p out hlt)
      have hlt' : ¬ (p : Int) < (s.size : Int) := by omega
      clear HR
      go_wp2
      go_ret3
      rw [HB.out]
      exact ⟨_, rfl, hown, hbel, fun h => absurd rfl h⟩

end Go.Proofs.YtfcbgfomhmcikaaGreatDoor

namespace Go.Proofs.YtfcbgfomhmcikaaGreatDoor
open Go.RowKit

/-- the fields of the first line, and what is behind it -/
def Ln.flds (acc : List (List UInt8)) (cur : List UInt8) : List UInt8 → Option (List (List UInt8) × List UInt8)
  | [] => none
  | c :: t => if c = 10 then some (acc ++ [cur], t) else if c = 9 then Ln.flds (acc ++ [cur]) [] t else Ln.flds acc (cur ++ [c]) t

/-- texts, as cells -/
def Txs (l : List (List UInt8)) : List Value := l.map (fun x => .string ⟨x.toArray⟩)
theorem Txs_length (l : List (List UInt8)) : (Txs l).length = l.length := by simp [Txs]
theorem Txs_append (a b : List (List UInt8)) : Txs (a ++ b) = Txs a ++ Txs b := by simp [Txs]

theorem piece_none (s : ByteArray) (p : Nat) : Tx.piece s p p = [] := by simp [Tx.piece]
theorem piece_snoc (s : ByteArray) (p q : Nat) (h : p ≤ q) (hq : q < s.size) : Tx.piece s p (q + 1) = Tx.piece s p q ++ [s[q]] := by
  unfold Tx.piece
  rw [show q + 1 - p = (q - p) + 1 by omega, List.take_succ_eq_append_getElem (by simp; have : q < s.data.size := hq; omega)]
  congr 1
  rw [List.getElem_drop]
  simp only [show p + (q - p) = q by omega]
  rfl
theorem drop_cons (s : ByteArray) (k : Nat) (h : k < s.size) : s.data.toList.drop k = s[k] :: s.data.toList.drop (k + 1) := by
  rw [List.drop_eq_getElem_cons (by simpa using h)]
  rfl

theorem Tryz.infoStr2 : (Tryz.prog.info? 9).map (fun i => (i.zero, i.size, i.bytes)) = some (some (.string ⟨#[]⟩), 1, 16) := by kernel_rfl

theorem one_cell (w : World) (a : Value) (e : TypeId) : ∀ j u, [a][j]? = some u → (w.alloc (.cells #[a] e)).cell? ((⟨w.heap.size, 0, none⟩ : Addr).add j) = some u := by
  intro j u hj
  rw [Addr.add_lit, Nat.zero_add, cell_of_row _ _ j #[a] e (0, 0) (heap_alloc_new w _), ← hj]
  simp

set_option maxRecDepth 100000 in
set_option maxHeartbeats 1600000 in
theorem fields_any (s : ByteArray) (at_ : Nat) (w : World) (hs : s.size ≤ 1000000000) (hat : at_ ≤ s.size) :
    Calls Tryz.prog 81 #[.string s, .int .i64 (at_ : Int)] w fun e w' => Below w.heap.size w w' ∧
      ((Ln.flds [] [] (s.data.toList.drop at_) = none ∧ e = .returned (.tuple #[.slice none 0 0, .int .i64 (-1)])) ∨
       ∃ l k v, Ln.flds [] [] (s.data.toList.drop at_) = some (l, s.data.toList.drop k) ∧ at_ < k ∧ k ≤ s.size ∧ e = .returned (.tuple #[v, .int .i64 (k : Int)]) ∧ w'.ownsRow w.heap.size 9 1 v l.length (Txs l)) := by
  obtain ⟨R, hR⟩ : ∃ R, R = Ln.flds [] [] (s.data.toList.drop at_) := ⟨_, rfl⟩
  rw [← hR]
  have HR : Hid (R = Ln.flds [] (Tx.piece s at_ at_) (s.data.toList.drop at_)) := by show _ = _; rw [hR, piece_none]
  clear hR
  go_enter Tryz.func81, Tryz.ntmps81
  go_wp2
  go_loopw [6, 7, 8] (fun v fr i wr => ∃ (k f : Nat) (acc : List (List UInt8)), at_ ≤ f ∧ f ≤ k ∧ k ≤ s.size ∧ i = .int .i64 (k : Int) ∧ fr = .int .i64 (f : Int) ∧ wr.ownsRow w.heap.size 9 1 v acc.length (Txs acc) ∧ acc.length ≤ k ∧ Below w.heap.size w wr ∧ Hid (R = Ln.flds acc (Tx.piece s f k) (s.data.toList.drop k))) (fun _ _ i _ => s.size - (intOf i).toNat)
  case atStart => exact ⟨at_, at_, [], Nat.le_refl _, Nat.le_refl _, hat, rfl, rfl, World.ownsRow_nil _ _ _ _, Nat.zero_le _, Below.refl _ _, HR⟩
  case round =>
    clear HR
    obtain ⟨k, f, acc, haf, hfk, hk, rfl, rfl, hown, hal, hbel, HR⟩ := hrel
    by_cases hlt : k < s.size
    · have hlt' : (k : Int) < (s.size : Int) := by omega
      have HD : Hid _ := drop_cons s k hlt
      have HPS : Hid _ := piece_snoc s f k hfk hlt
      have hi1 := ix_str s k hlt (k : Int) rfl
      obtain ⟨va, vcap, hv⟩ := own_form hown
      subst hv
      have hsz := hbel.size
      have HO : Hid _ := hown
      have HB : Hid _ := hbel
      have hex := extract_piece s f k
      obtain ⟨P, hP⟩ : ∃ P, P = Tx.piece s f k := ⟨_, rfl⟩
      rw [← hP] at HR HPS hex
      clear hP hown hbel
      have h910 : (((s[k].toNat : Int) == 9) = true ∧ s[k] = 9) ∨ (((s[k].toNat : Int) == 9) = false ∧ ((s[k].toNat : Int) == 10) = true ∧ s[k] = 10) ∨ (((s[k].toNat : Int) == 9) = false ∧ ((s[k].toNat : Int) == 10) = false ∧ s[k] ≠ 9 ∧ s[k] ≠ 10) :=
        Lt.every (p := fun c => (((c.toNat : Int) == 9) = true ∧ c = 9) ∨ (((c.toNat : Int) == 9) = false ∧ ((c.toNat : Int) == 10) = true ∧ c = 10) ∨ (((c.toNat : Int) == 9) = false ∧ ((c.toNat : Int) == 10) = false ∧ c ≠ 9 ∧ c ≠ 10)) (by decide +kernel) s[k]
      rcases h910 with ⟨h9, hc⟩ | ⟨h9, h10, hc⟩ | ⟨h9, h10, hc9, hc10⟩
      · have h10 : ((s[k].toNat : Int) == 10) = false := by rw [hc]; decide
        have HR2 : Hid (R = Ln.flds (acc ++ [P]) (Tx.piece s (k + 1) (k + 1)) (s.data.toList.drop (k + 1))) := by
          show _ = _
          rw [HR.out, HD.out, Ln.flds, if_neg (by rw [hc]; decide), if_pos hc, piece_none]
        clear HR HD HPS hc
        go_wp2_with (at_builtin; refine app_src rfl _ _ 120 rfl w.heap.size 9 _ 1 16 Tryz.underlying120 Tryz.infoStr2 rfl (by decide) (.slice va acc.length vcap) acc.length (Txs acc) (.slice (some ⟨wr.heap.size, 0, none⟩) 1 1) 1 [.string ⟨P.toArray⟩] rfl rfl (by exact World.ownsRow.alloc HO.out _) (.inr ⟨_, _, rfl, by exact one_cell _ _ _⟩) rfl (by simp [Value.oneCell']) (by exact Below.alloc HB.out hsz _) (by simp; omega) (by omega) (by decide) ?_; intro v3 w3 hown3 hbel3 _ _)
        go_roundw
        case rel => exact ⟨k + 1, k + 1, acc ++ [P], by omega, Nat.le_refl _, by omega, by go_num, by go_num, by rw [Txs_append, List.length_append]; exact hown3, by rw [List.length_append]; simp; omega, hbel3, HR2.out⟩
        case measure => simp [intOf]; omega
      · have HR2 : Hid (R = some (acc ++ [P], s.data.toList.drop (k + 1))) := by
          show _ = _
          rw [HR.out, HD.out, Ln.flds, if_pos hc]
        clear HR HD HPS hc
        go_wp2_with (at_builtin; refine app_src rfl _ _ 120 rfl w.heap.size 9 _ 1 16 Tryz.underlying120 Tryz.infoStr2 rfl (by decide) (.slice va acc.length vcap) acc.length (Txs acc) (.slice (some ⟨wr.heap.size, 0, none⟩) 1 1) 1 [.string ⟨P.toArray⟩] rfl rfl (by exact World.ownsRow.alloc HO.out _) (.inr ⟨_, _, rfl, by exact one_cell _ _ _⟩) rfl (by simp [Value.oneCell']) (by exact Below.alloc HB.out hsz _) (by simp; omega) (by omega) (by decide) ?_; intro v3 w3 hown3 hbel3 _ _)
        go_ret2
        exact ⟨hbel3, .inr ⟨acc ++ [P], k + 1, v3, HR2.out, by omega, by omega, rfl, by rw [Txs_append, List.length_append]; exact hown3⟩⟩
      · have HR2 : Hid (R = Ln.flds acc (Tx.piece s f (k + 1)) (s.data.toList.drop (k + 1))) := by
          show _ = _
          rw [HR.out, HD.out, Ln.flds, if_neg hc10, if_neg hc9, HPS.out]
        clear HR HD HPS hc9 hc10
        go_wp2
        go_roundw
        case rel => exact ⟨k + 1, f, acc, haf, by omega, by omega, by go_num, rfl, HO.out, by omega, HB.out, HR2.out⟩
        case measure => simp [intOf]; omega
    · have hlt' : ¬ (k : Int) < (s.size : Int) := by omega
      have HR2 : Hid (R = none) := by show _ = _; rw [HR.out, List.drop_of_length_le (by simp; omega)]; rfl
      have HB : Hid _ := hbel
      clear HR hown hbel
      go_wp2
      go_ret2
      exact ⟨HB.out, .inl ⟨HR2.out, rfl⟩⟩

end Go.Proofs.YtfcbgfomhmcikaaGreatDoor

namespace Go.Proofs.YtfcbgfomhmcikaaGreatDoor
open Go.RowKit

def Ln.isDig (c : UInt8) : Bool := decide (48 ≤ (c.toNat : Int)) && decide ((c.toNat : Int) ≤ 57)
def Ln.numv (l : List UInt8) : Nat := l.foldl (fun n c => 10 * n + (c.toNat - 48)) 0
/-- the number that digits are; -1: they are none, or too many -/
def Ln.num (l : List UInt8) : Int := if l.length = 0 then -1 else if 6 < l.length then -1 else if l.all Ln.isDig = false then -1 else (Ln.numv l : Int)

theorem numv_snoc (l : List UInt8) (c : UInt8) : Ln.numv (l ++ [c]) = 10 * Ln.numv l + (c.toNat - 48) := by simp [Ln.numv, List.foldl_append]

set_option maxRecDepth 100000 in
set_option maxHeartbeats 400000 in
theorem number_any (s : ByteArray) (w : World) (hs : s.size ≤ 140737488355327) :
    Calls Tryz.prog 117 #[.string s] w fun e w' => e = .returned (.int .i64 (Ln.num s.data.toList)) ∧ w' = w := by
  have hsz : s.data.toList.length = s.size := by simp
  obtain ⟨R, hR⟩ : ∃ R, R = Ln.num s.data.toList := ⟨_, rfl⟩
  rw [← hR]
  have HR : Hid (R = if s.size = 0 then -1 else if 6 < s.size then -1 else if s.data.toList.all Ln.isDig = false then -1 else (Ln.numv s.data.toList : Int)) := by show _ = _; rw [hR, Ln.num, hsz]
  clear hR hsz
  go_enter Tryz.func117, Tryz.ntmps117
  go_wp2
  go_loop [3, 4] (fun t i => ∃ k N : Nat, k ≤ s.size ∧ k ≤ 6 ∧ N < 1000000 ∧ i = .int .i64 (k : Int) ∧ t = .int .i64 (N : Int) ∧ Hid (N < 10 ^ k) ∧ Hid (N = Ln.numv (s.data.toList.take k)) ∧ Hid ((s.data.toList.take k).all Ln.isDig = true)) (fun _ i => s.size - (intOf i).toNat)
  case atStart => exact ⟨0, 0, Nat.zero_le _, by omega, by omega, rfl, rfl, by simp [Hid], by simp [Hid, Ln.numv], by simp [Hid]⟩
  case round =>
    obtain ⟨k, N, hk, hk6, hN, rfl, rfl, HP, HN, HA⟩ := hrel
    by_cases hlt : k < s.size
    · have hlt' : (k : Int) < (s.size : Int) := by omega
      have hi1 := ix_str s k hlt (k : Int) rfl
      cases hd : Ln.isDig s[k] with
      | false =>
        have HF : Hid (R = -1) := by
          show _ = _
          rw [HR.out, all_stop Ln.isDig s k hlt hd]
          split; rfl; split; rfl; rfl
        have hd' : (s[k].toNat : Int) < 48 ∨ 57 < (s[k].toNat : Int) := by
          simp only [Ln.isDig, Bool.and_eq_false_iff, decide_eq_false_iff_not] at hd
          omega
        clear hd HP HN HA
        rcases hd' with hd' | hd'
        · go_wp2
          go_ret
          exact ⟨ret_int HF.out.symm, rfl⟩
        · have h48 : ¬ (s[k].toNat : Int) < 48 := by omega
          go_wp2
          go_ret
          exact ⟨ret_int HF.out.symm, rfl⟩
      | true =>
        have hd' : 48 ≤ (s[k].toNat : Int) ∧ (s[k].toNat : Int) ≤ 57 := by
          simpa [Ln.isDig] using hd
        have h48 : ¬ (s[k].toNat : Int) < 48 := by omega
        have h57 : ¬ 57 < (s[k].toNat : Int) := by omega
        by_cases h5 : 5 < k
        · have HF : Hid (R = -1) := by
            show _ = _
            rw [HR.out, if_neg (by omega), if_pos (by omega)]
          have h5' : (5 : Int) < (k : Int) := by omega
          clear hd HP HN HA
          go_wp2
          go_ret
          exact ⟨ret_int HF.out.symm, rfl⟩
        · have h5' : ¬ (5 : Int) < (k : Int) := by omega
          have hp5 : (10 : Nat) ^ k ≤ 10 ^ 5 := Nat.pow_le_pow_right (by omega) (by omega)
          have hN5 : N < 100000 := by
            have h1 := HP.out
            have : (10 : Nat) ^ 5 = 100000 := by decide
            omega
          have HN2 : Hid (10 * N + s[k].toNat - 48 = Ln.numv (s.data.toList.take (k + 1))) := by
            show _ = _
            rw [Lt.take_snoc s k hlt, numv_snoc, ← HN.out]
            omega
          have HP2 : Hid (10 * N + s[k].toNat - 48 < 10 ^ (k + 1)) := by
            show _ < _
            rw [Nat.pow_succ]
            have := HP.out
            omega
          have HA2 : Hid ((s.data.toList.take (k + 1)).all Ln.isDig = true) := by show _ = _; rw [all_take_succ Ln.isDig s k hlt, HA.out, hd]; rfl
          clear hd HP HN HA hp5
          obtain ⟨C, hC⟩ : ∃ C : Nat, C = s[k].toNat := ⟨_, rfl⟩
          rw [← hC] at hi1 h48 h57 hd' HN2 HP2
          clear hC
          obtain ⟨c1, c2⟩ := hd'
          go_wp2
          go_round
          case rel => exact ⟨k + 1, 10 * N + C - 48, by omega, by omega, by omega, by go_num, by first | go_num | (congr 1; omega), HP2.out, HN2.out, HA2.out⟩
          case measure => simp [intOf]; omega
    · have hke : k = s.size := by omega
      have hlt' : ¬ (k : Int) < (s.size : Int) := by omega
      by_cases h0 : s.size = 0
      · have HF : Hid (R = -1) := by show _ = _; rw [HR.out, if_pos h0]
        have h0' : ((s.size : Int) == 0) = true := by rw [beq_iff_eq]; omega
        clear HP HN HA hke h0
        go_wp2
        go_ret
        exact ⟨ret_int HF.out.symm, rfl⟩
      · have HF : Hid (R = (N : Int)) := by
          show _ = _
          have h1 := HA.out
          have h2 := HN.out
          rw [hke, List.take_of_length_le (by simp)] at h1 h2
          rw [HR.out, if_neg h0, if_neg (by omega), h1, ← h2]
          rfl
        have h0' : ((s.size : Int) == 0) = false := by rw [beq_eq_false_iff_ne]; omega
        clear HP HN HA hke h0
        go_wp2
        go_ret
        exact ⟨ret_int HF.out.symm, rfl⟩

end Go.Proofs.YtfcbgfomhmcikaaGreatDoor
